/-
  Own texts for a law of chapter 8: Wlk0 Run4 Run5 Run6 Run7 Wlk1 Wlk2 Words5
-/
import Derived.Test.YthpdpoocigpccaaGreatDoorKU01
import Derived.Test.YthpdpoocigpccaaGreatDoorKU03
import Derived.Test.YthpdpoocigpccaaGreatDoorKU06
import Derived.Test.YthpdpoocigpccaaGreatDoorKU08
import Derived.Deep.Draws
import Derived.Below
namespace Go.Proofs.YthpdpoocigpccaaGreatDoor
open Go.RowKit Go.Shelf
set_option linter.unusedVariables false
set_option maxRecDepth 100000
set_option maxHeartbeats 16000000
structure WC where
 B:Nat
 M:Nat
 Mc:Nat
 fb:Nat
 fo:Nat
 Fc:Nat
 hb:Nat
 ho:Nat
 Hc:Nat
 eb:Nat
 eo:Nat
 Ec:Nat
 ob:Nat
 oo:Nat
 Oc:Nat
 fs:List Fn
 d:ByteArray
def WC.vals (c:WC) (fuel code:Int):List Value :=
 [.slice (some ⟨c.fb,c.fo,none⟩) c.fs.length c.Fc,.string c.d,.slice (some ⟨c.hb,c.ho,none⟩) c.fs.length c.Hc,.slice (some ⟨c.eb,c.eo,none⟩) c.fs.length c.Ec,.slice (some ⟨c.ob,c.oo,none⟩) c.fs.length c.Oc,.slice (some ⟨c.M,0,none⟩) 64 c.Mc,.int .i64 fuel,.int .i64 code]
structure Agr (c:WC) (W0 W:World):Prop where
 os:W.os=W0.os
 tape:W.tape=W0.tape
 out:W.output=W0.output
 size:W0.heap.size ≤ W.heap.size
 blk:∀ i,i < W0.heap.size → i ≠ c.B → i ≠ c.M → W.heap[i]? = W0.heap[i]?
theorem Agr.refl (c:WC) (W:World):Agr c W W:=⟨rfl,rfl,rfl,Nat.le_refl _,fun _ _ _ _ => rfl⟩
theorem Agr.trans {c:WC} {W0 W1 W2:World} (h:Agr c W0 W1) (k:Agr c W1 W2):Agr c W0 W2 :=
 ⟨k.os.trans h.os,k.tape.trans h.tape,k.out.trans h.out,Nat.le_trans h.size k.size,fun i hi h1 h2 => (k.blk i (Nat.lt_of_lt_of_le hi h.size) h1 h2).trans (h.blk i hi h1 h2)⟩
theorem Agr.below {c:WC} {W W':World} (h:Below W.heap.size W W'):Agr c W W':=⟨h.os,h.tape,h.output,h.size,fun i hi _ _ => h.block i hi⟩
theorem Agr.grown {c:WC} {W W':World} {row:Option Nat} (h:W.grownBy W' row) (hr:row=none ∨ row=some c.B ∨ row=some c.M ∨ ∃ r,row=some r ∧ W.heap.size ≤ r):Agr c W W' :=
 ⟨h.os,h.tape,h.output,h.size,fun i hi h1 h2 => h.block i hi (by
   rcases hr with rfl | rfl | rfl | ⟨r,rfl,hr⟩
   · simp
   · simpa using h1
   · simpa using h2
   · simp only [ne_eq,Option.some.injEq];omega)⟩
def TL (W:World) (b off:Nat) (n:Nat) (f:Nat → List Int):Prop:=∀ k,k < n → ∃ a m c,W.cell? ⟨b,off + k,none⟩=some (.slice a m c) ∧ IL W a m (f k)
structure Tab (c:WC) (W0:World):Prop where
 fl:∀ W,Agr c W0 W → FL W (some ⟨c.fb,c.fo,none⟩) c.fs.length c.fs
 th:∀ W,Agr c W0 W → TL W c.hb c.ho c.fs.length (Mn.hts c.fs)
 te:∀ W,Agr c W0 W → TL W c.eb c.eo c.fs.length (fun k => Nst.ends (Mn.fn c.fs k).b)
 tn:∀ W,Agr c W0 W → TL W c.ob c.oo c.fs.length (fun k => Nst.elses (Mn.fn c.fs k).b)
 val:Mn.Val c.fs
 ne:c.B ≠ c.M
 fbn:c.fb < W0.heap.size ∧ c.fb ≠ c.B ∧ c.fb ≠ c.M
structure WK (c:WC) (W0 W:World) (mem:List Int) (fuel code:Int):Prop where
 agr:Agr c W0 W
 box:BoxL W c.B (c.vals fuel code)
 row:W.ownsRow 0 2 1 (.slice (some ⟨c.M,0,none⟩) 64 c.Mc) 64 (mem.map iv)
theorem WK.kept {c:WC} {W0 W W':World} {mem:List Int} {fuel code:Int} (h:WK c W0 W mem fuel code) (hB:Below W.heap.size W W'):WK c W0 W' mem fuel code :=
 ⟨h.agr.trans (Agr.below hB),h.box.kept hB,h.row.kept (row:=none) ⟨hB.os,hB.tape,hB.output,hB.size,fun k hk _ => hB.block k hk⟩ (.inr (by simp [Value.ownBlock]))⟩
theorem fl_at {W:World} {b off n k:Nat} {fs:List Fn} (h:FL W (some ⟨b,off,none⟩) n fs) (hk:k < n) :
   W.cell? ⟨b,off + k * 4,none⟩=some (.int .i64 (Mn.fn fs k).a) ∧ W.cell? ⟨b,off + k * 4 + 1,none⟩=some (.int .i64 (Mn.fn fs k).l) ∧ W.cell? ⟨b,off + k * 4 + 2,none⟩=some (.int .i64 (Mn.fn fs k).g) ∧
     ∃ ba bl bc,W.cell? ⟨b,off + k * 4 + 3,none⟩=some (.slice ba bl bc) ∧ SL W ba bl (Mn.fn fs k).b:=by
 obtain ⟨-, -,h3 | ⟨b',off',e,hb,hx⟩⟩:=h
 · omega
 · simp only [Option.some.injEq,Addr.mk.injEq,and_true] at e
   obtain ⟨rfl,rfl⟩:=e
   exact hx k hk
def Mn.lbl (f:Fn) (E H:List Int) (at':Nat) (dp:Int):Int × Int × Int :=
 if dp.toNat < (Nst.arnd f.b E at' at').length then
   let t:=((Nst.arnd f.b E at' at').getD dp.toNat (-1)).toNat
   if Nst.op f.b t=9 then ((t:Int) + 1,H.getD t 0,0)
   else if Nst.op f.b t=10 then (Nst.at1 E t + 1,H.getD t 0 - 1,Hg.arg f.b t)
   else (Nst.at1 E t + 1,H.getD t 0,Hg.arg f.b t)
 else (-1,0,f.g)
def Stays (W W':World):Prop:=∀ (i:Nat) (cs:Array Value) (t:TypeId) (fz:Nat × Nat),W.heap[i]? = some (.cells cs t fz) → t ≠ 91 → t ≠ 131 → t ≠ 93 → t ≠ 171 → W'.heap[i]? = W.heap[i]?
theorem Stays.refl (W:World):Stays W W:=fun _ _ _ _ _ _ _ _ _ => rfl
theorem Stays.trans {W W1 W2:World} (h:Stays W W1) (k:Stays W1 W2):Stays W W2:=fun i cs t fz e h1 h2 h3 h4 => by
 have e1:=h i cs t fz e h1 h2 h3 h4
 rw [k i cs t fz (e1.trans e) h1 h2 h3 h4,e1]
theorem Stays.below {W W':World} (h:Below W.heap.size W W'):Stays W W':=fun i cs t fz e _ _ _ _ => h.block i (Array.getElem?_eq_some_iff.1 e).1
theorem Stays.grown {W W':World} {r:Nat} (h:W.grownBy W' (some r)) {cs:Array Value} {t:TypeId} {fz:Nat × Nat} (e:W.heap[r]? = some (.cells cs t fz)) (ht:t=91 ∨ t=131 ∨ t=93 ∨ t=171):Stays W W':=fun i cs' t' fz' e' h1 h2 h3 h4 => by
 refine h.block i (Array.getElem?_eq_some_iff.1 e').1 (fun q => ?_)
 cases q
 rw [e] at e'
 cases e'
 rcases ht with rfl | rfl | rfl | rfl
 · exact h1 rfl
 · exact h2 rfl
 · exact h3 rfl
 · exact h4 rfl
theorem Stays.none {W W':World} (h:W.grownBy W' none):Stays W W':=fun i cs t fz e _ _ _ _ => h.block i (Array.getElem?_eq_some_iff.1 e).1 (by simp)
theorem Stays.row {W W':World} {base e k n:Nat} {v:Value} {xs:List Value} (hr:W.ownsRow base e k v n xs) (he:e=93 ∨ e=171) (hg:W.grownBy W' v.ownBlock):Stays W W':=by
 rcases hr.2 with ⟨rfl, -⟩ | ⟨g,cap,cur,rfl, -,hc, -⟩
 · exact Stays.none hg
 · refine Stays.grown (r:=g) hg hc ?_
   rcases he with h | h
   · exact .inr (.inr (.inl h))
   · exact .inr (.inr (.inr h))
theorem Arr.stays {W W':World} {g:Nat} {t:TypeId} {vs:List Value} (h:Arr W g t vs) (hs:Stays W W') (h1:t ≠ 91) (h2:t ≠ 131) (h3:t ≠ 93) (h4:t ≠ 171):Arr W' g t vs:=(hs g _ _ _ h h1 h2 h3 h4).trans h
structure PC where
 P:Nat
 fuel:Nat
 fs:List Fn
 fb:Nat
 fo:Nat
 Fc:Nat
 nb:Nat
 Nc:Nat
 ns:Nat → Nat
def PC.fv (c:PC):Value:=.slice (some ⟨c.fb,c.fo,none⟩) c.fs.length c.Fc
def PC.nv (c:PC):Value:=.slice (some ⟨c.nb,0,none⟩) c.fs.length c.Nc
structure TabP (c:PC) (W0:World):Prop where
 fl:∀ W,AgP c.P W0 W → FL W (some ⟨c.fb,c.fo,none⟩) c.fs.length c.fs
 nl:∀ W,AgP c.P W0 W → ∀ k,k < c.fs.length → W.cell? ⟨c.nb,k,none⟩=some (.pointer (some ⟨c.ns k,0,none⟩)) ∧
   (∃ a n cp,W.cell? ⟨c.ns k,2,none⟩=some (.slice a n cp) ∧ IL W a n (Nst.ends (Mn.fn c.fs k).b)) ∧ ∃ a n cp,W.cell? ⟨c.ns k,3,none⟩=some (.slice a n cp) ∧ IL W a n (Nst.elses (Mn.fn c.fs k).b)
 val:Mn.Val c.fs
 f3:c.fuel ≤ 3000
 fbn:c.fb < W0.heap.size ∧ c.fb ≠ c.P
structure KK where
 w:World
 k:Nat
 d:Nat
 C:Nat
 gl:Nat
 nl:Nat
 bb:Nat
 bo:Nat
 bl:Nat
 bc:Nat
def KK.vals (q:KK) (c:PC) (v u:Value) (at1:Int):List Value :=
 [.pointer (some ⟨c.P,0,none⟩),.slice (some ⟨q.bb,q.bo,none⟩) q.bl q.bc,.pointer (some ⟨c.ns q.k,0,none⟩),.slice (some ⟨q.gl,0,none⟩) q.nl q.nl,v,u,.int .i64 at1]
structure KM (c:PC) (q:KK) (at1:Int) (pile loc mem:List Int) (ls:List Mn.Lb) (b:Int) (W:World):Prop where
 agr:AgP c.P q.w W
 pb:Arr W c.P 91 (PB mem c.fuel b ((q.d + 1:Nat):Int) c.fv c.nv)
 ml:mem.length=64
 ll:loc.length=q.nl
 box:∃ v u,Arr W q.C 131 (q.vals c v u at1) ∧ W.ownsRow (q.C + 1) 93 1 v pile.length (pile.map wv) ∧ W.ownsRow (q.C + 1) 171 4 u ls.length (encL ls.reverse)
 lr:W.ownsRow q.w.heap.size 93 1 (.slice (some ⟨q.gl,0,none⟩) q.nl q.nl) q.nl (loc.map wv)
 o1:c.P < q.w.heap.size
 o2:q.gl < q.C
section
variable {c:PC} {q:KK} {at1:Int} {pile loc mem:List Int} {ls:List Mn.Lb} {b:Int} {W W':World}
theorem KM.gl (K:KM c q at1 pile loc mem ls b W):q.w.heap.size ≤ q.gl:=(K.lr.lt q.gl rfl).1
theorem KM.inC (K:KM c q at1 pile loc mem ls b W):q.C < W.heap.size:=by obtain ⟨v,u,h, -⟩:=K.box;exact h.lt
theorem KM.kept (K:KM c q at1 pile loc mem ls b W) (hB:Below W.heap.size W W'):KM c q at1 pile loc mem ls b W':=by
 obtain ⟨v,u,h1,h2,h3⟩:=K.box
 exact ⟨K.agr.trans (AgP.below hB),K.pb.kept hB,K.ml,K.ll,⟨v,u,h1.kept hB,row_kept2 h2 hB,row_kept2 h3 hB⟩,row_kept2 K.lr hB,K.o1,K.o2⟩
theorem row_off' {n₀ e k n b:Nat} {v:Value} {xs:List Value} (h:W.ownsRow n₀ e k v n xs) {row:Option Nat} (hg:W.grownBy W' row) (hb:∀ g,v.ownBlock=some g → row ≠ some g):W'.ownsRow n₀ e k v n xs:=by
 refine h.kept hg ?_
 rcases hv:v.ownBlock with _ | g
 · exact .inl rfl
 · exact .inr (fun e => hb g hv e.symm)
theorem rows_apart {b0 b1 e0 e1 k0 k1 n0 n1:Nat} {v u:Value} {xs ys:List Value} (h0:W.ownsRow b0 e0 k0 v n0 xs) (h1:W.ownsRow b1 e1 k1 u n1 ys) (he:e0 ≠ e1):∀ g,u.ownBlock=some g → v.ownBlock ≠ some g:=by
 intro g hg hv
 rcases h0.2 with ⟨rfl,_⟩ | ⟨g0,c0,cur,rfl,_,hb,_⟩
 · cases hv
 rcases h1.2 with ⟨rfl,_⟩ | ⟨g1,c1,cur',rfl,_,hb',_⟩
 · cases hg
 cases hv
 cases hg
 rw [hb] at hb'
 simp only [Option.some.injEq,Obj.cells.injEq] at hb'
 exact he hb'.2.1
theorem KM.rowV (K:KM c q at1 pile loc mem ls b W) {v u v':Value} {wA:World} {pile':List Int} (hA:Arr W q.C 131 (q.vals c v u at1)) (hv:W.ownsRow (q.C + 1) 93 1 v pile.length (pile.map wv)) (hu:W.ownsRow (q.C + 1) 171 4 u ls.length (encL ls.reverse))
   (hg:W.grownBy wA v.ownBlock) (hown:wA.ownsRow (q.C + 1) 93 1 v' pile'.length (pile'.map wv)):KM c q at1 pile' loc mem ls b (wA.setCell ⟨q.C,4,none⟩ v') ∧ Stays W (wA.setCell ⟨q.C,4,none⟩ v'):=by
 have g2:=grownBy_set' wA ⟨q.C,4,none⟩ v'
 have o0:=K.gl
 have o1:=K.o1
 have o2:=K.o2
 have hb:∀ r,v.ownBlock=some r → q.C + 1 ≤ r:=fun r e => (hv.lt r e).1
 have hn:∀ n,n ≤ q.C → some n ≠ v.ownBlock:=fun n hn e => by have:=hb n e.symm;omega
 have A1:=hA.far hg (hn _ (Nat.le_refl _))
 refine ⟨⟨(K.agr.grow hg (fun r e => .inl (by have:=hb r e;omega))).grow g2 (fun r e => .inl (by simp only [Option.some.injEq] at e;omega)),(K.pb.far hg (hn _ (by omega))).far g2 (by simp only [ne_eq,Option.some.injEq];omega),K.ml,K.ll,⟨v',u,A1.set 4 v',row_off' (b:=0) hown g2 (fun g e => by have:=(hown.lt g e).1;simp only [ne_eq,Option.some.injEq];omega),?_⟩,?_,o1,o2⟩,?_⟩
 · refine row_off' (b:=0) (row_off' (b:=0) hu hg (rows_apart hv hu (by decide))) g2 (fun g e => by have:=(hu.lt g e).1;simp only [ne_eq,Option.some.injEq];omega)
 · refine row_off' (b:=0) (row_off' (b:=0) K.lr hg (fun g e => ?_)) g2 (fun g e => ?_)
   · simp only [Value.ownBlock,Option.some.injEq] at e
     exact fun q' => hn g (by omega) q'.symm
   · simp only [Value.ownBlock,Option.some.injEq] at e
     simp only [ne_eq,Option.some.injEq]
     omega
 · exact (Stays.row hv (.inl rfl) hg).trans (Stays.grown g2 A1 (.inr (.inl rfl)))
theorem KM.rowU (K:KM c q at1 pile loc mem ls b W) {v u u':Value} {wA:World} {ls':List Mn.Lb} (hA:Arr W q.C 131 (q.vals c v u at1)) (hv:W.ownsRow (q.C + 1) 93 1 v pile.length (pile.map wv)) (hu:W.ownsRow (q.C + 1) 171 4 u ls.length (encL ls.reverse))
   (hg:W.grownBy wA u.ownBlock) (hown:wA.ownsRow (q.C + 1) 171 4 u' ls'.length (encL ls'.reverse)):KM c q at1 pile loc mem ls' b (wA.setCell ⟨q.C,5,none⟩ u') ∧ Stays W (wA.setCell ⟨q.C,5,none⟩ u'):=by
 have g2:=grownBy_set' wA ⟨q.C,5,none⟩ u'
 have o0:=K.gl
 have o1:=K.o1
 have o2:=K.o2
 have hb:∀ r,u.ownBlock=some r → q.C + 1 ≤ r:=fun r e => (hu.lt r e).1
 have hn:∀ n,n ≤ q.C → some n ≠ u.ownBlock:=fun n hn e => by have:=hb n e.symm;omega
 have A1:=hA.far hg (hn _ (Nat.le_refl _))
 refine ⟨⟨(K.agr.grow hg (fun r e => .inl (by have:=hb r e;omega))).grow g2 (fun r e => .inl (by simp only [Option.some.injEq] at e;omega)),(K.pb.far hg (hn _ (by omega))).far g2 (by simp only [ne_eq,Option.some.injEq];omega),K.ml,K.ll,⟨v,u',A1.set 5 u',?_,row_off' (b:=0) hown g2 (fun g e => by have:=(hown.lt g e).1;simp only [ne_eq,Option.some.injEq];omega)⟩,?_,o1,o2⟩,?_⟩
 · refine row_off' (b:=0) (row_off' (b:=0) hv hg (rows_apart hu hv (by decide))) g2 (fun g e => by have:=(hv.lt g e).1;simp only [ne_eq,Option.some.injEq];omega)
 · refine row_off' (b:=0) (row_off' (b:=0) K.lr hg (fun g e => ?_)) g2 (fun g e => ?_)
   · simp only [Value.ownBlock,Option.some.injEq] at e
     exact fun q' => hn g (by omega) q'.symm
   · simp only [Value.ownBlock,Option.some.injEq] at e
     simp only [ne_eq,Option.some.injEq]
     omega
 · exact (Stays.row hu (.inr rfl) hg).trans (Stays.grown g2 A1 (.inr (.inl rfl)))
theorem Arr.setB {b j:Nat} {v:Value} {t:TypeId} {vs:List Value} (h:Arr W b t vs) (hs:SetBox W W' b j v):Arr W' b t (vs.set j v):=hs.2.trans (h.set j v)
theorem KM.boxV (K:KM c q at1 pile loc mem ls b W) {v u v':Value} {pile':List Int} (hA:Arr W q.C 131 (q.vals c v u at1)) (hv:W.ownsRow (q.C + 1) 93 1 v pile.length (pile.map wv)) (hu:W.ownsRow (q.C + 1) 171 4 u ls.length (encL ls.reverse))
   (hs:SetBox W W' q.C 4 v') (hown:W'.ownsRow (q.C + 1) 93 1 v pile.length (pile.map wv) → W'.ownsRow (q.C + 1) 93 1 v' pile'.length (pile'.map wv)):KM c q at1 pile' loc mem ls b W' ∧ Stays W W':=by
 have o0:=K.gl
 have o1:=K.o1
 have o2:=K.o2
 have hg:=hs.1
 refine ⟨⟨K.agr.grow hg (fun r e => .inl (by simp only [Option.some.injEq] at e;omega)),K.pb.far hg (by simp only [ne_eq,Option.some.injEq];omega),K.ml,K.ll,⟨v',u,hA.setB hs,hown (row_off' (b:=0) hv hg (fun g e => by have:=(hv.lt g e).1;simp only [ne_eq,Option.some.injEq];omega)),row_off' (b:=0) hu hg (fun g e => by have:=(hu.lt g e).1;simp only [ne_eq,Option.some.injEq];omega)⟩,row_off' (b:=0) K.lr hg (fun g e => by simp only [Value.ownBlock,Option.some.injEq] at e;simp only [ne_eq,Option.some.injEq];omega),o1,o2⟩,Stays.grown hg hA (.inr (.inl rfl))⟩
theorem KM.boxU (K:KM c q at1 pile loc mem ls b W) {v u u':Value} {ls':List Mn.Lb} (hA:Arr W q.C 131 (q.vals c v u at1)) (hv:W.ownsRow (q.C + 1) 93 1 v pile.length (pile.map wv)) (hu:W.ownsRow (q.C + 1) 171 4 u ls.length (encL ls.reverse))
   (hs:SetBox W W' q.C 5 u') (hown:W'.ownsRow (q.C + 1) 171 4 u ls.length (encL ls.reverse) → W'.ownsRow (q.C + 1) 171 4 u' ls'.length (encL ls'.reverse)):KM c q at1 pile loc mem ls' b W' ∧ Stays W W':=by
 have o0:=K.gl
 have o1:=K.o1
 have o2:=K.o2
 have hg:=hs.1
 refine ⟨⟨K.agr.grow hg (fun r e => .inl (by simp only [Option.some.injEq] at e;omega)),K.pb.far hg (by simp only [ne_eq,Option.some.injEq];omega),K.ml,K.ll,⟨v,u',hA.setB hs,row_off' (b:=0) hv hg (fun g e => by have:=(hv.lt g e).1;simp only [ne_eq,Option.some.injEq];omega),hown (row_off' (b:=0) hu hg (fun g e => by have:=(hu.lt g e).1;simp only [ne_eq,Option.some.injEq];omega))⟩,row_off' (b:=0) K.lr hg (fun g e => by simp only [Value.ownBlock,Option.some.injEq] at e;simp only [ne_eq,Option.some.injEq];omega),o1,o2⟩,Stays.grown hg hA (.inr (.inl rfl))⟩
theorem KM.setAt (K:KM c q at1 pile loc mem ls b W) (x:Int) (hs:SetBox W W' q.C 6 (.int .i64 x)):KM c q x pile loc mem ls b W' ∧ Stays W W':=by
 obtain ⟨v,u,hA,hv,hu⟩:=K.box
 have o0:=K.gl
 have o1:=K.o1
 have o2:=K.o2
 have hg:=hs.1
 refine ⟨⟨K.agr.grow hg (fun r e => .inl (by simp only [Option.some.injEq] at e;omega)),K.pb.far hg (by simp only [ne_eq,Option.some.injEq];omega),K.ml,K.ll,⟨v,u,hA.setB hs,row_off' (b:=0) hv hg (fun g e => by have:=(hv.lt g e).1;simp only [ne_eq,Option.some.injEq];omega),row_off' (b:=0) hu hg (fun g e => by have:=(hu.lt g e).1;simp only [ne_eq,Option.some.injEq];omega)⟩,row_off' (b:=0) K.lr hg (fun g e => by simp only [Value.ownBlock,Option.some.injEq] at e;simp only [ne_eq,Option.some.injEq];omega),o1,o2⟩,Stays.grown hg hA (.inr (.inl rfl))⟩
theorem KM.setP (K:KM c q at1 pile loc mem ls b W) {mem':List Int} {b':Int} (hg:W.grownBy W' (some c.P)) (ml:mem'.length=64) (h:Arr W' c.P 91 (PB mem' c.fuel b' ((q.d + 1:Nat):Int) c.fv c.nv)):KM c q at1 pile loc mem' ls b' W' ∧ Stays W W':=by
 obtain ⟨v,u,hA,hv,hu⟩:=K.box
 have o0:=K.gl
 have o1:=K.o1
 have o2:=K.o2
 refine ⟨⟨K.agr.grow hg (fun r e => .inr (by simp only [Option.some.injEq] at e;exact e.symm)),h,ml,K.ll,⟨v,u,hA.far hg (by simp only [ne_eq,Option.some.injEq];omega),row_off' (b:=0) hv hg (fun g e => by have:=(hv.lt g e).1;simp only [ne_eq,Option.some.injEq];omega),row_off' (b:=0) hu hg (fun g e => by have:=(hu.lt g e).1;simp only [ne_eq,Option.some.injEq];omega)⟩,row_off' (b:=0) K.lr hg (fun g e => by simp only [Value.ownBlock,Option.some.injEq] at e;simp only [ne_eq,Option.some.injEq];omega),o1,o2⟩,Stays.grown hg K.pb (.inl rfl)⟩
theorem KM.setL (K:KM c q at1 pile loc mem ls b W) (i:Nat) (x:Int):KM c q at1 pile (loc.set i x) mem ls b (W.setCell ⟨q.gl,i,none⟩ (.int .u32 x)) ∧ Stays W (W.setCell ⟨q.gl,i,none⟩ (.int .u32 x)):=by
 obtain ⟨v,u,hA,hv,hu⟩:=K.box
 have o0:=K.gl
 have o1:=K.o1
 have o2:=K.o2
 have hg:W.grownBy (W.setCell ⟨q.gl,i,none⟩ (.int .u32 x)) (some q.gl):=grownBy_set' W ⟨q.gl,i,none⟩ (.int .u32 x)
 have hst:=(K.lr.stored i (.int .u32 x)).1
 have e:(loc.map wv).set i (.int .u32 x)=(loc.set i x).map wv:=by rw [List.map_set];rfl
 rw [e] at hst
 refine ⟨⟨K.agr.grow hg (fun r e => .inl (by simp only [Option.some.injEq] at e;omega)),K.pb.far hg (by simp only [ne_eq,Option.some.injEq];omega),K.ml,by rw [List.length_set];exact K.ll,⟨v,u,hA.far hg (by simp only [ne_eq,Option.some.injEq];omega),row_off' (b:=0) hv hg (fun g e => by have:=(hv.lt g e).1;simp only [ne_eq,Option.some.injEq];omega),row_off' (b:=0) hu hg (fun g e => by have:=(hu.lt g e).1;simp only [ne_eq,Option.some.injEq];omega)⟩,hst,o1,o2⟩,Stays.row K.lr (.inl rfl) hg⟩
end
section
variable {c:PC} {q:KK} {at1:Int} {pile loc mem:List Int} {ls:List Mn.Lb} {b:Int} {W W':World}
theorem k_put (x:Int) (hl:pile.length ≤ 100) (K:KM c q at1 pile loc mem ls b W) :
   Calls Tryz.prog 108 #[.pointer (some ⟨q.C,4,none⟩),.int .u32 x] W fun e w' => e = .returned (.tuple #[]) ∧ KM c q at1 (pile ++ [x]) loc mem ls b w' ∧ Stays W w':=by
 obtain ⟨v,u,hA,hv,hu⟩:=K.box
 refine (wput x (Nat.lt_succ_self _) (hA.cell (j:=4) rfl) (hA.frozen 4) hv (by omega) K.inC).mono ?_
 rintro e w' ⟨rfl,v',wA,rfl,hown,hg⟩
 exact ⟨rfl,K.rowV hA hv hu hg (by rw [List.length_append];exact hown)⟩
theorem l_put (x:Mn.Lb) (hl:ls.length ≤ 100) (K:KM c q at1 pile loc mem ls b W) :
   Calls Tryz.prog 107 #[.pointer (some ⟨q.C,5,none⟩),lbv x] W fun e w' => e = .returned (.tuple #[]) ∧ KM c q at1 pile loc mem (x :: ls) b w' ∧ Stays W w':=by
 obtain ⟨v,u,hA,hv,hu⟩:=K.box
 refine (lput x (Nat.lt_succ_self _) (hA.cell (j:=5) rfl) (hA.frozen 5) hu (by omega) K.inC).mono ?_
 rintro e w' ⟨rfl,v',wA,rfl,hown,hg⟩
 exact ⟨rfl,K.rowU hA hv hu hg hown⟩
theorem l_take {x:Mn.Lb} (hl:ls.length ≤ 100) (K:KM c q at1 pile loc mem (x :: ls) b W) :
   Calls Tryz.prog 142 #[.pointer (some ⟨q.C,5,none⟩)] W fun e w' => e = .returned (.tuple #[lbv x,.bool true]) ∧ KM c q at1 pile loc mem ls b w' ∧ Stays W w':=by
 obtain ⟨v,u,hA,hv,hu⟩:=K.box
 refine (ltake x (by omega) (hA.cell (j:=5) rfl) (hA.frozen 5) hu).mono ?_
 rintro e w' ⟨rfl,v',hs, -,hown⟩
 exact ⟨rfl,K.boxU hA hv hu hs (hown w')⟩
theorem k_top {j:Nat} (hj:pile.length=j + 1) (hl:j ≤ 100) (K:KM c q at1 pile loc mem ls b W) :
   Calls Tryz.prog 79 #[.pointer (some ⟨q.C,4,none⟩)] W fun e w' => e = .returned (.tuple #[.int .u32 (pile.getD j 0),.bool true]) ∧ Below W.heap.size W w':=by
 obtain ⟨v,u,hA,hv,hu⟩:=K.box
 rw [hj] at hv
 exact wtop (by omega) (hA.cell (j:=4) rfl) hv
theorem k_take' {j:Nat} (hj:pile.length=j + 1) (hl:j ≤ 100) (K:KM c q at1 pile loc mem ls b W) :
   Calls Tryz.prog 134 #[.pointer (some ⟨q.C,4,none⟩)] W fun e w' => e = .returned (.tuple #[.int .u32 (pile.getD j 0),.bool true]) ∧ KM c q at1 (pile.take j) loc mem ls b w' ∧ Stays W w':=by
 obtain ⟨v,u,hA,hv,hu⟩:=K.box
 have hv':=hv
 rw [hj] at hv'
 refine (wtake (by omega) (hA.cell (j:=4) rfl) (hA.frozen 4) hv').mono ?_
 rintro e w' ⟨rfl,v',hs, -,hown⟩
 refine ⟨rfl,K.boxV hA hv hu hs (fun h => ?_)⟩
 rw [hj] at h
 have:=hown w' h
 rw [List.length_take,hj,Nat.min_eq_left (by omega)]
 exact this
theorem k_take {j:Nat} (hj:pile.length=j + 1) (hl:j ≤ 100) (K:KM c q at1 pile loc mem ls b W) :
   Calls Tryz.prog 109 #[.pointer (some ⟨q.C,0,none⟩)] W fun e w' => e = .returned (.int .u32 (pile.getD j 0)) ∧ KM c q at1 (pile.take j) loc mem ls b w' ∧ Stays W w':=by
 have hcon:=k_take' hj hl K
 obtain ⟨y,hy⟩:∃ y,pile.getD j 0=y:=⟨_,rfl⟩
 rw [hy] at hcon ⊢
 clear hy
 go_enter Tryz.func109,Tryz.ntmps109
 go_wp2_with fail
 refine hcon.mono ?_
 rintro e w1 ⟨rfl,hK,hS⟩
 dsimp only
 have HK:=Hid.put (And.intro hK hS)
 clear hcon hK hS K
 go_wp2
 go_ret
 exact ⟨rfl,HK.out⟩
end
theorem a_keep {A:Bool → World → Prop} {t:Bool} {x:World} (h:A t x):A (t || false) x:=by rw [Bool.or_false];exact h
theorem a_turn {A:Bool → World → Prop} {t:Bool} {x:World} (h:A true x):A (t || true) x:=by rw [Bool.or_true];exact h
theorem size_cells:(Tryz.prog.info? 86).map (·.size)=some 64:=by kernel_rfl
theorem run_loadAt_part {P:Program} (w:World) (g:Nat) (t ty:TypeId) (vs tl:List Value) (n:Nat) (e:TypeId) (hg:Arr w g t (vs ++ tl)) (hu:P.underlying ty=some (.array n e)) (hi:(P.info? ty).map (·.size)=some vs.length) :
   (Instr.loadAt ty (.pointer (some ⟨g,0,none⟩))).run P w = .ok (.agg vs.toArray) w:=by
 simp only [Instr.loadAt,Instr.sureAddr,Sem.run_bind,Sem.run_pure,Result.andThen]
 exact run_loadVar_part w g t ty vs tl n e hg hu hi
theorem wp_load_run {P:Program} {o:Oper} {b:Act} {x:World} {K:Act → World → Prop} {Q:Exit → Act → World → Prop} (ty:TypeId) (y:Operand) (ho:o.op = .load ty y) (v p:Value) (hp:b.eval y=p) (hrun:(Instr.loadAt ty p).run P x = .ok v x) (h:K (b.put o.dst v) x):o.wp P b x K Q:=by
 unfold Oper.wp execOp
 simp only [ho,hp,Sem.run_bind,hrun,Result.andThen_ok]
 exact h
section
variable {c:PC} {q:KK} {at1:Int} {pile loc mem:List Int} {ls:List Mn.Lb} {b:Int} {W W':World}
theorem k_mem (K:KM c q at1 pile loc mem ls b W):(Instr.loadAt 86 (.pointer (some ⟨c.P,0,none⟩))).run Tryz.prog W = .ok (.agg (mem.map bv).toArray) W :=
 run_loadAt_part W c.P _ _ _ _ 64 5 K.pb Tryz.underlying86 (by rw [List.length_map,K.ml];exact size_cells)
theorem k_load_y (a o:Int) (ha:Wd.ok a=true) (hb:∀ j,0 ≤ mem.getD j 0 ∧ mem.getD j 0 ≤ 255) (h:Mm.there a o=true) (K:KM c q at1 pile loc mem ls b W) :
   Calls Tryz.prog 111 #[.pointer (some ⟨c.P,0,none⟩),.int .u32 a,.int .i64 o] W fun e w' => e = .returned (.int .u32 (Mm.getN mem (a + o).toNat 4)) ∧ Below W.heap.size W w':=by
 obtain ⟨i1,i2,i3,i4⟩:=Mm.there_iff.1 h
 obtain ⟨kk,hk⟩:∃ kk:Nat,a + o=kk:=⟨(a + o).toNat,by omega⟩
 have hk60:kk + 4 ≤ 64:=by omega
 obtain ⟨gx,hgx⟩:∃ gx,Mm.getN mem (a + o).toNat 4=gx:=⟨_,rfl⟩
 rw [hgx]
 have hld:∀ x:World,Calls Tryz.prog 136 #[.agg (mem.map bv).toArray,.int .i64 (a + o)] x fun e w' => e = .returned (.int .u32 gx) ∧ Below x.heap.size x w':=fun x => by
   have:=loaded_is mem K.ml hb kk hk60 x
   rw [← hgx,hk,Int.toNat_natCast]
   exact this
 have hpl:=fun x:World => placeOrEnd_y a o ha h x
 obtain ⟨AA,hAA⟩:∃ AA:Bool → World → Prop,AA=fun _ x => Below W.heap.size W x ∧ KM c q at1 pile loc mem ls b x:=⟨_,rfl⟩
 have hA0:AA false W.drew:=by rw [hAA];exact ⟨(Below.refl _ _).drew,K.kept (Below.refl _ _).drew⟩
 have hAm:∀ {t:Bool} {x:World},AA t x → (Instr.loadAt 86 (.pointer (some ⟨c.P,0,none⟩))).run Tryz.prog x = .ok (.agg (mem.map bv).toArray) x:=fun h => by rw [hAA] at h;exact k_mem h.2
 have hAk:∀ {t t':Bool} {x x':World},AA t x → Below x.heap.size x x' → AA t' x':=fun h hB => by rw [hAA] at h ⊢;exact ⟨h.1.trans (hB.mono h.1.size),h.2.kept hB⟩
 have hAe:∀ {t:Bool} {x:World},AA t x → Below W.heap.size W x:=fun h => by rw [hAA] at h;exact h.1
 obtain ⟨cs,hcs⟩:∃ cs,(mem.map bv).toArray=cs:=⟨_,rfl⟩
 rw [hcs] at hAm
 rw [hcs] at hld
 clear hk hgx
 clear hAA hcs K hb
 go_enter Tryz.func111,Tryz.ntmps111
 go_wp2_with fail
 refine wp_region_phi2 8 [7,8,9,10,11,12,13,14] 100 AA (fun j y _ => y=[.pointer (some ⟨c.P,0,none⟩),.pointer (some ⟨c.P,0,none⟩),.pointer (some ⟨c.P,0,none⟩),.agg cs,.int .u32 a,.int .i64 o,.int .i64 (a + o),.int .u32 gx].getD j undef) (by kernel_rfl) (by kernel_rfl) (by simp) hA0 ?_ ?_
 · simp only [List.take_succ_cons,List.take_zero]
   refine ⟨?_,?_,?_,?_,?_,?_,?_,?_,trivial⟩
   all_goals (intro t b x hA ht hm hfr hdf hdep;replace hdf:=Hid.put hdf)
   have e0:b.tmps[0]?.getD undef = .pointer (some ⟨c.P,0,none⟩):=by simpa [Act.eval] using hfr 0 (by decide)
   rotate_left
   have e7:b.tmps[7]?.getD undef = .pointer (some ⟨c.P,0,none⟩):=by simpa [Act.eval] using hdep 0 (by kernel_rfl)
   rotate_left
   have e8:b.tmps[8]?.getD undef = .pointer (some ⟨c.P,0,none⟩):=by simpa [Act.eval] using hdep 1 (by kernel_rfl)
   rotate_left
   · have e9:b.tmps[9]?.getD undef = .pointer (some ⟨c.P,0,none⟩):=by simpa [Act.eval] using hdep 2 (by kernel_rfl)
     exact wp_load_run _ _ rfl _ _ (by simpa [Act.eval] using e9) (hAm hA) ⟨_,rfl,a_keep hA,rfl,fun i z h => h⟩
   have e1:b.tmps[1]?.getD undef = .int .u32 a:=by simpa [Act.eval] using hfr 1 (by decide)
   rotate_left
   have e2:b.tmps[2]?.getD undef = .int .i64 o:=by simpa [Act.eval] using hfr 2 (by decide)
   rotate_left
   · have e11:b.tmps[11]?.getD undef = .int .u32 a:=by simpa [Act.eval] using hdep 4 (by kernel_rfl)
     have e12:b.tmps[12]?.getD undef = .int .i64 o:=by simpa [Act.eval] using hdep 5 (by kernel_rfl)
     unfold Oper.wp
     generalize hK:(fun (b':Act) (x':World) => ∃ y,_ ∧ _)=K
     simp only [execOp]
     go_simp
     refine (hpl x).mono ?_
     rintro e w' ⟨rfl,hww⟩
     subst w'
     rw [← hK]
     exact ⟨_,rfl,a_keep hA,rfl,fun i z h => h⟩
   · have e10:b.tmps[10]?.getD undef = .agg cs:=by simpa [Act.eval] using hdep 3 (by kernel_rfl)
     have e13:b.tmps[13]?.getD undef = .int .i64 (a + o):=by simpa [Act.eval] using hdep 6 (by kernel_rfl)
     unfold Oper.wp
     generalize hK:(fun (b':Act) (x':World) => ∃ y,_ ∧ _)=K
     simp only [execOp]
     go_simp
     refine (hld x).mono ?_
     rintro e w' ⟨rfl,hB⟩
     rw [← hK]
     exact ⟨_,rfl,a_keep (hAk hA hB),rfl,fun i z h => h⟩
   all_goals (unfold Oper.wp;generalize hK:(fun (b':Act) (x':World) => ∃ y,_ ∧ _)=K;simp only [execOp];go_simp;rw [← hK];exact ⟨_,rfl,a_keep hA,rfl,fun i z h => h⟩)
 · intro b x hA hF hb
   have e7:b.eval (.tmp 7) = .pointer (some ⟨c.P,0,none⟩):=hF 0 (by decide)
   have e8:b.eval (.tmp 8) = .pointer (some ⟨c.P,0,none⟩):=hF 1 (by decide)
   have e9:b.eval (.tmp 9) = .pointer (some ⟨c.P,0,none⟩):=hF 2 (by decide)
   have e10:b.eval (.tmp 10) = .agg cs:=hF 3 (by decide)
   have e11:b.eval (.tmp 11) = .int .u32 a:=hF 4 (by decide)
   have e12:b.eval (.tmp 12) = .int .i64 o:=hF 5 (by decide)
   have e13:b.eval (.tmp 13) = .int .i64 (a + o):=hF 6 (by decide)
   have e14:b.eval (.tmp 14) = .int .u32 gx:=hF 7 (by decide)
   simp only [List.foldl,e7,e8,e9,e10,e11,e12,e13,e14] at hb
   clear hF e7 e8 e9 e10 e11 e12 e13 e14
   subst hb
   simp only [List.drop_succ_cons,List.drop_zero]
   go_simp
   have hA1:AA false x:=by simpa using hA
   clear hA
   go_wp2
   go_ret
   exact ⟨rfl,hAe hA1⟩
theorem k_load_n (a o:Int) (ha:Wd.ok a=true) (hb:∀ j,0 ≤ mem.getD j 0 ∧ mem.getD j 0 ≤ 255) (h:Mm.there a o=false) (K:KM c q at1 pile loc mem ls b W) :
   Calls Tryz.prog 111 #[.pointer (some ⟨c.P,0,none⟩),.int .u32 a,.int .i64 o] W fun e w' => e=Ended 3 ∧ Below W.heap.size W w':=by
 have hpl:=fun x:World => placeOrEnd_n a o ha h x
 obtain ⟨AA,hAA⟩:∃ AA:Bool → World → Prop,AA=fun _ x => Below W.heap.size W x ∧ KM c q at1 pile loc mem ls b x:=⟨_,rfl⟩
 have hA0:AA false W.drew:=by rw [hAA];exact ⟨(Below.refl _ _).drew,K.kept (Below.refl _ _).drew⟩
 have hAm:∀ {t:Bool} {x:World},AA t x → (Instr.loadAt 86 (.pointer (some ⟨c.P,0,none⟩))).run Tryz.prog x = .ok (.agg (mem.map bv).toArray) x:=fun h => by rw [hAA] at h;exact k_mem h.2
 have hAk:∀ {t t':Bool} {x x':World},AA t x → Below x.heap.size x x' → AA t' x':=fun h hB => by rw [hAA] at h ⊢;exact ⟨h.1.trans (hB.mono h.1.size),h.2.kept hB⟩
 have hAe:∀ {t:Bool} {x:World},AA t x → Below W.heap.size W x:=fun h => by rw [hAA] at h;exact h.1
 obtain ⟨cs,hcs⟩:∃ cs,(mem.map bv).toArray=cs:=⟨_,rfl⟩
 rw [hcs] at hAm
 clear hAA hcs K hb
 go_enter Tryz.func111,Tryz.ntmps111
 go_wp2_with fail
 refine wp_region_phi2 8 [7,8,9,10,11,12,13,14] 100 AA (fun j y _ => j ≠ 6 ∧ y=[.pointer (some ⟨c.P,0,none⟩),.pointer (some ⟨c.P,0,none⟩),.pointer (some ⟨c.P,0,none⟩),.agg cs,.int .u32 a,.int .i64 o,.int .i64 (a + o),undef].getD j undef) (by kernel_rfl) (by kernel_rfl) (by simp) hA0 ?_ ?_
 · simp only [List.take_succ_cons,List.take_zero]
   refine ⟨?_,?_,?_,?_,?_,?_,?_,?_,trivial⟩
   all_goals (intro t b x hA ht hm hfr hdf hdep;replace hdf:=Hid.put hdf)
   have e0:b.tmps[0]?.getD undef = .pointer (some ⟨c.P,0,none⟩):=by simpa [Act.eval] using hfr 0 (by decide)
   rotate_left
   have e7:b.tmps[7]?.getD undef = .pointer (some ⟨c.P,0,none⟩):=by simpa [Act.eval] using (hdep 0 (by kernel_rfl)).2
   rotate_left
   have e8:b.tmps[8]?.getD undef = .pointer (some ⟨c.P,0,none⟩):=by simpa [Act.eval] using (hdep 1 (by kernel_rfl)).2
   rotate_left
   · have e9:b.tmps[9]?.getD undef = .pointer (some ⟨c.P,0,none⟩):=by simpa [Act.eval] using (hdep 2 (by kernel_rfl)).2
     exact wp_load_run _ _ rfl _ _ (by simpa [Act.eval] using e9) (hAm hA) ⟨_,rfl,a_keep hA,⟨by decide,rfl⟩,fun i z h => h⟩
   have e1:b.tmps[1]?.getD undef = .int .u32 a:=by simpa [Act.eval] using hfr 1 (by decide)
   rotate_left
   have e2:b.tmps[2]?.getD undef = .int .i64 o:=by simpa [Act.eval] using hfr 2 (by decide)
   rotate_left
   · have e11:b.tmps[11]?.getD undef = .int .u32 a:=by simpa [Act.eval] using (hdep 4 (by kernel_rfl)).2
     have e12:b.tmps[12]?.getD undef = .int .i64 o:=by simpa [Act.eval] using (hdep 5 (by kernel_rfl)).2
     unfold Oper.wp
     generalize hK:(fun (b':Act) (x':World) => ∃ y,_ ∧ _)=K
     simp only [execOp]
     go_simp
     refine (hpl x).mono ?_
     rintro e w' ⟨rfl,hww⟩
     subst w'
     exact ⟨hdf.out,rfl,hAe hA⟩
   · have e10:b.tmps[10]?.getD undef = .agg cs:=by simpa [Act.eval] using (hdep 3 (by kernel_rfl)).2
     exact absurd rfl (hdep 6 (by kernel_rfl)).1
   all_goals (unfold Oper.wp;generalize hK:(fun (b':Act) (x':World) => ∃ y,_ ∧ _)=K;simp only [execOp];go_simp;rw [← hK];exact ⟨_,rfl,a_keep hA,⟨by decide,rfl⟩,fun i z h => h⟩)
 · intro b x hA hF hb
   exact absurd rfl (hF 6 (by decide)).1
end
theorem wpList_storeP {P:Program} {ops:Array Oper} {rest:List Oper} {o:Oper} {a:Act} {w:World} {Q:Exit → Act → World → Prop} (hgd:o.guard=none) (ty:TypeId) (x y:Operand) (ho:o.op = .store ty x y)
   (g:Nat) (hx:a.eval x = .pointer (some ⟨g,0,none⟩)) (ws:List Value) (hy:a.eval y = .agg ws.toArray) (t:TypeId) (vs tl:List Value) (hg:Arr w g t (vs ++ tl)) (hi:(P.info? ty).map (·.size)=some ws.length) (hl:vs.length=ws.length) (h1:∀ v ∈ ws,v.oneCell'=true)
   (h:∀ w',Arr w' g t (ws ++ tl) → w.grownBy w' (some g) → wpList P ops Q rest (a.put o.dst undef) w'):wpList P ops Q (o :: rest) a w:=by
 refine wpList_plain hgd fun K hK => ?_
 obtain ⟨w',hrun,hA,hgr⟩:=run_storeVar_part (P:=P) w g t ty vs ws tl hg hi hl h1
 unfold Oper.wp execOp
 simp only [ho,hx,hy,Instr.storeAt,Instr.sureAddr,Sem.run_bind,Sem.run_pure,Result.andThen_ok,hrun]
 exact hK _ _ (h w' hA hgr)
section
variable {c:PC} {q:KK} {at1:Int} {pile loc mem:List Int} {ls:List Mn.Lb} {b:Int} {W W':World}
theorem k_store_y (a o v:Int) (ha:Wd.ok a=true) (hv:Wd.ok v=true) (hb:∀ j,0 ≤ mem.getD j 0 ∧ mem.getD j 0 ≤ 255) (h:Mm.there a o=true) (K:KM c q at1 pile loc mem ls b W) :
   Calls Tryz.prog 112 #[.pointer (some ⟨c.P,0,none⟩),.int .u32 a,.int .i64 o,.int .u32 v] W fun e w' => e = .returned (.tuple #[]) ∧ KM c q at1 pile loc (Mm.putN mem (a + o).toNat v 4) ls b w' ∧ Stays W w':=by
 obtain ⟨i1,i2,i3,i4⟩:=Mm.there_iff.1 h
 obtain ⟨kk,hk⟩:∃ kk:Nat,a + o=kk:=⟨(a + o).toNat,by omega⟩
 have hk60:kk + 4 ≤ 64:=by omega
 obtain ⟨mm,hmm⟩:∃ mm,Mm.putN mem (a + o).toNat v 4=mm:=⟨_,rfl⟩
 rw [hmm]
 have hml:mm.length=64:=by rw [← hmm,Mm.putN_len];exact K.ml
 have HML:=Hid.put (And.intro hml K.ml)
 have hld:∀ x:World,Calls Tryz.prog 138 #[.agg (mem.map bv).toArray,.int .i64 (a + o),.int .u32 v] x fun e w' => e = .returned (.agg (mm.map bv).toArray) ∧ Below x.heap.size x w':=fun x => by
   have:=stored_is mem K.ml hb kk hk60 v (Wd.ok_iff.1 hv).1 (Wd.ok_iff.1 hv).2 x
   rw [← hmm,hk,Int.toNat_natCast]
   exact this
 have hpl:=fun x:World => placeOrEnd_y a o ha h x
 obtain ⟨AA,hAA⟩:∃ AA:Bool → World → Prop,AA=fun _ x => Below W.heap.size W x ∧ KM c q at1 pile loc mem ls b x:=⟨_,rfl⟩
 have hA0:AA false W.drew:=by rw [hAA];exact ⟨(Below.refl _ _).drew,K.kept (Below.refl _ _).drew⟩
 have hAm:∀ {t:Bool} {x:World},AA t x → (Instr.loadAt 86 (.pointer (some ⟨c.P,0,none⟩))).run Tryz.prog x = .ok (.agg (mem.map bv).toArray) x:=fun h => by rw [hAA] at h;exact k_mem h.2
 have hAk:∀ {t t':Bool} {x x':World},AA t x → Below x.heap.size x x' → AA t' x':=fun h hB => by rw [hAA] at h ⊢;exact ⟨h.1.trans (hB.mono h.1.size),h.2.kept hB⟩
 have hAe:∀ {t:Bool} {x:World},AA t x → Below W.heap.size W x ∧ KM c q at1 pile loc mem ls b x:=fun h => by rw [hAA] at h;exact h
 obtain ⟨cs,hcs⟩:∃ cs,(mem.map bv).toArray=cs:=⟨_,rfl⟩
 rw [hcs] at hAm
 rw [hcs] at hld
 obtain ⟨ds,hds⟩:∃ ds,mm.map bv=ds:=⟨_,rfl⟩
 rw [hds] at hld
 have HDS:=Hid.put hds
 clear hk hmm hml hds
 clear hAA hcs K hb
 go_enter Tryz.func112,Tryz.ntmps112
 go_wp2_with fail
 refine wp_region_phi2 12 [8,9,10,11,12,13,14,15,16,17,18,19] 100 AA (fun j y _ => y=[.pointer (some ⟨c.P,0,none⟩),.pointer (some ⟨c.P,0,none⟩),.pointer (some ⟨c.P,0,none⟩),.pointer (some ⟨c.P,0,none⟩),.agg cs,.int .u32 a,.int .i64 o,.int .i64 (a + o),.int .u32 v,.agg ds.toArray,.pointer (some ⟨c.P,0,none⟩),.pointer (some ⟨c.P,0,none⟩)].getD j undef) (by kernel_rfl) (by kernel_rfl) (by simp) hA0 ?_ ?_
 · simp only [List.take_succ_cons,List.take_zero]
   refine ⟨?_,?_,?_,?_,?_,?_,?_,?_,?_,?_,?_,?_,trivial⟩
   all_goals (intro t b x hA ht hm hfr hdf hdep;replace hdf:=Hid.put hdf)
   have e0:b.tmps[0]?.getD undef = .pointer (some ⟨c.P,0,none⟩):=by simpa [Act.eval] using hfr 0 (by decide)
   rotate_left
   have e0:b.tmps[0]?.getD undef = .pointer (some ⟨c.P,0,none⟩):=by simpa [Act.eval] using hfr 0 (by decide)
   rotate_left
   have e9:b.tmps[9]?.getD undef = .pointer (some ⟨c.P,0,none⟩):=by simpa [Act.eval] using hdep 1 (by kernel_rfl)
   rotate_left
   have e10:b.tmps[10]?.getD undef = .pointer (some ⟨c.P,0,none⟩):=by simpa [Act.eval] using hdep 2 (by kernel_rfl)
   rotate_left
   · have e11:b.tmps[11]?.getD undef = .pointer (some ⟨c.P,0,none⟩):=by simpa [Act.eval] using hdep 3 (by kernel_rfl)
     exact wp_load_run _ _ rfl _ _ (by simpa [Act.eval] using e11) (hAm hA) ⟨_,rfl,a_keep hA,rfl,fun i z h => h⟩
   have e1:b.tmps[1]?.getD undef = .int .u32 a:=by simpa [Act.eval] using hfr 1 (by decide)
   rotate_left
   have e2:b.tmps[2]?.getD undef = .int .i64 o:=by simpa [Act.eval] using hfr 2 (by decide)
   rotate_left
   · have e13:b.tmps[13]?.getD undef = .int .u32 a:=by simpa [Act.eval] using hdep 5 (by kernel_rfl)
     have e14:b.tmps[14]?.getD undef = .int .i64 o:=by simpa [Act.eval] using hdep 6 (by kernel_rfl)
     unfold Oper.wp
     generalize hK:(fun (b':Act) (x':World) => ∃ y,_ ∧ _)=K
     simp only [execOp]
     go_simp
     refine (hpl x).mono ?_
     rintro e w' ⟨rfl,hww⟩
     subst w'
     rw [← hK]
     exact ⟨_,rfl,a_keep hA,rfl,fun i z h => h⟩
   have e3:b.tmps[3]?.getD undef = .int .u32 v:=by simpa [Act.eval] using hfr 3 (by decide)
   rotate_left
   · have e12:b.tmps[12]?.getD undef = .agg cs:=by simpa [Act.eval] using hdep 4 (by kernel_rfl)
     have e15:b.tmps[15]?.getD undef = .int .i64 (a + o):=by simpa [Act.eval] using hdep 7 (by kernel_rfl)
     have e16:b.tmps[16]?.getD undef = .int .u32 v:=by simpa [Act.eval] using hdep 8 (by kernel_rfl)
     unfold Oper.wp
     generalize hK:(fun (b':Act) (x':World) => ∃ y,_ ∧ _)=K
     simp only [execOp]
     go_simp
     refine (hld x).mono ?_
     rintro e w' ⟨rfl,hB⟩
     rw [← hK]
     exact ⟨_,rfl,a_keep (hAk hA hB),rfl,fun i z h => h⟩
   have e8:b.tmps[8]?.getD undef = .pointer (some ⟨c.P,0,none⟩):=by simpa [Act.eval] using hdep 0 (by kernel_rfl)
   rotate_left
   have e18:b.tmps[18]?.getD undef = .pointer (some ⟨c.P,0,none⟩):=by simpa [Act.eval] using hdep 10 (by kernel_rfl)
   rotate_left
   all_goals (unfold Oper.wp;generalize hK:(fun (b':Act) (x':World) => ∃ y,_ ∧ _)=K;simp only [execOp];go_simp;rw [← hK];exact ⟨_,rfl,a_keep hA,rfl,fun i z h => h⟩)
 · intro b x hA hF hb
   have e8:b.eval (.tmp 8) = .pointer (some ⟨c.P,0,none⟩):=hF 0 (by decide)
   have e9:b.eval (.tmp 9) = .pointer (some ⟨c.P,0,none⟩):=hF 1 (by decide)
   have e10:b.eval (.tmp 10) = .pointer (some ⟨c.P,0,none⟩):=hF 2 (by decide)
   have e11:b.eval (.tmp 11) = .pointer (some ⟨c.P,0,none⟩):=hF 3 (by decide)
   have e12:b.eval (.tmp 12) = .agg cs:=hF 4 (by decide)
   have e13:b.eval (.tmp 13) = .int .u32 a:=hF 5 (by decide)
   have e14:b.eval (.tmp 14) = .int .i64 o:=hF 6 (by decide)
   have e15:b.eval (.tmp 15) = .int .i64 (a + o):=hF 7 (by decide)
   have e16:b.eval (.tmp 16) = .int .u32 v:=hF 8 (by decide)
   have e17:b.eval (.tmp 17) = .agg ds.toArray:=hF 9 (by decide)
   have e18:b.eval (.tmp 18) = .pointer (some ⟨c.P,0,none⟩):=hF 10 (by decide)
   have e19:b.eval (.tmp 19) = .pointer (some ⟨c.P,0,none⟩):=hF 11 (by decide)
   simp only [List.foldl,e8,e9,e10,e11,e12,e13,e14,e15,e16,e17,e18,e19] at hb
   clear hF e8 e9 e10 e11 e12 e13 e14 e15 e16 e17 e18 e19
   subst hb
   simp only [List.drop_succ_cons,List.drop_zero]
   go_simp
   have hA1:AA false x:=by simpa using hA
   clear hA
   have hKx:=(hAe hA1).2
   refine wpList_storeP rfl _ _ _ rfl c.P rfl ds rfl _ (mem.map bv) _ hKx.pb (by rw [← HDS.out,List.length_map,HML.out.1];exact size_cells) (by rw [← HDS.out,List.length_map,List.length_map,HML.out.1,HML.out.2]) (by rw [← HDS.out];exact bv_one) ?_
   intro w' hA' hg'
   rw [← HDS.out] at hA'
   obtain ⟨r1,r2⟩:=hKx.setP hg' HML.out.1 hA'
   have HF:=Hid.put (And.intro r1 ((Stays.below (hAe hA1).1).trans r2))
   clear r1 r2 hKx hA' hg' hA1
   go_wp2
   (try simp only [Exit.inBlock,Exit.then])
   exact bodyPost_end (results_none rfl _ _ _) rfl ⟨rfl,HF.out⟩
theorem k_store_n (a o v:Int) (ha:Wd.ok a=true) (hv:Wd.ok v=true) (hb:∀ j,0 ≤ mem.getD j 0 ∧ mem.getD j 0 ≤ 255) (h:Mm.there a o=false) (K:KM c q at1 pile loc mem ls b W) :
   Calls Tryz.prog 112 #[.pointer (some ⟨c.P,0,none⟩),.int .u32 a,.int .i64 o,.int .u32 v] W fun e w' => e=Ended 3 ∧ Below W.heap.size W w':=by
 have hpl:=fun x:World => placeOrEnd_n a o ha h x
 obtain ⟨AA,hAA⟩:∃ AA:Bool → World → Prop,AA=fun _ x => Below W.heap.size W x ∧ KM c q at1 pile loc mem ls b x:=⟨_,rfl⟩
 have hA0:AA false W.drew:=by rw [hAA];exact ⟨(Below.refl _ _).drew,K.kept (Below.refl _ _).drew⟩
 have hAm:∀ {t:Bool} {x:World},AA t x → (Instr.loadAt 86 (.pointer (some ⟨c.P,0,none⟩))).run Tryz.prog x = .ok (.agg (mem.map bv).toArray) x:=fun h => by rw [hAA] at h;exact k_mem h.2
 have hAk:∀ {t t':Bool} {x x':World},AA t x → Below x.heap.size x x' → AA t' x':=fun h hB => by rw [hAA] at h ⊢;exact ⟨h.1.trans (hB.mono h.1.size),h.2.kept hB⟩
 have hAe:∀ {t:Bool} {x:World},AA t x → Below W.heap.size W x ∧ KM c q at1 pile loc mem ls b x:=fun h => by rw [hAA] at h;exact h
 obtain ⟨cs,hcs⟩:∃ cs,(mem.map bv).toArray=cs:=⟨_,rfl⟩
 rw [hcs] at hAm
 clear hAA hcs K hb
 go_enter Tryz.func112,Tryz.ntmps112
 go_wp2_with fail
 refine wp_region_phi2 12 [8,9,10,11,12,13,14,15,16,17,18,19] 100 AA (fun j y _ => j ≠ 7 ∧ y=[.pointer (some ⟨c.P,0,none⟩),.pointer (some ⟨c.P,0,none⟩),.pointer (some ⟨c.P,0,none⟩),.pointer (some ⟨c.P,0,none⟩),.agg cs,.int .u32 a,.int .i64 o,.int .i64 (a + o),.int .u32 v,undef,.pointer (some ⟨c.P,0,none⟩),.pointer (some ⟨c.P,0,none⟩)].getD j undef) (by kernel_rfl) (by kernel_rfl) (by simp) hA0 ?_ ?_
 · simp only [List.take_succ_cons,List.take_zero]
   refine ⟨?_,?_,?_,?_,?_,?_,?_,?_,?_,?_,?_,?_,trivial⟩
   all_goals (intro t b x hA ht hm hfr hdf hdep;replace hdf:=Hid.put hdf)
   have e0:b.tmps[0]?.getD undef = .pointer (some ⟨c.P,0,none⟩):=by simpa [Act.eval] using hfr 0 (by decide)
   rotate_left
   have e0:b.tmps[0]?.getD undef = .pointer (some ⟨c.P,0,none⟩):=by simpa [Act.eval] using hfr 0 (by decide)
   rotate_left
   have e9:b.tmps[9]?.getD undef = .pointer (some ⟨c.P,0,none⟩):=by simpa [Act.eval] using (hdep 1 (by kernel_rfl)).2
   rotate_left
   have e10:b.tmps[10]?.getD undef = .pointer (some ⟨c.P,0,none⟩):=by simpa [Act.eval] using (hdep 2 (by kernel_rfl)).2
   rotate_left
   · have e11:b.tmps[11]?.getD undef = .pointer (some ⟨c.P,0,none⟩):=by simpa [Act.eval] using (hdep 3 (by kernel_rfl)).2
     exact wp_load_run _ _ rfl _ _ (by simpa [Act.eval] using e11) (hAm hA) ⟨_,rfl,a_keep hA,⟨by decide,rfl⟩,fun i z h => h⟩
   have e1:b.tmps[1]?.getD undef = .int .u32 a:=by simpa [Act.eval] using hfr 1 (by decide)
   rotate_left
   have e2:b.tmps[2]?.getD undef = .int .i64 o:=by simpa [Act.eval] using hfr 2 (by decide)
   rotate_left
   · have e13:b.tmps[13]?.getD undef = .int .u32 a:=by simpa [Act.eval] using (hdep 5 (by kernel_rfl)).2
     have e14:b.tmps[14]?.getD undef = .int .i64 o:=by simpa [Act.eval] using (hdep 6 (by kernel_rfl)).2
     unfold Oper.wp
     generalize hK:(fun (b':Act) (x':World) => ∃ y,_ ∧ _)=K
     simp only [execOp]
     go_simp
     refine (hpl x).mono ?_
     rintro e w' ⟨rfl,hww⟩
     subst w'
     exact ⟨hdf.out,rfl,(hAe hA).1⟩
   have e3:b.tmps[3]?.getD undef = .int .u32 v:=by simpa [Act.eval] using hfr 3 (by decide)
   rotate_left
   · have e12:b.tmps[12]?.getD undef = .agg cs:=by simpa [Act.eval] using (hdep 4 (by kernel_rfl)).2
     exact absurd rfl (hdep 7 (by kernel_rfl)).1
   have e8:b.tmps[8]?.getD undef = .pointer (some ⟨c.P,0,none⟩):=by simpa [Act.eval] using (hdep 0 (by kernel_rfl)).2
   rotate_left
   have e18:b.tmps[18]?.getD undef = .pointer (some ⟨c.P,0,none⟩):=by simpa [Act.eval] using (hdep 10 (by kernel_rfl)).2
   rotate_left
   all_goals (unfold Oper.wp;generalize hK:(fun (b':Act) (x':World) => ∃ y,_ ∧ _)=K;simp only [execOp];go_simp;rw [← hK];exact ⟨_,rfl,a_keep hA,⟨by decide,rfl⟩,fun i z h => h⟩)
 · intro b x hA hF hb
   exact absurd rfl (hF 7 (by decide)).1
end
theorem cell_kept {W W':World} {p:Addr} {v:Value} (hB:Below W.heap.size W W') (h:W.cell? p=some v):W'.cell? p=some v:=(hB.cell (p:=p) (block_lt_of_cell h)).trans h
theorem Nst.arnd_le (xs:List (Int × Int)) (E:List Int) (a:Int):∀ k,(Nst.arnd xs E a k).length ≤ k
 | 0 => Nat.le_refl _
 | k + 1 => by
   have:=Nst.arnd_le xs E a k
   unfold Nst.arnd
   split
   · rw [List.length_cons];omega
   · omega
theorem spec_l8Label (c:WC) (W0 w:World) (mem:List Int) (fuel code:Int) (T:Tab c W0) (K:WK c W0 w mem fuel code) (k:Nat) (hk:k < c.fs.length) (at':Nat) (hat:at' < (Mn.fn c.fs k).b.length) (dp:Int) (h0:0 ≤ dp) (h9:dp ≤ 99)
   (hJ:∀ t:Nat,dp.toNat < (Nst.arnd (Mn.fn c.fs k).b (Nst.ends (Mn.fn c.fs k).b) at' at').length → (Nst.arnd (Mn.fn c.fs k).b (Nst.ends (Mn.fn c.fs k).b) at' at').getD dp.toNat (-1)=(t:Int) → 0 ≤ (Mn.hts c.fs k).getD t 0) :
   Calls Tryz.prog 95 #[.pointer (some ⟨c.B,0,none⟩),.int .i64 k,.int .i64 at',.int .i64 dp] w fun e w' =>
     e = .returned (.tuple #[.int .i64 (Mn.lbl (Mn.fn c.fs k) (Nst.ends (Mn.fn c.fs k).b) (Mn.hts c.fs k) at' dp).1,.int .i64 (Mn.lbl (Mn.fn c.fs k) (Nst.ends (Mn.fn c.fs k).b) (Mn.hts c.fs k) at' dp).2.1,.int .i64 (Mn.lbl (Mn.fn c.fs k) (Nst.ends (Mn.fn c.fs k).b) (Mn.hts c.fs k) at' dp).2.2]) ∧ Below w.heap.size w w':=by
 have hA:=T.val.acc k hk
 have hfo:=Mn.fn_ok T.val hk
 have hall:St.okAll (Mn.fn c.fs k).b=true:=by
   have:=Md.okAll_getD T.val.all hk
   simp only [Md.fOk,Bool.and_eq_true] at this
   exact this.2.2.2.2
 obtain ⟨F,hF⟩:∃ F,Mn.fn c.fs k=F:=⟨_,rfl⟩
 obtain ⟨Hs,hH⟩:∃ Hs,Mn.hts c.fs k=Hs:=⟨_,rfl⟩
 have hfl:=fl_at (T.fl w K.agr) hk
 have hte:=T.te w K.agr k hk
 have hth:=T.th w K.agr k hk
 simp only [hF,hH] at hfl hte hth hA hfo hall hat hJ ⊢
 obtain ⟨E,hE⟩:∃ E,Nst.ends F.b=E:=⟨_,rfl⟩
 rw [hE] at hte hA ⊢
 simp only [hE] at hJ
 obtain ⟨f0,f1,f2,ba,bl,bc,f3,hsl⟩:=hfl
 obtain ⟨ea,em,ec,e0,hilE⟩:=hte
 obtain ⟨ha,hm,hc,q0,hilH⟩:=hth
 have hbl:F.b.length=bl:=hsl.1
 have hem:em=bl:=by rw [← hbl,← hilE.1,hA.nst.lE]
 have hhm:hm=bl:=by rw [← hbl,← hilH.1,hA.lH]
 subst em
 subst hm
 have hat':at' < bl:=by omega
 have hLen:bl ≤ 80:=by have:=hfo.2.2.2.2.2;omega
 have HBL:=Hid.put (And.intro hbl hfo)
 clear hbl hfo hat
 have hbx:=K.box
 have b0:=(hbx.2 0 _ rfl).1
 have b2:=(hbx.2 2 _ rfl).1
 have b3:=(hbx.2 3 _ rfl).1
 have hn4:c.fs.length ≤ 4:=T.val.len.2
 have hkZ:(k:Int) < (c.fs.length:Int):=by omega
 clear hbx
 go_enter Tryz.func95,Tryz.ntmps95
 go_wp2_with fail
 refine (spec_l5Around ba bl bc F.b hLen hall ea ec E at' hat' w hsl hilE).mono ?_
 rintro e w1 ⟨v1,rfl,hoi,hB1⟩
 dsimp only
 obtain ⟨a1,c1,rfl,hilA⟩:=hoi.slice
 have hal:=Nst.arnd_le F.b E at' at'
 obtain ⟨A,hAr⟩:∃ A,Nst.arnd F.b E at' at'=A:=⟨_,rfl⟩
 have harm:=fun i hi => Nst.arnd_at (i:=i) hA.nst hAr hi
 have hmem:=fun x hx => Nst.arnd_mem (xs:=F.b) (E:=E) (at':=at') at' x hx
 rw [hAr] at hilA hal hmem ⊢
 simp only [hAr] at hJ
 have g0:=cell_kept hB1 b0
 have g2:=cell_kept hB1 b2
 have g3:=cell_kept hB1 b3
 have k2:=cell_kept hB1 f2
 have k3:=cell_kept hB1 f3
 have ke:=cell_kept hB1 e0
 have kq:=cell_kept hB1 q0
 have hsl1:=hsl.kept hB1
 have hE1:=hilE.kept hB1
 have hH1:=hilH.kept hB1
 have HB:=Hid.put hB1
 have HR:Hid (∀ x,Mn.lbl F E Hs at' dp=x → x=Mn.lbl F E Hs at' dp):=fun x h => h.symm
 clear hoi b0 b2 b3 f0 f1 f2 f3 e0 q0 hsl hilE hilH hB1 HR
 by_cases hlt:dp.toNat < A.length
 · obtain ⟨t,et,htl,hEt, -⟩:=harm dp.toNat hlt
   have hge:¬ ((A.length:Int) ≤ dp):=by omega
   have htn:t < bl:=by omega
   obtain ⟨x,hx⟩:∃ x,A.getD dp.toNat 0=x:=⟨_,rfl⟩
   have hxt:A.getD dp.toNat 0=(t:Int):=by
     rw [← et]
     unfold Nst.at1
     rw [List.getD_eq_getElem?_getD,List.getD_eq_getElem?_getD,List.getElem?_eq_getElem hlt]
     rfl
   have hdt:A.getD dp.toNat (-1)=(t:Int):=et
   have cA:∃ ab ao,a1=some ⟨ab,ao,none⟩ ∧ w1.cell? ⟨ab,ao + dp.toNat,none⟩=some (.int .i64 t):=by
     obtain ⟨-, -,h3 | ⟨b,o,rfl, -,hh⟩⟩:=hilA
     · omega
     · exact ⟨b,o,rfl,by rw [hh dp.toNat hlt,hxt]⟩
   obtain ⟨ab,ao,rfl,cA⟩:=cA
   have cE:∃ b o,ea=some ⟨b,o,none⟩ ∧ w1.cell? ⟨b,o + t,none⟩=some (.int .i64 (Nst.at1 E t)):=by
     obtain ⟨hl, -,h3 | ⟨b,o,rfl, -,hh⟩⟩:=hE1
     · omega
     · refine ⟨b,o,rfl,?_⟩
       rw [hh t htn]
       unfold Nst.at1
       rw [List.getD_eq_getElem?_getD,List.getD_eq_getElem?_getD,List.getElem?_eq_getElem (by omega)]
       rfl
   obtain ⟨eb,eo,rfl,cE⟩:=cE
   have cH:∃ b o,ha=some ⟨b,o,none⟩ ∧ w1.cell? ⟨b,o + t,none⟩=some (.int .i64 (Hs.getD t 0)):=by
     obtain ⟨hl, -,h3 | ⟨b,o,rfl, -,hh⟩⟩:=hH1
     · omega
     · exact ⟨b,o,rfl,hh t htn⟩
   obtain ⟨hb',ho',rfl,cH⟩:=cH
   have cS:∃ b o,ba=some ⟨b,o,none⟩ ∧ w1.cell? ⟨b,o + t * 2,none⟩=some (.int .i64 (Nst.op F.b t)) ∧ w1.cell? ⟨b,o + t * 2 + 1,none⟩=some (.int .i64 (Hg.arg F.b t)):=by
     obtain ⟨hl, -,h3 | ⟨b,o,rfl, -,hh⟩⟩:=hsl1
     · omega
     · exact ⟨b,o,rfl,(hh t htn).1,(hh t htn).2⟩
   obtain ⟨sb,so,rfl,cS1,cS2⟩:=cS
   have HL:Hid (Mn.lbl F E Hs at' dp=if Nst.op F.b t=9 then ((t:Int) + 1,Hs.getD t 0,0) else if Nst.op F.b t=10 then (Nst.at1 E t + 1,Hs.getD t 0 - 1,Hg.arg F.b t) else (Nst.at1 E t + 1,Hs.getD t 0,Hg.arg F.b t)):=by
     show _=_
     unfold Mn.lbl
     rw [hAr,if_pos hlt]
     simp only [hdt,Int.toNat_natCast]
   have hEb:Nst.at1 E t < bl:=by
     have h1:=hA.nst.f3 t (by rw [HBL.out.1];exact htn) (by omega)
     have:=HBL.out.1
     omega
   have hHb:Hs.getD t 0 ≤ 20:=hA.top t (by rw [HBL.out.1];exact htn)
   have hHl:0 ≤ Hs.getD t 0:=hJ t hlt hdt
   obtain ⟨p,hp⟩:∃ p,Nst.op F.b t=p:=⟨_,rfl⟩
   obtain ⟨q,hq⟩:∃ q,Hg.arg F.b t=q:=⟨_,rfl⟩
   obtain ⟨u,hu⟩:∃ u,Hs.getD t 0=u:=⟨_,rfl⟩
   obtain ⟨z,hz⟩:∃ z,Nst.at1 E t=z:=⟨_,rfl⟩
   rw [hp,hq,hu,hz] at HL
   rw [hp] at cS1
   rw [hq] at cS2
   rw [hu] at cH hHb hHl
   rw [hz] at cE hEb hEt
   obtain ⟨dn,hdn⟩:=Int.eq_ofNat_of_zero_le h0
   subst hdn
   rw [Int.toNat_natCast] at cA hlt
   have hdZ:(dn:Int) < (A.length:Int):=by omega
   have htZ:(t:Int) < (bl:Int):=by omega
   have hAl:=hal
   obtain ⟨al,hal2⟩:∃ al,A.length=al:=⟨_,rfl⟩
   rw [hal2] at hdZ hlt hge hAl ⊢
   clear hmem harm hilA hsl1 hE1 hH1 hx hxt hdt et hp hq hu hz hal hal2 hAr hA hE hF hH hall x hJ
   by_cases h9':p=9
   · subst h9'
     go_wp2
     go_ret3
     exact ⟨by rw [HL.out];rfl,HB.out⟩
   · by_cases h10:p=10
     · subst h10
       go_wp2
       go_quiet (fail)
       go_wp2
       go_ret3
       exact ⟨by rw [HL.out];rfl,HB.out.trans ((below_drewN w1 _).mono HB.out.size)⟩
     · have e9:(p == 9)=false:=by simpa using h9'
       have e10:(p == 10)=false:=by simpa using h10
       go_wp2
       go_quiet (fail)
       go_wp2
       go_ret3
       exact ⟨by rw [HL.out,if_neg h9',if_neg h10];rfl,HB.out.trans ((below_drewN w1 _).mono HB.out.size)⟩
 · have hge:(A.length:Int) ≤ dp:=by omega
   have HL:Hid (Mn.lbl F E Hs at' dp=(-1,0,F.g)):=by
     show _=_
     unfold Mn.lbl
     rw [hAr,if_neg hlt]
   clear hmem harm hilA hsl1 hE1 hH1 hJ
   go_wp2
   go_quiet (fail)
   go_wp2
   go_ret3
   exact ⟨by rw [HL.out];rfl,HB.out.trans ((below_drewN w1 _).mono HB.out.size)⟩
theorem spec_l1Bit (b:Bool) (w:World):Calls Tryz.prog 91 #[.bool b] w fun e w' => e = .returned (.int .i64 (if b=true then 1 else 0)) ∧ w'=w:=by
 cases b
 all_goals
   go_enter Tryz.func91,Tryz.ntmps91
   go_wp2
   go_ret
   exact ⟨rfl,rfl⟩
theorem spec_l1Copy_any (b off n cap:Nat) (xs:List Int) (hn:n ≤ 1048576) (w:World) (hs:IL w (some ⟨b,off,none⟩) n xs) :
   Calls Tryz.prog 89 #[.slice (some ⟨b,off,none⟩) n cap] w fun e w' => ∃ g c,e = .returned (.slice (some ⟨g,0,none⟩) n c) ∧ w.heap.size ≤ g ∧ g < w'.heap.size ∧ w'.ownsRow w.heap.size 2 1 (.slice (some ⟨g,0,none⟩) n c) n (xs.map iv) ∧ Below w.heap.size w w':=by
 obtain ⟨i0,hi,hz0,hz1,hz2⟩:=info_parts info_int
 have hl:=hs.1
 have HN:Hid (∀ (o:Obj) j u,(xs.map iv)[j]? = some u → (w.alloc o).cell? ((⟨b,off,none⟩:Addr).add j)=some u):=by
   intro o j u hu
   have hj:j < n:=by
     have:=(List.getElem?_eq_some_iff.1 hu).1
     rwa [List.length_map,hl] at this
   obtain ⟨-, -,h3 | ⟨b',off',e,hb,hx⟩⟩:=hs
   · omega
   simp only [Option.some.injEq,Addr.mk.injEq,and_true] at e
   obtain ⟨rfl,rfl⟩:=e
   rw [map_get (by rw [hl];exact hj)] at hu
   cases hu
   have hadd:(⟨b,off,none⟩:Addr).add j=⟨b,off + j,none⟩:=by unfold Addr.add;split <;> simp_all
   rw [hadd]
   exact (((Below.refl _ w).alloc (Nat.le_refl _) o).cell (p:=⟨b,off + j,none⟩) hb).trans (hx j hj)
 have HL:=Hid.put hl
 have hem:=OI.empty w
 have HE:=Hid.put hem
 clear hl hem hs
 go_enter Tryz.func89,Tryz.ntmps89
 go_wp2_with (at_builtin;refine wpList_append_own _ rfl _ _ 27 rfl w.heap.size 2 i0 (.int .i64 0) 1 8 Tryz.underlying27 hi hz0 hz1 hz2 rfl (by decide) _ _ _ rfl HE.out ⟨b,off,none⟩ n cap (xs.map iv) rfl (by rw [List.length_map,HL.out,Nat.mul_one]) (HN.out _) iv_one (by simp only [maxLen,List.length_nil];omega) (by simp only [List.length_nil];omega) (by simp) ?_;intro v' wA hown' hgrow hnn)
 go_ret
 rcases hown'.2 with ⟨rfl,h0⟩ | ⟨g',cap',cur,rfl,_⟩
 · exact absurd (hnn.1 rfl).1 (fun h => by cases h)
 · have hlt:=hown'.lt g' rfl
   have e:([]:List Int).length + n=n:=by simp
   refine ⟨g',cap',congrArg (fun m => Ending.returned (.slice (some ⟨g',0,none⟩) m cap')) e,hlt.1,hlt.2,?_,?_⟩
   · simpa using hown'
   · exact ((Below.refl _ w).alloc (Nat.le_refl _) _).grown hgrow (by simp) (fun j ej => by cases ej;exact Nat.le_refl _)
theorem spec_Done_1 (a b:Int) (w:World) (ha:Wd.ok a=true) (hb:Wd.ok b=true) :
   Calls Tryz.prog 90 #[.int .i64 1,.int .i64 a,.int .i64 b] w fun e w' => e = .returned (.tuple #[.int .i64 (Wd.dv 1 a b),.int .i64 (Wd.dc 1 a b)]) ∧ ∃ q,w'=w.drewN q:=by
 obtain ⟨h3,h4⟩:=Wd.ok_iff.1 ha
 obtain ⟨h5,h6⟩:=Wd.ok_iff.1 hb
 go_enter Tryz.func90,Tryz.ntmps90
 go_wp2_with (first | (go_at_call 17;refine (spec_WordOk _ _).mono ?_;rintro e w' ⟨rfl,rfl⟩) | (go_at_call 121;refine (spec_Wrap _ _).mono ?_;rintro e w' ⟨rfl,rfl⟩) | (go_at_call 122;refine (spec_Signed _ _).mono ?_;rintro e w' ⟨rfl,rfl⟩) | go_in)
 all_goals (go_ret2;exact ⟨ret_two (Wd.dv1 ha hb) (Wd.dc_0 ha hb (by omega) (by omega)),0,rfl⟩)
theorem spec_Done_2 (a b:Int) (w:World) (ha:Wd.ok a=true) (hb:Wd.ok b=true) :
   Calls Tryz.prog 90 #[.int .i64 2,.int .i64 a,.int .i64 b] w fun e w' => e = .returned (.tuple #[.int .i64 (Wd.dv 2 a b),.int .i64 (Wd.dc 2 a b)]) ∧ ∃ q,w'=w.drewN q:=by
 obtain ⟨h3,h4⟩:=Wd.ok_iff.1 ha
 obtain ⟨h5,h6⟩:=Wd.ok_iff.1 hb
 go_enter Tryz.func90,Tryz.ntmps90
 go_wp2_with (first | (go_at_call 17;refine (spec_WordOk _ _).mono ?_;rintro e w' ⟨rfl,rfl⟩) | (go_at_call 121;refine (spec_Wrap _ _).mono ?_;rintro e w' ⟨rfl,rfl⟩) | (go_at_call 122;refine (spec_Signed _ _).mono ?_;rintro e w' ⟨rfl,rfl⟩) | go_in)
 all_goals (go_ret2;exact ⟨ret_two (Wd.dv2 ha hb) (Wd.dc_0 ha hb (by omega) (by omega)),0,rfl⟩)
theorem spec_Done_3 (a b:Int) (w:World) (ha:Wd.ok a=true) (hb:Wd.ok b=true) :
   Calls Tryz.prog 90 #[.int .i64 3,.int .i64 a,.int .i64 b] w fun e w' => e = .returned (.tuple #[.int .i64 (Wd.dv 3 a b),.int .i64 (Wd.dc 3 a b)]) ∧ ∃ q,w'=w.drewN q:=by
 obtain ⟨h3,h4⟩:=Wd.ok_iff.1 ha
 obtain ⟨h5,h6⟩:=Wd.ok_iff.1 hb
 go_enter Tryz.func90,Tryz.ntmps90
 go_wp2_with (first | (go_at_call 17;refine (spec_WordOk _ _).mono ?_;rintro e w' ⟨rfl,rfl⟩) | (go_at_call 121;refine (spec_Wrap _ _).mono ?_;rintro e w' ⟨rfl,rfl⟩) | (go_at_call 122;refine (spec_Signed _ _).mono ?_;rintro e w' ⟨rfl,rfl⟩) | go_in)
 all_goals (go_ret2;exact ⟨ret_two (Wd.dv3 ha hb) (Wd.dc_0 ha hb (by omega) (by omega)),0,rfl⟩)
theorem spec_Done_5 (a b:Int) (w:World) (ha:Wd.ok a=true) (hb:Wd.ok b=true) :
   Calls Tryz.prog 90 #[.int .i64 5,.int .i64 a,.int .i64 b] w fun e w' => e = .returned (.tuple #[.int .i64 (Wd.dv 5 a b),.int .i64 (Wd.dc 5 a b)]) ∧ ∃ q,w'=w.drewN q:=by
 obtain ⟨h3,h4⟩:=Wd.ok_iff.1 ha
 obtain ⟨h5,h6⟩:=Wd.ok_iff.1 hb
 go_enter Tryz.func90,Tryz.ntmps90
 go_wp2_with (first | (go_at_call 17;refine (spec_WordOk _ _).mono ?_;rintro e w' ⟨rfl,rfl⟩) | (go_at_call 121;refine (spec_Wrap _ _).mono ?_;rintro e w' ⟨rfl,rfl⟩) | (go_at_call 122;refine (spec_Signed _ _).mono ?_;rintro e w' ⟨rfl,rfl⟩) | go_in)
 all_goals (go_ret2;exact ⟨ret_two (Wd.dv5 ha hb) (Wd.dc_0 ha hb (by omega) (by omega)),0,rfl⟩)
theorem spec_Done_6 (a b:Int) (w:World) (ha:Wd.ok a=true) (hb:Wd.ok b=true) :
   Calls Tryz.prog 90 #[.int .i64 6,.int .i64 a,.int .i64 b] w fun e w' => e = .returned (.tuple #[.int .i64 (Wd.dv 6 a b),.int .i64 (Wd.dc 6 a b)]) ∧ ∃ q,w'=w.drewN q:=by
 obtain ⟨h3,h4⟩:=Wd.ok_iff.1 ha
 obtain ⟨h5,h6⟩:=Wd.ok_iff.1 hb
 go_enter Tryz.func90,Tryz.ntmps90
 go_wp2_with (first | (go_at_call 17;refine (spec_WordOk _ _).mono ?_;rintro e w' ⟨rfl,rfl⟩) | (go_at_call 121;refine (spec_Wrap _ _).mono ?_;rintro e w' ⟨rfl,rfl⟩) | (go_at_call 122;refine (spec_Signed _ _).mono ?_;rintro e w' ⟨rfl,rfl⟩) | go_in)
 all_goals (go_ret2;exact ⟨ret_two (Wd.dv6 ha hb) (Wd.dc_0 ha hb (by omega) (by omega)),0,rfl⟩)
theorem spec_Done_7 (a b:Int) (w:World) (ha:Wd.ok a=true) (hb:Wd.ok b=true) :
   Calls Tryz.prog 90 #[.int .i64 7,.int .i64 a,.int .i64 b] w fun e w' => e = .returned (.tuple #[.int .i64 (Wd.dv 7 a b),.int .i64 (Wd.dc 7 a b)]) ∧ ∃ q,w'=w.drewN q:=by
 obtain ⟨h3,h4⟩:=Wd.ok_iff.1 ha
 obtain ⟨h5,h6⟩:=Wd.ok_iff.1 hb
 go_enter Tryz.func90,Tryz.ntmps90
 go_wp2_with (first | (go_at_call 17;refine (spec_WordOk _ _).mono ?_;rintro e w' ⟨rfl,rfl⟩) | (go_at_call 121;refine (spec_Wrap _ _).mono ?_;rintro e w' ⟨rfl,rfl⟩) | (go_at_call 122;refine (spec_Signed _ _).mono ?_;rintro e w' ⟨rfl,rfl⟩) | go_in)
 all_goals (go_ret2;exact ⟨ret_two (Wd.dv7 ha hb) (Wd.dc_0 ha hb (by omega) (by omega)),0,rfl⟩)
theorem spec_Done_8 (a b:Int) (w:World) (ha:Wd.ok a=true) (hb:Wd.ok b=true) :
   Calls Tryz.prog 90 #[.int .i64 8,.int .i64 a,.int .i64 b] w fun e w' => e = .returned (.tuple #[.int .i64 (Wd.dv 8 a b),.int .i64 (Wd.dc 8 a b)]) ∧ ∃ q,w'=w.drewN q:=by
 obtain ⟨h3,h4⟩:=Wd.ok_iff.1 ha
 obtain ⟨h5,h6⟩:=Wd.ok_iff.1 hb
 go_enter Tryz.func90,Tryz.ntmps90
 go_wp2_with (first | (go_at_call 17;refine (spec_WordOk _ _).mono ?_;rintro e w' ⟨rfl,rfl⟩) | (go_at_call 121;refine (spec_Wrap _ _).mono ?_;rintro e w' ⟨rfl,rfl⟩) | (go_at_call 122;refine (spec_Signed _ _).mono ?_;rintro e w' ⟨rfl,rfl⟩) | go_in)
 all_goals (go_ret2;exact ⟨ret_two (Wd.dv8 ha hb) (Wd.dc_0 ha hb (by omega) (by omega)),0,rfl⟩)
theorem spec_Done_9 (a b:Int) (w:World) (ha:Wd.ok a=true) (hb:Wd.ok b=true) :
   Calls Tryz.prog 90 #[.int .i64 9,.int .i64 a,.int .i64 b] w fun e w' => e = .returned (.tuple #[.int .i64 (Wd.dv 9 a b),.int .i64 (Wd.dc 9 a b)]) ∧ ∃ q,w'=w.drewN q:=by
 obtain ⟨h3,h4⟩:=Wd.ok_iff.1 ha
 obtain ⟨h5,h6⟩:=Wd.ok_iff.1 hb
 go_enter Tryz.func90,Tryz.ntmps90
 go_wp2_with (first | (go_at_call 17;refine (spec_WordOk _ _).mono ?_;rintro e w' ⟨rfl,rfl⟩) | (go_at_call 121;refine (spec_Wrap _ _).mono ?_;rintro e w' ⟨rfl,rfl⟩) | (go_at_call 122;refine (spec_Signed _ _).mono ?_;rintro e w' ⟨rfl,rfl⟩) | go_in)
 all_goals (go_ret2;exact ⟨ret_two (Wd.dv9 ha hb) (Wd.dc_0 ha hb (by omega) (by omega)),0,rfl⟩)
theorem spec_Done_4z (a b:Int) (w:World) (ha:Wd.ok a=true) (hb:Wd.ok b=true) (h:Wd.sg b=0) :
   Calls Tryz.prog 90 #[.int .i64 4,.int .i64 a,.int .i64 b] w fun e w' => e = .returned (.tuple #[.int .i64 (Wd.dv 4 a b),.int .i64 (Wd.dc 4 a b)]) ∧ ∃ q,w'=w.drewN q:=by
 obtain ⟨h3,h4⟩:=Wd.ok_iff.1 ha
 obtain ⟨h5,h6⟩:=Wd.ok_iff.1 hb
 have h0:(Wd.sg b == 0)=true:=by simp [h]
 have H:RowKit.Hid (Wd.sg b=0):=h
 clear h
 go_enter Tryz.func90,Tryz.ntmps90
 go_wp2_with (first | (go_at_call 17;refine (spec_WordOk _ _).mono ?_;rintro e w' ⟨rfl,rfl⟩) | (go_at_call 121;refine (spec_Wrap _ _).mono ?_;rintro e w' ⟨rfl,rfl⟩) | (go_at_call 122;refine (spec_Signed _ _).mono ?_;rintro e w' ⟨rfl,rfl⟩) | go_in)
 all_goals (go_ret2;exact ⟨ret_two (Wd.dv4z ha hb H.out) (Wd.dc4z ha hb H.out),0,rfl⟩)
theorem spec_Done_4o (a b:Int) (w:World) (ha:Wd.ok a=true) (hb:Wd.ok b=true) (h:Wd.sg a = -2147483648) (h':Wd.sg b = -1) :
   Calls Tryz.prog 90 #[.int .i64 4,.int .i64 a,.int .i64 b] w fun e w' => e = .returned (.tuple #[.int .i64 (Wd.dv 4 a b),.int .i64 (Wd.dc 4 a b)]) ∧ ∃ q,w'=w.drewN q:=by
 obtain ⟨h3,h4⟩:=Wd.ok_iff.1 ha
 obtain ⟨h5,h6⟩:=Wd.ok_iff.1 hb
 go_enter Tryz.func90,Tryz.ntmps90
 go_wp2_with (first | (go_at_call 17;refine (spec_WordOk _ _).mono ?_;rintro e w' ⟨rfl,rfl⟩) | (go_at_call 121;refine (spec_Wrap _ _).mono ?_;rintro e w' ⟨rfl,rfl⟩) | (go_at_call 122;refine (spec_Signed _ _).mono ?_;rintro e w' ⟨rfl,rfl⟩) | go_in)
 all_goals (go_ret2;exact ⟨ret_two (Wd.dv4o ha hb h h') (Wd.dc4o ha hb h h'),0,rfl⟩)
theorem spec_Done_4d (a b:Int) (w:World) (ha:Wd.ok a=true) (hb:Wd.ok b=true) (h0:¬ Wd.sg b=0) (h:¬ (Wd.sg a = -2147483648 ∧ Wd.sg b = -1)) :
   Calls Tryz.prog 90 #[.int .i64 4,.int .i64 a,.int .i64 b] w fun e w' => e = .returned (.tuple #[.int .i64 (Wd.dv 4 a b),.int .i64 (Wd.dc 4 a b)]) ∧ ∃ q,w'=w.drewN q:=by
 obtain ⟨h3,h4⟩:=Wd.ok_iff.1 ha
 obtain ⟨h5,h6⟩:=Wd.ok_iff.1 hb
 have h1:(Wd.sg b == 0)=false:=by simp [h0]
 have H:RowKit.Hid (¬ (Wd.sg a = -2147483648 ∧ Wd.sg b = -1)):=h
 have h2:(Wd.sg a == -2147483648)=true → (Wd.sg b == -1)=false:=by simpa using h
 clear h
 go_enter Tryz.func90,Tryz.ntmps90
 go_wp2_with (first | (go_at_call 17;refine (spec_WordOk _ _).mono ?_;rintro e w' ⟨rfl,rfl⟩) | (go_at_call 121;refine (spec_Wrap _ _).mono ?_;rintro e w' ⟨rfl,rfl⟩) | (go_at_call 122;refine (spec_Signed _ _).mono ?_;rintro e w' ⟨rfl,rfl⟩) | go_in)
 all_goals (go_ret2;first | exact ⟨ret_two (Wd.dv4d ha hb h0 H.out) (Wd.dc4d ha hb h0 H.out),0,rfl⟩ | exact ⟨ret_two (Wd.dv4m ha hb h0 H.out ‹_›) (Wd.dc4d ha hb h0 H.out),0,rfl⟩)
theorem spec_Done_10y (a b:Int) (w:World) (ha:Wd.ok a=true) (hb:Wd.ok b=true) (h:(a == b)=true) :
   Calls Tryz.prog 90 #[.int .i64 10,.int .i64 a,.int .i64 b] w fun e w' => e = .returned (.tuple #[.int .i64 (Wd.dv 10 a b),.int .i64 (Wd.dc 10 a b)]) ∧ ∃ q,w'=w.drewN q:=by
 obtain ⟨h3,h4⟩:=Wd.ok_iff.1 ha
 obtain ⟨h5,h6⟩:=Wd.ok_iff.1 hb
 go_enter Tryz.func90,Tryz.ntmps90
 go_wp2_with (first | (go_at_call 17;refine (spec_WordOk _ _).mono ?_;rintro e w' ⟨rfl,rfl⟩) | (go_at_call 121;refine (spec_Wrap _ _).mono ?_;rintro e w' ⟨rfl,rfl⟩) | (go_at_call 122;refine (spec_Signed _ _).mono ?_;rintro e w' ⟨rfl,rfl⟩) | go_in)
 all_goals (go_ret2;exact ⟨ret_two (Wd.dv10y ha hb (by simpa using h)) (Wd.dc_0 ha hb (by omega) (by omega)),0,rfl⟩)
theorem spec_Done_10n (a b:Int) (w:World) (ha:Wd.ok a=true) (hb:Wd.ok b=true) (h:(a == b)=false) :
   Calls Tryz.prog 90 #[.int .i64 10,.int .i64 a,.int .i64 b] w fun e w' => e = .returned (.tuple #[.int .i64 (Wd.dv 10 a b),.int .i64 (Wd.dc 10 a b)]) ∧ ∃ q,w'=w.drewN q:=by
 obtain ⟨h3,h4⟩:=Wd.ok_iff.1 ha
 obtain ⟨h5,h6⟩:=Wd.ok_iff.1 hb
 go_enter Tryz.func90,Tryz.ntmps90
 go_wp2_with (first | (go_at_call 17;refine (spec_WordOk _ _).mono ?_;rintro e w' ⟨rfl,rfl⟩) | (go_at_call 121;refine (spec_Wrap _ _).mono ?_;rintro e w' ⟨rfl,rfl⟩) | (go_at_call 122;refine (spec_Signed _ _).mono ?_;rintro e w' ⟨rfl,rfl⟩) | go_in)
 all_goals (go_ret2;exact ⟨ret_two (Wd.dv10n ha hb (by simpa using h)) (Wd.dc_0 ha hb (by omega) (by omega)),0,rfl⟩)
theorem spec_Done_11y (a b:Int) (w:World) (ha:Wd.ok a=true) (hb:Wd.ok b=true) (h:Wd.sg a < Wd.sg b) :
   Calls Tryz.prog 90 #[.int .i64 11,.int .i64 a,.int .i64 b] w fun e w' => e = .returned (.tuple #[.int .i64 (Wd.dv 11 a b),.int .i64 (Wd.dc 11 a b)]) ∧ ∃ q,w'=w.drewN q:=by
 obtain ⟨h3,h4⟩:=Wd.ok_iff.1 ha
 obtain ⟨h5,h6⟩:=Wd.ok_iff.1 hb
 go_enter Tryz.func90,Tryz.ntmps90
 go_wp2_with (first | (go_at_call 17;refine (spec_WordOk _ _).mono ?_;rintro e w' ⟨rfl,rfl⟩) | (go_at_call 121;refine (spec_Wrap _ _).mono ?_;rintro e w' ⟨rfl,rfl⟩) | (go_at_call 122;refine (spec_Signed _ _).mono ?_;rintro e w' ⟨rfl,rfl⟩) | go_in)
 all_goals (go_ret2;exact ⟨ret_two (Wd.dv11y ha hb (by simpa using h)) (Wd.dc_0 ha hb (by omega) (by omega)),0,rfl⟩)
theorem spec_Done_11n (a b:Int) (w:World) (ha:Wd.ok a=true) (hb:Wd.ok b=true) (h:¬ Wd.sg a < Wd.sg b) :
   Calls Tryz.prog 90 #[.int .i64 11,.int .i64 a,.int .i64 b] w fun e w' => e = .returned (.tuple #[.int .i64 (Wd.dv 11 a b),.int .i64 (Wd.dc 11 a b)]) ∧ ∃ q,w'=w.drewN q:=by
 obtain ⟨h3,h4⟩:=Wd.ok_iff.1 ha
 obtain ⟨h5,h6⟩:=Wd.ok_iff.1 hb
 go_enter Tryz.func90,Tryz.ntmps90
 go_wp2_with (first | (go_at_call 17;refine (spec_WordOk _ _).mono ?_;rintro e w' ⟨rfl,rfl⟩) | (go_at_call 121;refine (spec_Wrap _ _).mono ?_;rintro e w' ⟨rfl,rfl⟩) | (go_at_call 122;refine (spec_Signed _ _).mono ?_;rintro e w' ⟨rfl,rfl⟩) | go_in)
 all_goals (go_ret2;exact ⟨ret_two (Wd.dv11n ha hb (by simpa using h)) (Wd.dc_0 ha hb (by omega) (by omega)),0,rfl⟩)
theorem spec_Done_12y (a b:Int) (w:World) (ha:Wd.ok a=true) (hb:Wd.ok b=true) (h:a < b) :
   Calls Tryz.prog 90 #[.int .i64 12,.int .i64 a,.int .i64 b] w fun e w' => e = .returned (.tuple #[.int .i64 (Wd.dv 12 a b),.int .i64 (Wd.dc 12 a b)]) ∧ ∃ q,w'=w.drewN q:=by
 obtain ⟨h3,h4⟩:=Wd.ok_iff.1 ha
 obtain ⟨h5,h6⟩:=Wd.ok_iff.1 hb
 go_enter Tryz.func90,Tryz.ntmps90
 go_wp2_with (first | (go_at_call 17;refine (spec_WordOk _ _).mono ?_;rintro e w' ⟨rfl,rfl⟩) | (go_at_call 121;refine (spec_Wrap _ _).mono ?_;rintro e w' ⟨rfl,rfl⟩) | (go_at_call 122;refine (spec_Signed _ _).mono ?_;rintro e w' ⟨rfl,rfl⟩) | go_in)
 all_goals (go_ret2;exact ⟨ret_two (Wd.dv12y ha hb (by simpa using h)) (Wd.dc_0 ha hb (by omega) (by omega)),0,rfl⟩)
theorem spec_Done_12n (a b:Int) (w:World) (ha:Wd.ok a=true) (hb:Wd.ok b=true) (h:¬ a < b) :
   Calls Tryz.prog 90 #[.int .i64 12,.int .i64 a,.int .i64 b] w fun e w' => e = .returned (.tuple #[.int .i64 (Wd.dv 12 a b),.int .i64 (Wd.dc 12 a b)]) ∧ ∃ q,w'=w.drewN q:=by
 obtain ⟨h3,h4⟩:=Wd.ok_iff.1 ha
 obtain ⟨h5,h6⟩:=Wd.ok_iff.1 hb
 go_enter Tryz.func90,Tryz.ntmps90
 go_wp2_with (first | (go_at_call 17;refine (spec_WordOk _ _).mono ?_;rintro e w' ⟨rfl,rfl⟩) | (go_at_call 121;refine (spec_Wrap _ _).mono ?_;rintro e w' ⟨rfl,rfl⟩) | (go_at_call 122;refine (spec_Signed _ _).mono ?_;rintro e w' ⟨rfl,rfl⟩) | go_in)
 all_goals (go_ret2;exact ⟨ret_two (Wd.dv12n ha hb (by simpa using h)) (Wd.dc_0 ha hb (by omega) (by omega)),0,rfl⟩)
end Go.Proofs.YthpdpoocigpccaaGreatDoor
