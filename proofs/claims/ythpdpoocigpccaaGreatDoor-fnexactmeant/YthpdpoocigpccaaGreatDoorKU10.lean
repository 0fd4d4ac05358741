/-
  Own texts for a law of chapter 8: Wlk3 Wlk4 Stp0 Phi3 StpA StpB StpC StpD
-/
import Derived.Test.YthpdpoocigpccaaGreatDoorKU05
import Derived.Test.YthpdpoocigpccaaGreatDoorKU07
import Derived.Test.YthpdpoocigpccaaGreatDoorKU09
namespace Go.Proofs.YthpdpoocigpccaaGreatDoor
open Go.RowKit Go.Shelf
set_option linter.unusedVariables false
set_option maxRecDepth 100000
set_option maxHeartbeats 16000000
structure CC where
 w:World
 k:Nat
 d:Nat
 fb:Nat
 gl:Nat
 cl:Nat
 bb:Nat
 bo:Nat
 bl:Nat
 bc:Nat
 R:Mn.Rs
structure CQ (c:WC) (W0:World) (q:CC):Prop where
 tab:Tab c W0
 lt:q.k < c.fs.length
 dp:q.d < 12
 agr:Agr c W0 q.w
 cel:q.w.cell? ⟨c.fb,c.fo + q.k * 4 + 3,none⟩=some (.slice (some ⟨q.bb,q.bo,none⟩) q.bl q.bc)
 inB:c.B < q.w.heap.size
 inM:c.M < q.w.heap.size
 len:(Mn.fn c.fs q.k).b.length=q.bl
 b80:q.bl ≤ 80
structure CI (c:WC) (W0:World) (q:CC) (at':Nat) (pile loc mem:List Int) (n gp cp:Nat) (wr:World):Prop where
 nb:n ≤ 3000
 wk:WK c W0 wr mem n 0
 fx:BoxL wr q.fb [.int .i64 (Mn.fn c.fs q.k).a,.int .i64 (Mn.fn c.fs q.k).l,.int .i64 (Mn.fn c.fs q.k).g,.slice (some ⟨q.bb,q.bo,none⟩) q.bl q.bc]
 lr:wr.ownsRow (q.fb + 1) 2 1 (.slice (some ⟨q.gl,0,none⟩) loc.length q.cl) loc.length (loc.map iv)
 pr:wr.ownsRow (q.gl + 1) 2 1 (.slice (some ⟨gp,0,none⟩) pile.length cp) pile.length (pile.map iv)
 n4:q.w.heap.size ≤ q.fb
 agr:Agr c q.w wr
 good:Mn.Good c.fs (Mn.fn c.fs q.k) (Mn.hts c.fs q.k) at' pile loc mem
 run:Mn.run c.fs (n + 1) n q.d q.k at' pile loc mem=q.R
structure CF (c:WC) (W0:World) (q:CC) (pile mem:List Int) (n gp cp:Nat) (wr:World):Prop where
 wk:WK c W0 wr mem n 0
 fx:BoxL wr q.fb [.int .i64 (Mn.fn c.fs q.k).a,.int .i64 (Mn.fn c.fs q.k).l,.int .i64 (Mn.fn c.fs q.k).g,.slice (some ⟨q.bb,q.bo,none⟩) q.bl q.bc]
 pr:wr.ownsRow (q.gl + 1) 2 1 (.slice (some ⟨gp,0,none⟩) pile.length cp) pile.length (pile.map iv)
 agr:Agr c q.w wr
 len:(pile.length:Int)=(Mn.fn c.fs q.k).g
 run:q.R = .done (Mn.gives (Mn.fn c.fs q.k) pile) mem n
theorem body_at {c:WC} {W0:World} {q:CC} {wr:World} (Q:CQ c W0 q) (h:Agr c W0 wr):SL wr (some ⟨q.bb,q.bo,none⟩) q.bl (Mn.fn c.fs q.k).b:=by
 obtain ⟨-, -, -,ba,bl,bc,e,hsl⟩:=fl_at (Q.tab.fl wr h) Q.lt
 have e1:wr.cell? ⟨c.fb,c.fo + q.k * 4 + 3,none⟩=q.w.cell? ⟨c.fb,c.fo + q.k * 4 + 3,none⟩:=by
   refine World.cell?_of_block (a:=⟨c.fb,c.fo + q.k * 4 + 3,none⟩) ?_
   obtain ⟨f1,f2,f3⟩:=Q.tab.fbn
   rw [h.blk c.fb f1 f2 f3,Q.agr.blk c.fb f1 f2 f3]
 rw [e1,Q.cel] at e
 simp only [Option.some.injEq,Value.slice.injEq] at e
 obtain ⟨rfl,rfl,rfl⟩:=e
 exact hsl
theorem CI.next {c:WC} {W0:World} {q:CC} {at':Nat} {pile loc mem:List Int} {m gp cp:Nat} {wr:World} (Q:CQ c W0 q) (h:CI c W0 q at' pile loc mem (m + 1) gp cp wr) {a2:Nat} {p2 l2 m2:List Int} (hs:Mn.stepk c.fs q.k at' pile loc mem = .next a2 p2 l2 m2) :
   Mn.Good c.fs (Mn.fn c.fs q.k) (Mn.hts c.fs q.k) a2 p2 l2 m2 ∧ Mn.run c.fs (m + 1) m q.d q.k a2 p2 l2 m2=q.R:=by
 have F:Mn.Fine c.fs (Mn.fn c.fs q.k) (Mn.hts c.fs q.k) at' loc mem (Mn.stepk c.fs q.k at' pile loc mem):=Mn.step_fine (Md.okAll_getD Q.tab.val.all Q.lt) Q.tab.val.all (Q.tab.val.acc q.k Q.lt) h.good
 rw [hs] at F
 exact ⟨F,by rw [← h.run,Mn.run_next hs]⟩
theorem CI.fin {c:WC} {W0:World} {q:CC} {at':Nat} {pile loc mem:List Int} {m gp cp:Nat} {wr:World} (Q:CQ c W0 q) (h:CI c W0 q at' pile loc mem (m + 1) gp cp wr) {p2:List Int} (hs:Mn.stepk c.fs q.k at' pile loc mem = .fin p2) :
   (p2.length:Int)=(Mn.fn c.fs q.k).g ∧ q.R = .done (Mn.gives (Mn.fn c.fs q.k) p2) mem m:=by
 have F:Mn.Fine c.fs (Mn.fn c.fs q.k) (Mn.hts c.fs q.k) at' loc mem (Mn.stepk c.fs q.k at' pile loc mem):=Mn.step_fine (Md.okAll_getD Q.tab.val.all Q.lt) Q.tab.val.all (Q.tab.val.acc q.k Q.lt) h.good
 rw [hs] at F
 exact ⟨F.1,by rw [← h.run,Mn.run_fin hs]⟩
theorem CI.halt {c:WC} {W0:World} {q:CC} {at':Nat} {pile loc mem:List Int} {m gp cp:Nat} {wr:World} (h:CI c W0 q at' pile loc mem (m + 1) gp cp wr) {e:Int} (hs:Mn.stepk c.fs q.k at' pile loc mem = .halt e):q.R = .stop e mem m:=by
 rw [← h.run,Mn.run_halt hs]
structure CO (c:WC) (q:CC) (pile loc:List Int) (gp cp:Nat) (wr:World):Prop where
 fx:BoxL wr q.fb [.int .i64 (Mn.fn c.fs q.k).a,.int .i64 (Mn.fn c.fs q.k).l,.int .i64 (Mn.fn c.fs q.k).g,.slice (some ⟨q.bb,q.bo,none⟩) q.bl q.bc]
 lr:wr.ownsRow (q.fb + 1) 2 1 (.slice (some ⟨q.gl,0,none⟩) loc.length q.cl) loc.length (loc.map iv)
 pr:wr.ownsRow (q.gl + 1) 2 1 (.slice (some ⟨gp,0,none⟩) pile.length cp) pile.length (pile.map iv)
theorem CI.own {c:WC} {W0:World} {q:CC} {at':Nat} {pile loc mem:List Int} {n gp cp:Nat} {wr:World} (h:CI c W0 q at' pile loc mem n gp cp wr):CO c q pile loc gp cp wr:=⟨h.fx,h.lr,h.pr⟩
theorem CO.far {c:WC} {q:CC} {pile loc:List Int} {gp cp:Nat} {W W':World} {row:Option Nat} (h:CO c q pile loc gp cp W) (hg:W.grownBy W' row) (h1:row ≠ some q.fb) (h2:row ≠ some q.gl) (h3:row ≠ some gp):CO c q pile loc gp cp W' :=
 ⟨h.fx.far hg h1,h.lr.kept hg (.inr (by simpa [Value.ownBlock] using Ne.symm h2)),h.pr.kept hg (.inr (by simpa [Value.ownBlock] using Ne.symm h3))⟩
theorem CO.kept {c:WC} {q:CC} {pile loc:List Int} {gp cp:Nat} {W W':World} (h:CO c q pile loc gp cp W) (hB:Below W.heap.size W W'):CO c q pile loc gp cp W' :=
 h.far (row:=none) ⟨hB.os,hB.tape,hB.output,hB.size,fun k hk _ => hB.block k hk⟩ (by simp) (by simp) (by simp)
theorem CO.ord {c:WC} {q:CC} {pile loc:List Int} {gp cp:Nat} {W:World} (h:CO c q pile loc gp cp W):q.fb < q.gl ∧ q.gl < gp ∧ gp < W.heap.size:=by
 have h1:=h.lr.lt q.gl rfl
 have h2:=h.pr.lt gp rfl
 omega
theorem CO.app {c:WC} {q:CC} {pile loc pile':List Int} {gp cp g' cp' N:Nat} {W W':World} (h:CO c q pile loc gp cp W) (hg:W.grownBy W' (some gp)) (hown:W'.ownsRow (q.gl + 1) 2 1 (.slice (some ⟨g',0,none⟩) N cp') N (pile'.map iv)) (hN:pile'.length=N):CO c q pile' loc g' cp' W':=by
 obtain ⟨o1,o2,o3⟩:=h.ord
 refine ⟨h.fx.far hg (by simp only [ne_eq,Option.some.injEq];omega),h.lr.kept hg (.inr (by simp only [Value.ownBlock,ne_eq,Option.some.injEq];omega)),by rw [hN];exact hown⟩
theorem CO.cut {c:WC} {q:CC} {pile loc:List Int} {gp cp:Nat} {W:World} (h:CO c q pile loc gp cp W) (n:Nat) (hn:n ≤ pile.length):CO c q (pile.take n) loc gp cp W:=by
 refine ⟨h.fx,h.lr,?_⟩
 have:=row_cutK h.pr n hn
 rw [Nat.mul_one,← List.map_take] at this
 rw [List.length_take,Nat.min_eq_left hn]
 exact this
theorem Agr.grow {c:WC} {W0 W W':World} {r:Nat} (h:Agr c W0 W) (hg:W.grownBy W' (some r)) (hr:W0.heap.size ≤ r ∨ r=c.B ∨ r=c.M):Agr c W0 W' :=
 ⟨hg.os.trans h.os,hg.tape.trans h.tape,hg.output.trans h.out,Nat.le_trans h.size hg.size,fun i hi h1 h2 => (hg.block i (Nat.lt_of_lt_of_le hi h.size) (by
   simp only [ne_eq,Option.some.injEq]
   rcases hr with hr | rfl | rfl
   · omega
   · exact h1
   · exact h2)).trans (h.blk i hi h1 h2)⟩
theorem WK.far {c:WC} {W0 W W':World} {mem:List Int} {fuel code:Int} {r:Nat} (h:WK c W0 W mem fuel code) (hg:W.grownBy W' (some r)) (hr:W0.heap.size ≤ r) (h1:r ≠ c.B) (h2:r ≠ c.M):WK c W0 W' mem fuel code :=
 ⟨h.agr.grow hg (.inl hr),h.box.far hg (by simpa using h1),h.row.kept hg (.inr (by simpa [Value.ownBlock] using Ne.symm h2))⟩
structure CM (c:WC) (W0:World) (q:CC) (pile loc mem:List Int) (n gp cp:Nat) (wr:World):Prop where
 wk:WK c W0 wr mem n 0
 co:CO c q pile loc gp cp wr
 n4:q.w.heap.size ≤ q.fb
 agr:Agr c q.w wr
theorem CM.kept {c:WC} {W0:World} {q:CC} {pile loc mem:List Int} {n gp cp:Nat} {W W':World} (h:CM c W0 q pile loc mem n gp cp W) (hB:Below W.heap.size W W'):CM c W0 q pile loc mem n gp cp W' :=
 ⟨h.wk.kept hB,h.co.kept hB,h.n4,h.agr.trans (Agr.below hB)⟩
theorem CM.cut {c:WC} {W0:World} {q:CC} {pile loc mem:List Int} {n gp cp:Nat} {W:World} (h:CM c W0 q pile loc mem n gp cp W) (k:Nat) (hk:k ≤ pile.length):CM c W0 q (pile.take k) loc mem n gp cp W:=⟨h.wk,h.co.cut k hk,h.n4,h.agr⟩
theorem CM.app {c:WC} {W0:World} {q:CC} {pile loc mem pile':List Int} {n gp cp g' cp' N:Nat} {W W':World} (Q:CQ c W0 q) (h:CM c W0 q pile loc mem n gp cp W) (hg:W.grownBy W' (some gp)) (hown:W'.ownsRow (q.gl + 1) 2 1 (.slice (some ⟨g',0,none⟩) N cp') N (pile'.map iv)) (hN:pile'.length=N):CM c W0 q pile' loc mem n g' cp' W':=by
 obtain ⟨o1,o2,o3⟩:=h.co.ord
 have h4:=h.n4
 have s0:=Q.agr.size
 have iB:=Q.inB
 have iM:=Q.inM
 exact ⟨h.wk.far hg (by omega) (by omega) (by omega),h.co.app hg hown hN,h.n4,h.agr.grow hg (.inl (by omega))⟩
theorem CI.cm {c:WC} {W0:World} {q:CC} {at':Nat} {pile loc mem:List Int} {n gp cp:Nat} {wr:World} (h:CI c W0 q at' pile loc mem n gp cp wr):CM c W0 q pile loc mem n gp cp wr:=⟨h.wk,h.own,h.n4,h.agr⟩
theorem CM.ci {c:WC} {W0:World} {q:CC} {at':Nat} {pile loc mem:List Int} {n gp cp:Nat} {wr:World} (h:CM c W0 q pile loc mem n gp cp wr) (hn:n ≤ 3000) (hg:Mn.Good c.fs (Mn.fn c.fs q.k) (Mn.hts c.fs q.k) at' pile loc mem) (hr:Mn.run c.fs (n + 1) n q.d q.k at' pile loc mem=q.R):CI c W0 q at' pile loc mem n gp cp wr :=
 ⟨hn,h.wk,h.co.fx,h.co.lr,h.co.pr,h.n4,h.agr,hg,hr⟩
theorem WK.set {c:WC} {W0 W:World} {mem:List Int} {fuel code:Int} (T:Tab c W0) (h:WK c W0 W mem fuel code) (x:Int) :
   WK c W0 (W.setCell ⟨c.B,6,none⟩ (.int .i64 x)) mem x code ∧ WK c W0 (W.setCell ⟨c.B,7,none⟩ (.int .i64 x)) mem fuel x:=by
 have hr:∀ o v,(W.setCell ⟨c.B,o,none⟩ v).ownsRow 0 2 1 (.slice (some ⟨c.M,0,none⟩) 64 c.Mc) 64 (mem.map iv):=fun o v =>
   h.row.kept (row:=some c.B) (grownBy_set' W ⟨c.B,o,none⟩ v) (.inr (by simpa [Value.ownBlock] using Ne.symm T.ne))
 have ha:∀ o v,Agr c W0 (W.setCell ⟨c.B,o,none⟩ v):=fun o v => h.agr.trans (Agr.grown (grownBy_set' W ⟨c.B,o,none⟩ v) (.inr (.inl rfl)))
 exact ⟨⟨ha _ _,h.box.set 6 _,hr _ _⟩,⟨ha _ _,h.box.set 7 _,hr _ _⟩⟩
theorem CM.fuel {c:WC} {W0:World} {q:CC} {pile loc mem:List Int} {n gp cp:Nat} {W:World} (Q:CQ c W0 q) (h:CM c W0 q pile loc mem n gp cp W) (m:Nat):CM c W0 q pile loc mem m gp cp (W.setCell ⟨c.B,6,none⟩ (.int .i64 (m:Int))):=by
 obtain ⟨o1,o2,o3⟩:=h.co.ord
 have h4:=h.n4
 have iB:=Q.inB
 have hg:=grownBy_set' W ⟨c.B,6,none⟩ (.int .i64 (m:Int))
 exact ⟨(h.wk.set Q.tab (m:Int)).1,h.co.far hg (by simp only [ne_eq,Option.some.injEq];omega) (by simp only [ne_eq,Option.some.injEq];omega) (by simp only [ne_eq,Option.some.injEq];omega),h.n4,h.agr.grow hg (.inr (.inl rfl))⟩
namespace Mn
open Hg
variable {fs:List Fn} {k at1:Nat} {pile loc mem:List Int} {a:Int}
theorem st1 (hp:Nst.op (fn fs k).b at1=1) (ha:arg (fn fs k).b at1=a):stepk fs k at1 pile loc mem = .next (at1 + 1) (pile ++ [a]) loc mem:=by
 simp only [stepk,step,hp,ha,↓reduceIte]
theorem st2 (hp:Nst.op (fn fs k).b at1=2) (ha:arg (fn fs k).b at1=a):stepk fs k at1 pile loc mem = .next (at1 + 1) (pile ++ [loc.getD a.toNat 0]) loc mem:=by
 simp only [stepk,step,hp,ha,↓reduceIte,Int.reduceEq]
theorem st3 (hp:Nst.op (fn fs k).b at1=3) (ha:arg (fn fs k).b at1=a):stepk fs k at1 pile loc mem = .next (at1 + 1) (less pile 1) (loc.set a.toNat (top pile)) mem:=by
 simp only [stepk,step,hp,ha,↓reduceIte,Int.reduceEq]
theorem st4 (hp:Nst.op (fn fs k).b at1=4) (ha:arg (fn fs k).b at1=a):stepk fs k at1 pile loc mem = .next (at1 + 1) pile (loc.set a.toNat (top pile)) mem:=by
 simp only [stepk,step,hp,ha,↓reduceIte,Int.reduceEq]
theorem st5y (hp:Nst.op (fn fs k).b at1=5) (ha:arg (fn fs k).b at1=a) (he:Wd.dc a (under pile) (top pile)=0):stepk fs k at1 pile loc mem = .next (at1 + 1) (less pile 2 ++ [Wd.dv a (under pile) (top pile)]) loc mem:=by
 simp only [stepk,step,hp,ha,↓reduceIte,Int.reduceEq,he]
theorem st5n (hp:Nst.op (fn fs k).b at1=5) (ha:arg (fn fs k).b at1=a) (he:¬ Wd.dc a (under pile) (top pile)=0):stepk fs k at1 pile loc mem = .halt (Wd.dc a (under pile) (top pile)):=by
 simp only [stepk,step,hp,ha,↓reduceIte,Int.reduceEq,he]
theorem st6 (hp:Nst.op (fn fs k).b at1=6) (ha:arg (fn fs k).b at1=a):stepk fs k at1 pile loc mem = .next (at1 + 1) (less pile 1 ++ [if top pile=0 then 1 else 0]) loc mem:=by
 simp only [stepk,step,hp,↓reduceIte,Int.reduceEq]
theorem st7 (hp:Nst.op (fn fs k).b at1=7) (ha:arg (fn fs k).b at1=a):stepk fs k at1 pile loc mem = .next (at1 + 1) (less pile 1) loc mem:=by
 simp only [stepk,step,hp,↓reduceIte,Int.reduceEq]
theorem st8 (hp:Nst.op (fn fs k).b at1=8) (ha:arg (fn fs k).b at1=a):stepk fs k at1 pile loc mem = .next (at1 + 1) pile loc mem:=by
 simp only [stepk,step,hp,↓reduceIte,Int.reduceEq]
theorem st9 (hp:Nst.op (fn fs k).b at1=9) (ha:arg (fn fs k).b at1=a):stepk fs k at1 pile loc mem = .next (at1 + 1) pile loc mem:=by
 simp only [stepk,step,hp,↓reduceIte,Int.reduceEq]
theorem st20 (hp:Nst.op (fn fs k).b at1=20) (ha:arg (fn fs k).b at1=a):stepk fs k at1 pile loc mem = .next (at1 + 1) pile loc mem:=by
 simp only [stepk,step,hp,↓reduceIte,Int.reduceEq]
theorem st10n (hp:Nst.op (fn fs k).b at1=10) (ha:arg (fn fs k).b at1=a) (he:¬ top pile=0):stepk fs k at1 pile loc mem = .next (at1 + 1) (less pile 1) loc mem:=by
 simp only [stepk,step,hp,↓reduceIte,Int.reduceEq,he]
theorem st10y (hp:Nst.op (fn fs k).b at1=10) (ha:arg (fn fs k).b at1=a) (he:top pile=0):stepk fs k at1 pile loc mem = .next ((if 0 ≤ Nst.at1 (Nst.elses (fn fs k).b) at1 then Nst.at1 (Nst.elses (fn fs k).b) at1 else Nst.at1 (Nst.ends (fn fs k).b) at1).toNat + 1) (less pile 1) loc mem:=by
 simp only [stepk,step,hp,↓reduceIte,Int.reduceEq,he]
theorem st11 (hp:Nst.op (fn fs k).b at1=11) (ha:arg (fn fs k).b at1=a):stepk fs k at1 pile loc mem = .next ((Nst.at1 (Nst.ends (fn fs k).b) at1).toNat + 1) pile loc mem:=by
 simp only [stepk,step,hp,↓reduceIte,Int.reduceEq]
theorem st12y (hp:Nst.op (fn fs k).b at1=12) (ha:arg (fn fs k).b at1=a) (he:at1 + 1=(fn fs k).b.length):stepk fs k at1 pile loc mem = .fin pile:=by
 simp only [stepk,step,hp,↓reduceIte,Int.reduceEq,he]
theorem st12n (hp:Nst.op (fn fs k).b at1=12) (ha:arg (fn fs k).b at1=a) (he:¬ at1 + 1=(fn fs k).b.length):stepk fs k at1 pile loc mem = .next (at1 + 1) pile loc mem:=by
 simp only [stepk,step,hp,↓reduceIte,Int.reduceEq,he]
theorem st13 (hp:Nst.op (fn fs k).b at1=13) (ha:arg (fn fs k).b at1=a):stepk fs k at1 pile loc mem=jump (fn fs k) (Nst.ends (fn fs k).b) (hts fs k) at1 a pile loc mem:=by
 simp only [stepk,step,hp,ha,↓reduceIte,Int.reduceEq]
theorem st14n (hp:Nst.op (fn fs k).b at1=14) (ha:arg (fn fs k).b at1=a) (he:top pile=0):stepk fs k at1 pile loc mem = .next (at1 + 1) (less pile 1) loc mem:=by
 simp only [stepk,step,hp,↓reduceIte,Int.reduceEq,he]
theorem st14y (hp:Nst.op (fn fs k).b at1=14) (ha:arg (fn fs k).b at1=a) (he:¬ top pile=0):stepk fs k at1 pile loc mem=jump (fn fs k) (Nst.ends (fn fs k).b) (hts fs k) at1 a (less pile 1) loc mem:=by
 simp only [stepk,step,hp,ha,↓reduceIte,Int.reduceEq,he]
theorem st15 (hp:Nst.op (fn fs k).b at1=15) (ha:arg (fn fs k).b at1=a):stepk fs k at1 pile loc mem = .fin (upper pile (fn fs k).g.toNat):=by
 simp only [stepk,step,hp,↓reduceIte,Int.reduceEq]
theorem st16 (hp:Nst.op (fn fs k).b at1=16) (ha:arg (fn fs k).b at1=a):stepk fs k at1 pile loc mem = .call a.toNat (upper pile (fs.getD a.toNat .z).a.toNat) (less pile (fs.getD a.toNat .z).a.toNat):=by
 simp only [stepk,step,hp,ha,↓reduceIte,Int.reduceEq]
theorem st17y (hp:Nst.op (fn fs k).b at1=17) (ha:arg (fn fs k).b at1=a) (he:Mm.there (top pile) a=true):stepk fs k at1 pile loc mem = .next (at1 + 1) (less pile 1 ++ [Mm.getN mem (top pile + a).toNat 4]) loc mem:=by
 simp only [stepk,step,hp,ha,↓reduceIte,Int.reduceEq,he]
theorem st17n (hp:Nst.op (fn fs k).b at1=17) (ha:arg (fn fs k).b at1=a) (he:¬ Mm.there (top pile) a=true):stepk fs k at1 pile loc mem = .halt 3:=by
 simp only [stepk,step,hp,ha,↓reduceIte,Int.reduceEq,he,Bool.false_eq_true]
theorem st18y (hp:Nst.op (fn fs k).b at1=18) (ha:arg (fn fs k).b at1=a) (he:Mm.there (under pile) a=true):stepk fs k at1 pile loc mem = .next (at1 + 1) (less pile 2) loc (Mm.putN mem (under pile + a).toNat (top pile) 4):=by
 simp only [stepk,step,hp,ha,↓reduceIte,Int.reduceEq,he]
theorem st18n (hp:Nst.op (fn fs k).b at1=18) (ha:arg (fn fs k).b at1=a) (he:¬ Mm.there (under pile) a=true):stepk fs k at1 pile loc mem = .halt 3:=by
 simp only [stepk,step,hp,ha,↓reduceIte,Int.reduceEq,he,Bool.false_eq_true]
theorem st19 (hp:Nst.op (fn fs k).b at1=19) (ha:arg (fn fs k).b at1=a):stepk fs k at1 pile loc mem = .halt 4:=by
 simp only [stepk,step,hp,↓reduceIte,Int.reduceEq]
theorem top_is {j:Nat} (h:pile.length=j + 1):top pile=pile.getD j 0:=by unfold top;rw [h];rfl
theorem under_is {j:Nat} (h:pile.length=j + 2):under pile=pile.getD j 0:=by unfold under;rw [h];rfl
theorem less_is {j w:Nat} (h:pile.length=j + w):less pile w=pile.take j:=by unfold less;rw [h,Nat.add_sub_cancel]
end Mn
theorem CI.take {c:WC} {W0:World} {q:CC} {at':Nat} {pile loc mem:List Int} {n gp cp:Nat} {wr:World} (Q:CQ c W0 q) (h:CI c W0 q at' pile loc mem n gp cp wr):Hg.Typed c.fs (Mn.fn c.fs q.k) (Nst.ends (Mn.fn c.fs q.k).b) (Nst.elses (Mn.fn c.fs q.k).b) (Mn.hts c.fs q.k) at' :=
 (Q.tab.val.acc q.k Q.lt).typ at' h.good.lt (by have:=h.good.here;omega)
theorem pile_at {W:World} {b g c j n:Nat} {xs:List Int} (h:W.ownsRow b 2 1 (.slice (some ⟨g,0,none⟩) n c) n (xs.map iv)) (hl:xs.length=n) (hj:j < n):W.cell? ⟨g,j,none⟩=some (.int .i64 (xs.getD j 0)):=by
 rw [h.cellAt j (by omega),map_get (by omega)]
 rfl
def PC.F (c:PC) (k:Nat):Fn:=Mn.fn c.fs k
def PC.E (c:PC) (k:Nat):List Int:=Nst.ends (Mn.fn c.fs k).b
def PC.O (c:PC) (k:Nat):List Int:=Nst.elses (Mn.fn c.fs k).b
def PC.H (c:PC) (k:Nat):List Int:=Mn.hts c.fs k
def PC.L (c:PC) (k at1:Nat):List Mn.Lb:=Mn.labs (Mn.fn c.fs k) (Nst.ends (Mn.fn c.fs k).b) (Mn.hts c.fs k) at1
structure KQ (c:PC) (W0:World) (q:KK):Prop where
 tab:TabP c W0
 lt:q.k < c.fs.length
 dp:q.d < 12
 agr:AgP c.P W0 q.w
 cel:q.w.cell? ⟨c.fb,c.fo + q.k * 4 + 3,none⟩=some (.slice (some ⟨q.bb,q.bo,none⟩) q.bl q.bc)
 len:(Mn.fn c.fs q.k).b.length=q.bl
 b80:q.bl ≤ 80
 nl:(q.nl:Int)=(Mn.fn c.fs q.k).a + (Mn.fn c.fs q.k).l
structure KI (c:PC) (q:KK) (R:Mn.Rs) (at1:Nat) (pile loc mem:List Int) (n:Nat) (W:World):Prop where
 nb:n ≤ c.fuel
 km:KM c q at1 pile loc mem (c.L q.k at1) ((c.fuel:Int) - n) W
 good:Mn.Good c.fs (Mn.fn c.fs q.k) (Mn.hts c.fs q.k) at1 pile loc mem
 run:Mn.run c.fs (n + 1) n q.d q.k at1 pile loc mem=R
structure KF (c:PC) (q:KK) (R:Mn.Rs) (pile mem:List Int) (n:Nat) (W:World):Prop where
 nb:n ≤ c.fuel
 km:∃ loc ls,KM c q q.bl pile loc mem ls ((c.fuel:Int) - n) W
 len:(pile.length:Int)=(Mn.fn c.fs q.k).g
 run:R = .done (Mn.gives (Mn.fn c.fs q.k) pile) mem n
structure KX (c:PC) (w0:World) (R:Mn.Rs) (cd:Int) (W:World):Prop where
 agr:AgP c.P w0 W
 box:∃ mem n d,R = .stop cd mem n ∧ n ≤ c.fuel ∧ mem.length=64 ∧ Arr W c.P 91 (PB mem c.fuel ((c.fuel:Int) - n) d c.fv c.nv)
def SP (c:PC) (q:KK) (R:Mn.Rs) (n:Nat) (e:Ending) (W:World):Prop :=
 (e = .returned (.tuple #[]) ∧ ∃ at1 pile loc mem m,m ≤ n ∧ KI c q R at1 pile loc mem m W) ∨ (e = .returned (.tuple #[]) ∧ ∃ pile mem m,KF c q R pile mem m W) ∨ ∃ cd,e=Ended cd ∧ KX c q.w R cd W
structure KJ (c:PC) (q:KK) (R:Mn.Rs) (at1:Nat) (pile loc mem:List Int) (n:Nat) (W:World):Prop where
 nb:n + 1 ≤ c.fuel
 km:KM c q at1 pile loc mem (c.L q.k at1) ((c.fuel:Int) - n) W
 good:Mn.Good c.fs (Mn.fn c.fs q.k) (Mn.hts c.fs q.k) at1 pile loc mem
 run:Mn.run c.fs (n + 2) (n + 1) q.d q.k at1 pile loc mem=R
section
variable {c:PC} {W0:World} {q:KK} {R:Mn.Rs} {at1:Nat} {pile loc mem:List Int} {n:Nat} {W:World}
theorem bodyP_at {wr:World} (Q:KQ c W0 q) (h:AgP c.P W0 wr):SL wr (some ⟨q.bb,q.bo,none⟩) q.bl (Mn.fn c.fs q.k).b:=by
 obtain ⟨-, -, -,ba,bl,bc,e,hsl⟩:=fl_at (Q.tab.fl wr h) Q.lt
 have e1:wr.cell? ⟨c.fb,c.fo + q.k * 4 + 3,none⟩=q.w.cell? ⟨c.fb,c.fo + q.k * 4 + 3,none⟩:=by
   refine World.cell?_of_block (a:=⟨c.fb,c.fo + q.k * 4 + 3,none⟩) ?_
   obtain ⟨f1,f2⟩:=Q.tab.fbn
   rw [h.blk c.fb f1 f2,Q.agr.blk c.fb f1 f2]
 rw [e1,Q.cel] at e
 simp only [Option.some.injEq,Value.slice.injEq] at e
 obtain ⟨rfl,rfl,rfl⟩:=e
 exact hsl
theorem KJ.typ (Q:KQ c W0 q) (h:KJ c q R at1 pile loc mem n W):Hg.Typed c.fs (Mn.fn c.fs q.k) (Nst.ends (Mn.fn c.fs q.k).b) (Nst.elses (Mn.fn c.fs q.k).b) (Mn.hts c.fs q.k) at1 :=
 (Q.tab.val.acc q.k Q.lt).typ at1 h.good.lt (by have:=h.good.here;omega)
theorem KJ.next (Q:KQ c W0 q) (h:KJ c q R at1 pile loc mem n W) {a2:Nat} {p2 l2 m2:List Int} (hs:Mn.stepk c.fs q.k at1 pile loc mem = .next a2 p2 l2 m2) {ls:List Mn.Lb} {W':World} (hm:KM c q a2 p2 l2 m2 ls ((c.fuel:Int) - n) W') (hl:ls=c.L q.k a2):SP c q R n (.returned (.tuple #[])) W':=by
 have F:Mn.Fine c.fs (Mn.fn c.fs q.k) (Mn.hts c.fs q.k) at1 loc mem (Mn.stepk c.fs q.k at1 pile loc mem):=Mn.step_fine (Md.okAll_getD Q.tab.val.all Q.lt) Q.tab.val.all (Q.tab.val.acc q.k Q.lt) h.good
 rw [hs] at F
 subst hl
 exact .inl ⟨rfl,a2,p2,l2,m2,n,Nat.le_refl _,⟨by have:=h.nb;omega,hm,F,by rw [← h.run,Mn.run_next hs]⟩⟩
theorem KJ.fin (Q:KQ c W0 q) (h:KJ c q R at1 pile loc mem n W) {p2:List Int} (hs:Mn.stepk c.fs q.k at1 pile loc mem = .fin p2) {ls:List Mn.Lb} {l2:List Int} {W':World} (hm:KM c q q.bl p2 l2 mem ls ((c.fuel:Int) - n) W'):SP c q R n (.returned (.tuple #[])) W':=by
 have F:Mn.Fine c.fs (Mn.fn c.fs q.k) (Mn.hts c.fs q.k) at1 loc mem (Mn.stepk c.fs q.k at1 pile loc mem):=Mn.step_fine (Md.okAll_getD Q.tab.val.all Q.lt) Q.tab.val.all (Q.tab.val.acc q.k Q.lt) h.good
 rw [hs] at F
 exact .inr (.inl ⟨rfl,p2,mem,n,⟨by have:=h.nb;omega,⟨l2,ls,hm⟩,F.1,by rw [← h.run,Mn.run_fin hs]⟩⟩)
theorem KM.ends {ls:List Mn.Lb} {b:Int} {a2:Int} (K:KM c q a2 pile loc mem ls b W):AgP c.P q.w W ∧ mem.length=64 ∧ Arr W c.P 91 (PB mem c.fuel b ((q.d + 1:Nat):Int) c.fv c.nv):=⟨K.agr,K.ml,K.pb⟩
theorem KJ.halt (h:KJ c q R at1 pile loc mem n W) {cd:Int} (hs:Mn.stepk c.fs q.k at1 pile loc mem = .halt cd) {p2 l2:List Int} {ls:List Mn.Lb} {a2:Int} {W':World} (hm:KM c q a2 p2 l2 mem ls ((c.fuel:Int) - n) W'):SP c q R n (Ended cd) W' :=
 .inr (.inr ⟨cd,rfl,⟨hm.agr,mem,n,_,by rw [← h.run,Mn.run_halt hs],by have:=h.nb;omega,hm.ml,hm.pb⟩⟩)
theorem L_plain (Q:KQ c W0 q) (hlt:at1 < (Mn.fn c.fs q.k).b.length) (ho:St.opens (Nst.op (Mn.fn c.fs q.k).b at1)=false) (h12:Nst.op (Mn.fn c.fs q.k).b at1 ≠ 12):c.L q.k at1=c.L q.k (at1 + 1):=by
 unfold PC.L Mn.labs
 rw [Nst.stk_plain (Q.tab.val.acc q.k Q.lt).nst hlt ho h12]
theorem L_len:(c.L q.k at1).length ≤ at1 + 1:=Mn.labs_le _ _ _ _
end
section
open Go.RowKit
variable {P:Program} {ops:Array Oper} {md:Region.Mode} {Q:Exit → Act → World → Prop} {n:Nat}
theorem wpAny_all (I:Array Bool → Act → World → Prop)
   (hback:∀ i o,ops[i]? = some o → ∀ e ∈ o.after,Region.binds md e=true → e.on < i)
   (hstep:∀ l b x i o,l.size=ops.size → ops[i]? = some o → i < ops.size → l.getD i true=false → (∀ e ∈ o.after,Region.binds md e=true → l.getD e.on false=true) → I l b x → wpOp P ops Q i (fun b' x' => I (l.setIfInBounds i true) b' x') b x)
   (hend:∀ l b x,l.size=ops.size → (∀ i,i < ops.size → l.getD i true=true) → I l b x → Q .normal b x) :
   ∀ f l b x,l.size=ops.size → unl ops.size l=f → I l b x → wpAny P md ops Q f l b x:=by
 intro f
 induction f with
 | zero =>
   intro l b x hsz hu hI
   refine ⟨?_,hend l b x hsz (fun i hi => unl_zero hu i hi) hI⟩
   rcases hr:Region.ready md ops l with _ | ⟨j,r⟩
   · rfl
   · have hj:j ∈ Region.ready md ops l:=by rw [hr];simp
     obtain ⟨h1,o,ho, -⟩:=mem_ready.1 hj
     have hlt:j < ops.size:=(Array.getElem?_eq_some_iff.1 ho).1
     rw [unl_zero hu j hlt] at h1
     cases h1
 | succ f ih =>
   intro l b x hsz hu hI
   obtain ⟨i,hin,hun,hmin⟩:=unl_pos (l:=l) (n:=ops.size) (by omega)
   refine ⟨fun h0 => ?_,fun j hj => ?_⟩
   · have ho:∃ o,ops[i]? = some o:=⟨ops[i]'(by omega),Array.getElem?_eq_getElem (by omega)⟩
     obtain ⟨o,ho⟩:=ho
     have:i ∈ Region.ready md ops l:=mem_ready.2 ⟨hun,o,ho,fun e he hbi => by
       have h1:=hback i o ho e he hbi
       have h2:=hmin e.on h1
       have h3:e.on < l.size:=by omega
       simp [h3] at h2 ⊢
       exact h2⟩
     rw [h0] at this
     cases this
   · obtain ⟨hjun,o,ho,hall⟩:=mem_ready.1 hj
     have hlt:j < ops.size:=(Array.getElem?_eq_some_iff.1 ho).1
     refine wpOp_mono (fun b' x' h' => ih _ b' x' (by simpa using hsz) ?_ h') (hstep l b x j o hsz ho hlt hjun hall hI)
     have:=unl_set hjun ops.size hlt
     omega
def headB3 (l:List Oper) (sz s:Nat) (ds:List Nat):Bool :=
 decide (ds.length=l.length) && ds.Nodup && (List.range l.length).all fun i => match l[i]? with
   | some o => (if i=s then o.dst == none && decide (sz ≤ ds.getD i 0) else o.dst == ds[i]? && decide (ds.getD i 0 < sz)) && o.guard.isNone && o.after.all fun e => !Region.binds .any e || decide (e.on < i)
   | none => false
theorem wp_region_phi3 {id:Nat} {a:Act} {w:World} {l:List Oper} (ds:List Nat) (m s:Nat) (A:Bool → World → Prop) (vals:List Value) (hm:P.follows .mixedOrders=true)
   (hB:headB3 l a.tmps.size s ds=true) (hvs:vals.getD s undef=undef) (h0:A false w.drew)
   (hall:PhiAll2 P Q a ds m A (fun j y _ => y=vals.getD j undef) 0 l)
   (hend:∀ b x,A (decide (m < l.length)) x → (∀ j,j < l.length → b.eval (.tmp (ds.getD j 0))=vals.getD j undef) → b=ds.foldl (fun a' t => a'.put (some t) (b.eval (.tmp t))) a → Q .normal b x) :
   (Code.region id l.toArray true).wp P Q a w:=by
 simp only [headB3,Bool.and_eq_true,decide_eq_true_eq,List.all_eq_true,List.mem_range] at hB
 obtain ⟨⟨hdl,hnd⟩,hops⟩:=hB
 have hgd:∀ i,i < l.length → ds[i]? = some (ds.getD i 0):=fun i hi => by rw [List.getD_eq_getElem?_getD,List.getElem?_eq_getElem (by omega)];rfl
 have hop:∀ i o,l.toArray[i]? = some o → ((i=s → o.dst=none ∧ a.tmps.size ≤ ds.getD i 0) ∧ (i ≠ s → o.dst=some (ds.getD i 0) ∧ ds.getD i 0 < a.tmps.size)) ∧ o.guard=none ∧ (∀ e ∈ o.after,Region.binds .any e=true → e.on < i) ∧ ds.getD i 0 ∈ ds ∧ i < l.length:=by
   intro i o ho
   have ho':l[i]? = some o:=by simpa using ho
   have hi:i < l.length:=(List.getElem?_eq_some_iff.1 ho').1
   have h1:=hops i hi
   rw [ho'] at h1
   simp only [Bool.and_eq_true,Option.isNone_iff_eq_none,Array.all_eq_true',decide_eq_true_eq,Bool.or_eq_true,Bool.not_eq_true'] at h1
   obtain ⟨⟨h2,h3⟩,h4⟩:=h1
   refine ⟨⟨fun e => ?_,fun e => ?_⟩,h3,fun e he hbi => (h4 e he).elim (fun h => by rw [hbi] at h;cases h) (fun h => h),List.mem_of_getElem? (hgd i hi),hi⟩
   · rw [if_pos e] at h2
     simpa using h2
   · rw [if_neg e,hgd i hi] at h2
     simpa using h2
 have hinj:∀ i j,i < l.length → j < l.length → ds.getD i 0=ds.getD j 0 → i=j:=by
   intro i j hi hj e
   rw [List.getD_eq_getElem?_getD,List.getD_eq_getElem?_getD,List.getElem?_eq_getElem (by omega),List.getElem?_eq_getElem (by omega)] at e
   have e':ds[i]'(by omega)=ds[j]'(by omega):=e
   rcases Nat.lt_trichotomy i j with h | h | h
   · exact absurd e' (List.pairwise_iff_getElem.1 hnd i j (by omega) (by omega) h)
   · exact h
   · exact absurd e'.symm (List.pairwise_iff_getElem.1 hnd j i (by omega) (by omega) h)
 let I:Array Bool → Act → World → Prop:=fun q b x => A (q.getD m false && decide (m < l.length)) x ∧ b.defers=a.defers ∧ b.tmps.size=a.tmps.size ∧ (∀ t,t ∉ ds → b.eval (.tmp t)=a.eval (.tmp t)) ∧ ∀ j,j < l.length → q.getD j false=true → b.eval (.tmp (ds.getD j 0))=vals.getD j undef
 have hsl:l.toArray.size=l.length:=by simp
 have hu:unl l.length (Array.replicate l.toArray.size false)=l.length:=by
   have:∀ m,m ≤ l.toArray.size → unl m (Array.replicate l.toArray.size false)=m:=by
     intro m
     induction m with
     | zero => intro _;rfl
     | succ m ih =>
       intro hm
       rw [unl_succ,ih (by omega)]
       have:(Array.replicate l.toArray.size false).getD m true=false:=getD_in (by simp at hm ⊢;omega) (getD_replicate_false _ _)
       rw [if_pos this]
   exact this _ (by omega)
 have H := wpAny_all (P:=P) (Q:=Q) (md:=.any) (ops:=l.toArray) I (fun i o ho => (hop i o ho).2.2.1)
   (fun q b x i o hq ho hi hun hafter hI => by
     obtain ⟨hA,hdf,hsize,hfr,hF⟩:=hI
     obtain ⟨⟨hds,hdn⟩,hg,hb,hmem,hil⟩:=hop i o ho
     have hqs:q.size=l.length:=by rw [hq,hsl]
     have hob:=hall.at i o (by simpa using ho)
     rw [Nat.zero_add] at hob
     have hwp:=hob (q.getD m false && decide (m < l.length)) b x hA (fun e => by
       subst e
       have h3:i < q.size:=by omega
       simp [h3] at hun ⊢
       intro h4
       rw [hun] at h4
       cases h4) (fun hj => by
       obtain ⟨e,he,hbe⟩:=Array.any_eq_true'.1 hj
       simp only [Bool.and_eq_true,beq_iff_eq] at hbe
       have h1:=hafter e he hbe.1
       have h2:=hb e he hbe.1
       rw [hbe.2] at h1 h2
       rw [h1]
       simpa using (show m < l.length by omega)) hfr hdf (fun j hj => by
       obtain ⟨e,he,hbe⟩:=Array.any_eq_true'.1 hj
       simp only [Bool.and_eq_true,beq_iff_eq] at hbe
       have h1:=hafter e he hbe.1
       have h2:=hb e he hbe.1
       rw [hbe.2] at h1 h2
       exact hF j (by omega) h1)
     unfold wpOp
     simp only [ho]
     have hw:Region.wanted o (yielded l.toArray b.tmps)=true:=by simp [Region.wanted,hg]
     rw [if_pos hw]
     refine .inl (Oper.wp_mono (fun b' x' h' => ?_) hwp)
     obtain ⟨y,rfl,hA',hF',hRx⟩:=h'
     have hA2:A ((q.setIfInBounds i true).getD m false && decide (m < l.length)) x':=by
       by_cases e:i=m
       · subst e
         have h3:i < q.size:=by omega
         have h4:(q.setIfInBounds i true).getD i false=true:=by simp [h3]
         rw [h4]
         simpa [hil] using hA'
       · rw [getD_set_ne false e]
         simpa [e] using hA'
     by_cases es:i=s
     · obtain ⟨hd,hge⟩:=hds es
       rw [hd]
       refine ⟨hA2,hdf,hsize,hfr,fun j hj hq' => ?_⟩
       by_cases e:i=j
       · subst e
         subst es
         rw [hvs]
         unfold Act.eval
         have:b.tmps.size ≤ ds.getD i 0:=by rw [hsize];exact hge
         have h5:b.tmps[ds.getD i 0]? = none:=Array.getElem?_eq_none this
         show b.tmps.getD _ undef=undef
         rw [Array.getD_eq_getD_getElem?,h5]
         rfl
       · rw [getD_set_ne false e] at hq'
         exact hF j hj hq'
     · obtain ⟨hd,hlt⟩:=hdn es
       rw [hd]
       have hlt':ds.getD i 0 < b.tmps.size:=by rw [hsize];exact hlt
       refine ⟨hA2,hdf,by simpa [Act.put] using hsize,fun t ht => ?_,fun j hj hq' => ?_⟩
       · rw [put_tmps _ _ _ _ hlt',if_neg (fun e => ht (by rw [← e];exact hmem))]
         exact hfr t ht
       · rw [put_tmps _ _ _ _ hlt']
         by_cases e:i=j
         · subst e
           rw [if_pos rfl]
           exact hF'
         · rw [if_neg (fun e2 => e (hinj i j hil hj e2))]
           rw [getD_set_ne false e] at hq'
           exact hF j hj hq')
   (fun q b x hq hall2 hI => by
     obtain ⟨hA,hdf,hsize,hfr,hF⟩:=hI
     have hqs:q.size=l.length:=by rw [hq,hsl]
     have hF2:∀ j,j < l.length → b.eval (.tmp (ds.getD j 0))=vals.getD j undef:=fun j hj => hF j hj (by
       have:=hall2 j (by omega)
       have h1:j < q.size:=by omega
       simp [h1] at this ⊢
       exact this)
     have hbf:b=ds.foldl (fun a' t => a'.put (some t) (b.eval (.tmp t))) a:=by
       obtain ⟨s1,s2,s3⟩:=fold_tmps (fun t => b.eval (.tmp t)) ds a
       have ht:b.tmps=(ds.foldl (fun a' t => a'.put (some t) (b.eval (.tmp t))) a).tmps:=by
         apply Array.ext_getElem?
         intro t
         rw [s3 t]
         by_cases e:t < a.tmps.size
         · have eb:b.tmps[t]? = some (b.eval (.tmp t)):=by
             have h1:t < b.tmps.size:=by omega
             simp [Act.eval,h1]
           by_cases e2:t ∈ ds
           · rw [if_pos ⟨e2,e⟩,eb]
           · rw [if_neg (fun h => e2 h.1),eb,hfr t e2]
             simp [Act.eval,e]
         · rw [if_neg (fun h => e h.2),Array.getElem?_eq_none (by omega),Array.getElem?_eq_none (by omega)]
       have e3:∀ c d:Act,c.tmps=d.tmps → c.defers=d.defers → c=d:=by
         rintro ⟨c1,c2⟩ ⟨d1,d2⟩ h1 h2
         simp only at h1 h2
         rw [h1,h2]
       exact e3 _ _ ht (hdf.trans s2.symm)
     have hA3:A (decide (m < l.length)) x:=by
       by_cases e:m < l.length
       · have h1:=hall2 m (by omega)
         have h2:m < q.size:=by omega
         have h3:q.getD m false=true:=by simp [h2] at h1 ⊢;exact h1
         rw [h3,Bool.true_and] at hA
         exact hA
       · simp [e] at hA ⊢
         exact hA
     exact hend b x hA3 hF2 hbf)
   l.length (Array.replicate l.toArray.size false) a w.drew (by simp) (by rw [hsl];exact hu) ⟨by rw [getD_replicate_false,Bool.false_and];exact h0,rfl,rfl,fun t _ => rfl,fun j hj h => by rw [getD_replicate_false] at h;cases h⟩
 rw [← hsl] at H
 exact wp_region_any hm H
end
theorem stpArmA {c:PC} {W0:World} {q:KK} {R:Mn.Rs} {at1:Nat} {pile loc mem:List Int} {n:Nat} {W:World} {p a:Int} (Q:KQ c W0 q) (HIN:Hid (KJ c q R at1 pile loc mem n W)) (HST:Hid (Nst.op (Mn.fn c.fs q.k).b at1=p ∧ Hg.arg (Mn.fn c.fs q.k).b at1=a ∧ St.ok p a=true))
   (HP:Hid (p=1))  : Calls Tryz.prog 77 #[.pointer (some ⟨q.C,0,none⟩)] W (SP c q R n):=by
 obtain rfl:=HP.out
 have hG:=HIN.out.good
 have hat:at1 < q.bl:=by have:=hG.lt;have:=Q.len;omega
 have hb80:=Q.b80
 have hpl:pile.length ≤ 20:=by
   have h1:=hG.here
   have h2:=(Q.tab.val.acc q.k Q.lt).top at1 hG.lt
   omega
 have hlsl:(c.L q.k at1).length ≤ 81:=by have:=L_len (c:=c) (q:=q) (at1:=at1);omega
 obtain ⟨v,u,hA,hv,hu⟩:=HIN.out.km.box
 have c1:=hA.cell (j:=1) rfl
 have c6:=hA.cell (j:=6) rfl
 have f6:=hA.frozen 6
 have hSL:=bodyP_at Q (Q.agr.trans HIN.out.km.agr)
 obtain ⟨-, -,hrow⟩:=hSL
 rcases hrow with h0 | ⟨bb,bo,eb,hbb,hxx⟩
 · omega
 obtain ⟨ebb,ebo⟩:q.bb=bb ∧ q.bo=bo:=by simpa using eb
 have z0:=(hxx at1 hat).1
 have z1:=(hxx at1 hat).2
 have e0:((Mn.fn c.fs q.k).b.getD at1 (0,0)).1=1:=HST.out.1
 have e1:((Mn.fn c.fs q.k).b.getD at1 (0,0)).2=a:=HST.out.2.1
 rw [e0,← ebb,← ebo] at z0
 rw [e1,← ebb,← ebo] at z1
 clear hxx eb ebb ebo e0 e1 hbb hv hu
 have hatZ:(at1:Int) < (q.bl:Int):=by omega
 have hCl:=HIN.out.km.inC
 have hsz:(W.setCell ⟨q.C,6,none⟩ (.int .i64 ((at1:Int) + 1))).heap.size=W.heap.size:=by simp [World.setCell]
 have HM1:=Hid.put ((HIN.out.km.setAt ((at1:Int) + 1) (SetBox.of (Below.refl _ _) hCl _)).1.kept (below_one _ (.cells #[.int .i64 1,.int .i64 a] 78)))
 have HS1:Hid (Arr ((W.setCell ⟨q.C,6,none⟩ (.int .i64 ((at1:Int) + 1))).alloc (.cells #[.int .i64 1,.int .i64 a] 78)) W.heap.size 78 [.int .i64 1,.int .i64 a]):=by
   have:=heap_alloc_last (W.setCell ⟨q.C,6,none⟩ (.int .i64 ((at1:Int) + 1))) (.cells #[.int .i64 1,.int .i64 a] 78)
   rw [hsz] at this
   exact this
 clear hsz hA
 go_enter Tryz.func77,Tryz.ntmps77
 go_upto_region 3 with fail
 obtain ⟨W2,hW2⟩:∃ W2,(W.setCell ⟨q.C,6,none⟩ (.int .i64 ((at1:Int) + 1))).alloc (.cells #[.int .i64 1,.int .i64 a] 78)=W2:=⟨_,rfl⟩
 rw [hW2] at HM1 HS1 ⊢
 obtain ⟨sb,hsb⟩:∃ sb,W.heap.size=sb:=⟨_,rfl⟩
 rw [hsb] at HS1 ⊢
 have s0:=HS1.out.cell (j:=0) rfl
 have s1:=HS1.out.cell (j:=1) rfl
 have hsbl:=HS1.out.lt
 have HM:=Hid.put HM1.out
 clear c1 c6 f6 z0 z1 hW2 hsb HM1 hCl
 have ha0:0 ≤ a ∧ a ≤ 4294967295:=by
   have:=HST.out.2.2
   simp only [St.ok,Bool.and_eq_true,Wd.in_iff] at this
   have h0:St.least 1=0:=by decide
   have h1:St.greatest 1=4294967295:=by decide
   omega
 obtain ⟨ha1,ha2⟩:=ha0
 go_wp2_with fail
 obtain ⟨AA,hAA⟩:∃ AA:Bool → World → Prop,AA=fun t x => (if t=true then KM c q ((at1:Int) + 1) pile loc mem (c.L q.k at1) ((c.fuel:Int) - n) x else KM c q ((at1:Int) + 1) pile loc mem (c.L q.k at1) ((c.fuel:Int) - n) x) ∧ Arr x sb 78 [.int .i64 1,.int .i64 a]:=⟨_,rfl⟩
 have hA0:AA false W2.drew:=by rw [hAA];exact ⟨HM.out.kept (Below.refl _ _).drew,HS1.out.kept (Below.refl _ _).drew⟩
 have hAs:∀ {t:Bool} {x:World},AA t x → x.cell? ⟨sb,1,none⟩=some (.int .i64 a):=fun h => by rw [hAA] at h;exact h.2.cell (j:=1) rfl
 have hAf:∀ {x:World},AA false x → KM c q ((at1:Int) + 1) pile loc mem (c.L q.k at1) ((c.fuel:Int) - n) x ∧ Arr x sb 78 [.int .i64 1,.int .i64 a]:=fun h => by rw [hAA] at h;exact h
 have hAt:∀ {x:World},AA true x → KM c q ((at1:Int) + 1) pile loc mem (c.L q.k at1) ((c.fuel:Int) - n) x ∧ Arr x sb 78 [.int .i64 1,.int .i64 a]:=fun h => by rw [hAA] at h;exact h
 have hAi:∀ {x x':World},AA false x → KM c q ((at1:Int) + 1) pile loc mem (c.L q.k at1) ((c.fuel:Int) - n) x' → Stays x x' → AA true x':=fun h1 h2 h3 => by rw [hAA] at h1 ⊢;exact ⟨h2,h1.2.stays h3 (by decide) (by decide) (by decide) (by decide)⟩
 have hAx:∀ {t:Bool} {x:World},AA t x → KM c q ((at1:Int) + 1) pile loc mem (c.L q.k at1) ((c.fuel:Int) - n) x:=fun {t} {x} h => by
   rw [hAA] at h
   have h1:=h.1
   simp only [ite_self] at h1
   exact h1
 have hAe:∀ {t:Bool} {x:World},AA t x → ∃ pl lo,KM c q ((at1:Int) + 1) pl lo mem (c.L q.k at1) ((c.fuel:Int) - n) x:=fun {t} {x} h => by
   rw [hAA] at h
   cases t
   · exact ⟨_,_,h.1⟩
   · exact ⟨_,_,h.1⟩
 have hAk:∀ {t:Bool} {x x':World},AA t x → Below x.heap.size x x' → AA t x':=fun {t} {x} {x'} h hB => by
   rw [hAA] at h ⊢
   refine ⟨?_,h.2.kept hB⟩
   cases t
   · exact KM.kept (show KM c q ((at1:Int) + 1) pile loc mem (c.L q.k at1) ((c.fuel:Int) - n) x from h.1) hB
   · exact KM.kept (show KM c q ((at1:Int) + 1) pile loc mem (c.L q.k at1) ((c.fuel:Int) - n) x from h.1) hB
 clear hAA s0 s1
 refine wp_region_phi2 6 [32,33,34,35,36,37] 100 AA (fun j y _ => y=[.pointer (some ⟨q.C,0,none⟩),.pointer (some ⟨q.C,0,none⟩),.pointer (some ⟨q.C,4,none⟩),.pointer (some ⟨sb,1,none⟩),.int .i64 a,.int .u32 a].getD j undef) (by kernel_rfl) (by kernel_rfl) (by simp) hA0 ?_ ?_
 · simp only [List.take_succ_cons,List.take_zero]
   refine ⟨?_,?_,?_,?_,?_,?_,trivial⟩
   all_goals (intro t b x hA ht hm hfr hdf hdep;replace hdf:=Hid.put hdf)
   have e0:b.tmps[0]?.getD undef = .pointer (some ⟨q.C,0,none⟩):=by simpa [Act.eval] using hfr 0 (by decide)
   rotate_left
   have e32:b.tmps[32]?.getD undef = .pointer (some ⟨q.C,0,none⟩):=by simpa [Act.eval] using hdep 0 (by kernel_rfl)
   rotate_left
   have e33:b.tmps[33]?.getD undef = .pointer (some ⟨q.C,0,none⟩):=by simpa [Act.eval] using hdep 1 (by kernel_rfl)
   rotate_left
   have e3:b.tmps[3]?.getD undef = .pointer (some ⟨sb,0,none⟩):=by simpa [Act.eval] using hfr 3 (by decide)
   rotate_left
   have e35:b.tmps[35]?.getD undef = .pointer (some ⟨sb,1,none⟩):=by simpa [Act.eval] using hdep 3 (by kernel_rfl)
   have s1:=hAs hA
   rotate_left
   · have e36:b.tmps[36]?.getD undef = .int .i64 a:=by simpa [Act.eval] using hdep 4 (by kernel_rfl)
     unfold Oper.wp
     generalize hK:(fun (b':Act) (x':World) => ∃ y,_ ∧ _)=K
     simp only [execOp]
     go_simp
     rw [← hK]
     exact ⟨_,rfl,a_keep hA,congrArg (Value.int .u32) (IntWalk.u32_in a ⟨ha1,ha2⟩),fun i z h => h⟩
   all_goals (unfold Oper.wp;generalize hK:(fun (b':Act) (x':World) => ∃ y,_ ∧ _)=K;simp only [execOp];go_simp;rw [← hK];exact ⟨_,rfl,a_keep hA,rfl,fun i z h => h⟩)
 · intro b x hA hF hb
   have e32:b.eval (.tmp 32) = .pointer (some ⟨q.C,0,none⟩):=hF 0 (by decide)
   have e33:b.eval (.tmp 33) = .pointer (some ⟨q.C,0,none⟩):=hF 1 (by decide)
   have e34:b.eval (.tmp 34) = .pointer (some ⟨q.C,4,none⟩):=hF 2 (by decide)
   have e35:b.eval (.tmp 35) = .pointer (some ⟨sb,1,none⟩):=hF 3 (by decide)
   have e36:b.eval (.tmp 36) = .int .i64 a:=hF 4 (by decide)
   have e37:b.eval (.tmp 37) = .int .u32 a:=hF 5 (by decide)
   simp only [List.foldl,e32,e33,e34,e35,e36,e37] at hb
   clear hF e32 e33 e34 e35 e36 e37
   subst hb
   simp only [List.drop_succ_cons,List.drop_zero]
   go_simp
   have hA1:AA false x:=by simpa using hA
   clear hA
   obtain ⟨hK,hS⟩:=hAf hA1
   clear hA1 hAf hAt hAi hAs hAx hAe hAk
   go_wp2_with fail
   refine (k_put a (by omega) hK).mono ?_
   rintro e w3 ⟨rfl,hK3, -⟩
   dsimp only
   have HK3:=Hid.put hK3
   clear hK hS hK3
   go_wp2
   (try simp only [Exit.inBlock,Exit.then])
   refine bodyPost_end (results_none rfl _ _ _) rfl ?_
   exact HIN.out.next Q (Mn.st1 HST.out.1 HST.out.2.1) (a2:=at1 + 1) HK3.out (L_plain Q hG.lt (by rw [HST.out.1];rfl) (by rw [HST.out.1];decide))
theorem stpArmB {c:PC} {W0:World} {q:KK} {R:Mn.Rs} {at1:Nat} {pile loc mem:List Int} {n:Nat} {W:World} {p a:Int} (Q:KQ c W0 q) (HIN:Hid (KJ c q R at1 pile loc mem n W)) (HST:Hid (Nst.op (Mn.fn c.fs q.k).b at1=p ∧ Hg.arg (Mn.fn c.fs q.k).b at1=a ∧ St.ok p a=true))
   (HP:Hid (p=2))  : Calls Tryz.prog 77 #[.pointer (some ⟨q.C,0,none⟩)] W (SP c q R n):=by
 obtain rfl:=HP.out
 have hG:=HIN.out.good
 have hat:at1 < q.bl:=by have:=hG.lt;have:=Q.len;omega
 have hb80:=Q.b80
 have hpl:pile.length ≤ 20:=by
   have h1:=hG.here
   have h2:=(Q.tab.val.acc q.k Q.lt).top at1 hG.lt
   omega
 have hlsl:(c.L q.k at1).length ≤ 81:=by have:=L_len (c:=c) (q:=q) (at1:=at1);omega
 obtain ⟨v,u,hA,hv,hu⟩:=HIN.out.km.box
 have c1:=hA.cell (j:=1) rfl
 have c6:=hA.cell (j:=6) rfl
 have f6:=hA.frozen 6
 have hSL:=bodyP_at Q (Q.agr.trans HIN.out.km.agr)
 obtain ⟨-, -,hrow⟩:=hSL
 rcases hrow with h0 | ⟨bb,bo,eb,hbb,hxx⟩
 · omega
 obtain ⟨ebb,ebo⟩:q.bb=bb ∧ q.bo=bo:=by simpa using eb
 have z0:=(hxx at1 hat).1
 have z1:=(hxx at1 hat).2
 have e0:((Mn.fn c.fs q.k).b.getD at1 (0,0)).1=2:=HST.out.1
 have e1:((Mn.fn c.fs q.k).b.getD at1 (0,0)).2=a:=HST.out.2.1
 rw [e0,← ebb,← ebo] at z0
 rw [e1,← ebb,← ebo] at z1
 clear hxx eb ebb ebo e0 e1 hbb hv hu
 have hatZ:(at1:Int) < (q.bl:Int):=by omega
 have hCl:=HIN.out.km.inC
 have hsz:(W.setCell ⟨q.C,6,none⟩ (.int .i64 ((at1:Int) + 1))).heap.size=W.heap.size:=by simp [World.setCell]
 have HM1:=Hid.put ((HIN.out.km.setAt ((at1:Int) + 1) (SetBox.of (Below.refl _ _) hCl _)).1.kept (below_one _ (.cells #[.int .i64 2,.int .i64 a] 78)))
 have HS1:Hid (Arr ((W.setCell ⟨q.C,6,none⟩ (.int .i64 ((at1:Int) + 1))).alloc (.cells #[.int .i64 2,.int .i64 a] 78)) W.heap.size 78 [.int .i64 2,.int .i64 a]):=by
   have:=heap_alloc_last (W.setCell ⟨q.C,6,none⟩ (.int .i64 ((at1:Int) + 1))) (.cells #[.int .i64 2,.int .i64 a] 78)
   rw [hsz] at this
   exact this
 clear hsz hA
 go_enter Tryz.func77,Tryz.ntmps77
 go_upto_region 3 with fail
 obtain ⟨W2,hW2⟩:∃ W2,(W.setCell ⟨q.C,6,none⟩ (.int .i64 ((at1:Int) + 1))).alloc (.cells #[.int .i64 2,.int .i64 a] 78)=W2:=⟨_,rfl⟩
 rw [hW2] at HM1 HS1 ⊢
 obtain ⟨sb,hsb⟩:∃ sb,W.heap.size=sb:=⟨_,rfl⟩
 rw [hsb] at HS1 ⊢
 have s0:=HS1.out.cell (j:=0) rfl
 have s1:=HS1.out.cell (j:=1) rfl
 have hsbl:=HS1.out.lt
 have HM:=Hid.put HM1.out
 clear c1 c6 f6 z0 z1 hW2 hsb HM1 hCl
 have hlo:=(HIN.out.typ Q).loc (.inl HST.out.1)
 rw [HST.out.2.1] at hlo
 have hnl:=Q.nl
 have ha0:0 ≤ a:=by
   have:=HST.out.2.2
   simp only [St.ok,Bool.and_eq_true,Wd.in_iff] at this
   have h0:0 ≤ St.least 2:=by decide
   omega
 obtain ⟨an,rfl⟩:=Int.eq_ofNat_of_zero_le ha0
 have hanl:an < q.nl:=by omega
 have hlZ:(an:Int) < (q.nl:Int):=by omega
 have hl6:q.nl ≤ 6:=by have:=Mn.fn_ok Q.tab.val Q.lt;omega
 clear hlo hnl ha0
 obtain ⟨y0,hx⟩:∃ y0,loc.getD an 0=y0:=⟨_,rfl⟩
 have HX:=Hid.put hx
 clear hx
 have hlc:∀ {y:World},KM c q ((at1:Int) + 1) pile loc mem (c.L q.k at1) ((c.fuel:Int) - n) y → y.cell? ⟨q.C,3,none⟩=some (.slice (some ⟨q.gl,0,none⟩) q.nl q.nl) ∧ y.cell? ⟨q.gl,an,none⟩=some (.int .u32 y0):=fun K => by
   obtain ⟨v,u,hA, -⟩:=K.box
   refine ⟨hA.cell (j:=3) rfl,?_⟩
   rw [K.lr.cellAt an (by omega),map_get (by rw [K.ll];exact hanl),HX.out]
   rfl
 go_wp2_with fail
 obtain ⟨AA,hAA⟩:∃ AA:Bool → World → Prop,AA=fun t x => (if t=true then KM c q ((at1:Int) + 1) pile loc mem (c.L q.k at1) ((c.fuel:Int) - n) x else KM c q ((at1:Int) + 1) pile loc mem (c.L q.k at1) ((c.fuel:Int) - n) x) ∧ Arr x sb 78 [.int .i64 2,.int .i64 (an:Int)]:=⟨_,rfl⟩
 have hA0:AA false W2.drew:=by rw [hAA];exact ⟨HM.out.kept (Below.refl _ _).drew,HS1.out.kept (Below.refl _ _).drew⟩
 have hAs:∀ {t:Bool} {x:World},AA t x → x.cell? ⟨sb,1,none⟩=some (.int .i64 (an:Int)):=fun h => by rw [hAA] at h;exact h.2.cell (j:=1) rfl
 have hAf:∀ {x:World},AA false x → KM c q ((at1:Int) + 1) pile loc mem (c.L q.k at1) ((c.fuel:Int) - n) x ∧ Arr x sb 78 [.int .i64 2,.int .i64 (an:Int)]:=fun h => by rw [hAA] at h;exact h
 have hAt:∀ {x:World},AA true x → KM c q ((at1:Int) + 1) pile loc mem (c.L q.k at1) ((c.fuel:Int) - n) x ∧ Arr x sb 78 [.int .i64 2,.int .i64 (an:Int)]:=fun h => by rw [hAA] at h;exact h
 have hAi:∀ {x x':World},AA false x → KM c q ((at1:Int) + 1) pile loc mem (c.L q.k at1) ((c.fuel:Int) - n) x' → Stays x x' → AA true x':=fun h1 h2 h3 => by rw [hAA] at h1 ⊢;exact ⟨h2,h1.2.stays h3 (by decide) (by decide) (by decide) (by decide)⟩
 have hAx:∀ {t:Bool} {x:World},AA t x → KM c q ((at1:Int) + 1) pile loc mem (c.L q.k at1) ((c.fuel:Int) - n) x:=fun {t} {x} h => by
   rw [hAA] at h
   have h1:=h.1
   simp only [ite_self] at h1
   exact h1
 have hAe:∀ {t:Bool} {x:World},AA t x → ∃ pl lo,KM c q ((at1:Int) + 1) pl lo mem (c.L q.k at1) ((c.fuel:Int) - n) x:=fun {t} {x} h => by
   rw [hAA] at h
   cases t
   · exact ⟨_,_,h.1⟩
   · exact ⟨_,_,h.1⟩
 have hAk:∀ {t:Bool} {x x':World},AA t x → Below x.heap.size x x' → AA t x':=fun {t} {x} {x'} h hB => by
   rw [hAA] at h ⊢
   refine ⟨?_,h.2.kept hB⟩
   cases t
   · exact KM.kept (show KM c q ((at1:Int) + 1) pile loc mem (c.L q.k at1) ((c.fuel:Int) - n) x from h.1) hB
   · exact KM.kept (show KM c q ((at1:Int) + 1) pile loc mem (c.L q.k at1) ((c.fuel:Int) - n) x from h.1) hB
 clear hAA s0 s1
 refine wp_region_phi2 11 [41,42,43,44,45,46,47,48,49,50,51] 100 AA (fun j y _ => y=[.pointer (some ⟨q.C,0,none⟩),.pointer (some ⟨q.C,0,none⟩),.pointer (some ⟨q.C,4,none⟩),.pointer (some ⟨q.C,0,none⟩),.pointer (some ⟨q.C,0,none⟩),.pointer (some ⟨q.C,3,none⟩),.slice (some ⟨q.gl,0,none⟩) q.nl q.nl,.pointer (some ⟨sb,1,none⟩),.int .i64 (an:Int),.pointer (some ⟨q.gl,an,none⟩),.int .u32 y0].getD j undef) (by kernel_rfl) (by kernel_rfl) (by simp) hA0 ?_ ?_
 · simp only [List.take_succ_cons,List.take_zero]
   refine ⟨?_,?_,?_,?_,?_,?_,?_,?_,?_,?_,?_,trivial⟩
   all_goals (intro t b x hA ht hm hfr hdf hdep;replace hdf:=Hid.put hdf)
   have e0:b.tmps[0]?.getD undef = .pointer (some ⟨q.C,0,none⟩):=by simpa [Act.eval] using hfr 0 (by decide)
   rotate_left
   have e41:b.tmps[41]?.getD undef = .pointer (some ⟨q.C,0,none⟩):=by simpa [Act.eval] using hdep 0 (by kernel_rfl)
   rotate_left
   have e42:b.tmps[42]?.getD undef = .pointer (some ⟨q.C,0,none⟩):=by simpa [Act.eval] using hdep 1 (by kernel_rfl)
   rotate_left
   have e0:b.tmps[0]?.getD undef = .pointer (some ⟨q.C,0,none⟩):=by simpa [Act.eval] using hfr 0 (by decide)
   rotate_left
   have e44:b.tmps[44]?.getD undef = .pointer (some ⟨q.C,0,none⟩):=by simpa [Act.eval] using hdep 3 (by kernel_rfl)
   rotate_left
   have e45:b.tmps[45]?.getD undef = .pointer (some ⟨q.C,0,none⟩):=by simpa [Act.eval] using hdep 4 (by kernel_rfl)
   rotate_left
   have e46:b.tmps[46]?.getD undef = .pointer (some ⟨q.C,3,none⟩):=by simpa [Act.eval] using hdep 5 (by kernel_rfl)
   have l3:=(hlc (hAx hA)).1
   rotate_left
   have e3:b.tmps[3]?.getD undef = .pointer (some ⟨sb,0,none⟩):=by simpa [Act.eval] using hfr 3 (by decide)
   rotate_left
   have e48:b.tmps[48]?.getD undef = .pointer (some ⟨sb,1,none⟩):=by simpa [Act.eval] using hdep 7 (by kernel_rfl)
   have s1:=hAs hA
   rotate_left
   have e47:b.tmps[47]?.getD undef = .slice (some ⟨q.gl,0,none⟩) q.nl q.nl:=by simpa [Act.eval] using hdep 6 (by kernel_rfl)
   have e49:b.tmps[49]?.getD undef = .int .i64 (an:Int):=by simpa [Act.eval] using hdep 8 (by kernel_rfl)
   rotate_left
   have e50:b.tmps[50]?.getD undef = .pointer (some ⟨q.gl,an,none⟩):=by simpa [Act.eval] using hdep 9 (by kernel_rfl)
   have l4:=(hlc (hAx hA)).2
   rotate_left
   all_goals (unfold Oper.wp;generalize hK:(fun (b':Act) (x':World) => ∃ y,_ ∧ _)=K;simp only [execOp];go_simp;rw [← hK];exact ⟨_,rfl,a_keep hA,rfl,fun i z h => h⟩)
 · intro b x hA hF hb
   have e41:b.eval (.tmp 41) = .pointer (some ⟨q.C,0,none⟩):=hF 0 (by decide)
   have e42:b.eval (.tmp 42) = .pointer (some ⟨q.C,0,none⟩):=hF 1 (by decide)
   have e43:b.eval (.tmp 43) = .pointer (some ⟨q.C,4,none⟩):=hF 2 (by decide)
   have e44:b.eval (.tmp 44) = .pointer (some ⟨q.C,0,none⟩):=hF 3 (by decide)
   have e45:b.eval (.tmp 45) = .pointer (some ⟨q.C,0,none⟩):=hF 4 (by decide)
   have e46:b.eval (.tmp 46) = .pointer (some ⟨q.C,3,none⟩):=hF 5 (by decide)
   have e47:b.eval (.tmp 47) = .slice (some ⟨q.gl,0,none⟩) q.nl q.nl:=hF 6 (by decide)
   have e48:b.eval (.tmp 48) = .pointer (some ⟨sb,1,none⟩):=hF 7 (by decide)
   have e49:b.eval (.tmp 49) = .int .i64 (an:Int):=hF 8 (by decide)
   have e50:b.eval (.tmp 50) = .pointer (some ⟨q.gl,an,none⟩):=hF 9 (by decide)
   have e51:b.eval (.tmp 51) = .int .u32 y0:=hF 10 (by decide)
   simp only [List.foldl,e41,e42,e43,e44,e45,e46,e47,e48,e49,e50,e51] at hb
   clear hF e41 e42 e43 e44 e45 e46 e47 e48 e49 e50 e51
   subst hb
   simp only [List.drop_succ_cons,List.drop_zero]
   go_simp
   have hA1:AA false x:=by simpa using hA
   clear hA
   obtain ⟨hK,hS⟩:=hAf hA1
   clear hA1 hAf hAt hAi hAs hAx hAe hAk hlc
   go_wp2_with fail
   refine (k_put y0 (by omega) hK).mono ?_
   rintro e w3 ⟨rfl,hK3, -⟩
   dsimp only
   have HK3:=Hid.put hK3
   clear hK hS hK3
   go_wp2
   (try simp only [Exit.inBlock,Exit.then])
   refine bodyPost_end (results_none rfl _ _ _) rfl ?_
   exact HIN.out.next Q ((Mn.st2 HST.out.1 HST.out.2.1).trans (by rw [Int.toNat_natCast,HX.out])) (a2:=at1 + 1) HK3.out (L_plain Q hG.lt (by rw [HST.out.1];rfl) (by rw [HST.out.1];decide))
theorem stpArmC {c:PC} {W0:World} {q:KK} {R:Mn.Rs} {at1:Nat} {pile loc mem:List Int} {n:Nat} {W:World} {p a:Int} (Q:KQ c W0 q) (HIN:Hid (KJ c q R at1 pile loc mem n W)) (HST:Hid (Nst.op (Mn.fn c.fs q.k).b at1=p ∧ Hg.arg (Mn.fn c.fs q.k).b at1=a ∧ St.ok p a=true))
   (HP:Hid (p=3))  : Calls Tryz.prog 77 #[.pointer (some ⟨q.C,0,none⟩)] W (SP c q R n):=by
 obtain rfl:=HP.out
 have hG:=HIN.out.good
 have hat:at1 < q.bl:=by have:=hG.lt;have:=Q.len;omega
 have hb80:=Q.b80
 have hpl:pile.length ≤ 20:=by
   have h1:=hG.here
   have h2:=(Q.tab.val.acc q.k Q.lt).top at1 hG.lt
   omega
 have hlsl:(c.L q.k at1).length ≤ 81:=by have:=L_len (c:=c) (q:=q) (at1:=at1);omega
 obtain ⟨v,u,hA,hv,hu⟩:=HIN.out.km.box
 have c1:=hA.cell (j:=1) rfl
 have c6:=hA.cell (j:=6) rfl
 have f6:=hA.frozen 6
 have hSL:=bodyP_at Q (Q.agr.trans HIN.out.km.agr)
 obtain ⟨-, -,hrow⟩:=hSL
 rcases hrow with h0 | ⟨bb,bo,eb,hbb,hxx⟩
 · omega
 obtain ⟨ebb,ebo⟩:q.bb=bb ∧ q.bo=bo:=by simpa using eb
 have z0:=(hxx at1 hat).1
 have z1:=(hxx at1 hat).2
 have e0:((Mn.fn c.fs q.k).b.getD at1 (0,0)).1=3:=HST.out.1
 have e1:((Mn.fn c.fs q.k).b.getD at1 (0,0)).2=a:=HST.out.2.1
 rw [e0,← ebb,← ebo] at z0
 rw [e1,← ebb,← ebo] at z1
 clear hxx eb ebb ebo e0 e1 hbb hv hu
 have hatZ:(at1:Int) < (q.bl:Int):=by omega
 have hCl:=HIN.out.km.inC
 have hsz:(W.setCell ⟨q.C,6,none⟩ (.int .i64 ((at1:Int) + 1))).heap.size=W.heap.size:=by simp [World.setCell]
 have HM1:=Hid.put ((HIN.out.km.setAt ((at1:Int) + 1) (SetBox.of (Below.refl _ _) hCl _)).1.kept (below_one _ (.cells #[.int .i64 3,.int .i64 a] 78)))
 have HS1:Hid (Arr ((W.setCell ⟨q.C,6,none⟩ (.int .i64 ((at1:Int) + 1))).alloc (.cells #[.int .i64 3,.int .i64 a] 78)) W.heap.size 78 [.int .i64 3,.int .i64 a]):=by
   have:=heap_alloc_last (W.setCell ⟨q.C,6,none⟩ (.int .i64 ((at1:Int) + 1))) (.cells #[.int .i64 3,.int .i64 a] 78)
   rw [hsz] at this
   exact this
 clear hsz hA
 go_enter Tryz.func77,Tryz.ntmps77
 go_upto_region 3 with fail
 obtain ⟨W2,hW2⟩:∃ W2,(W.setCell ⟨q.C,6,none⟩ (.int .i64 ((at1:Int) + 1))).alloc (.cells #[.int .i64 3,.int .i64 a] 78)=W2:=⟨_,rfl⟩
 rw [hW2] at HM1 HS1 ⊢
 obtain ⟨sb,hsb⟩:∃ sb,W.heap.size=sb:=⟨_,rfl⟩
 rw [hsb] at HS1 ⊢
 have s0:=HS1.out.cell (j:=0) rfl
 have s1:=HS1.out.cell (j:=1) rfl
 have hsbl:=HS1.out.lt
 have HM:=Hid.put HM1.out
 clear c1 c6 f6 z0 z1 hW2 hsb HM1 hCl
 have htk:=(HIN.out.typ Q).take
 rw [HST.out.1,HST.out.2.1,show Hg.tk c.fs 3 a=1 by simp [Hg.tk]] at htk
 have hlen:=HIN.out.good.here
 obtain ⟨j,hj1⟩:∃ j,pile.length=j + 1:=⟨pile.length - 1,by omega⟩
 have HJ:=Hid.put hj1
 have hj20:j ≤ 20:=by omega
 clear htk hlen hj1 hpl
 obtain ⟨v,hv⟩:∃ v,pile.getD j 0=v:=⟨_,rfl⟩
 have HV:Hid (Mn.top pile=v):=by
   show _=_
   rw [Mn.top_is HJ.out]
   exact hv
 have HVW:Hid (Wd.ok v=true):=by
   show _=_
   rw [← hv]
   exact Mn.words_get hG.wp j
 have HVE:=Hid.put hv
 clear hv
 have hlo:=(HIN.out.typ Q).loc (.inr (.inl HST.out.1))
 rw [HST.out.2.1] at hlo
 have hnl:=Q.nl
 have ha0:0 ≤ a:=by
   have:=HST.out.2.2
   simp only [St.ok,Bool.and_eq_true,Wd.in_iff] at this
   have h0:0 ≤ St.least 3:=by decide
   omega
 obtain ⟨an,rfl⟩:=Int.eq_ofNat_of_zero_le ha0
 have hanl:an < q.nl:=by omega
 have hlZ:(an:Int) < (q.nl:Int):=by omega
 have hl6:q.nl ≤ 6:=by have:=Mn.fn_ok Q.tab.val Q.lt;omega
 clear hlo hnl ha0
 go_wp2_with fail
 obtain ⟨AA,hAA⟩:∃ AA:Bool → World → Prop,AA=fun t x => (if t=true then KM c q ((at1:Int) + 1) (pile.take j) loc mem (c.L q.k at1) ((c.fuel:Int) - n) x else KM c q ((at1:Int) + 1) pile loc mem (c.L q.k at1) ((c.fuel:Int) - n) x) ∧ Arr x sb 78 [.int .i64 3,.int .i64 (an:Int)]:=⟨_,rfl⟩
 have hA0:AA false W2.drew:=by rw [hAA];exact ⟨HM.out.kept (Below.refl _ _).drew,HS1.out.kept (Below.refl _ _).drew⟩
 have hAs:∀ {t:Bool} {x:World},AA t x → x.cell? ⟨sb,1,none⟩=some (.int .i64 (an:Int)):=fun h => by rw [hAA] at h;exact h.2.cell (j:=1) rfl
 have hAf:∀ {x:World},AA false x → KM c q ((at1:Int) + 1) pile loc mem (c.L q.k at1) ((c.fuel:Int) - n) x ∧ Arr x sb 78 [.int .i64 3,.int .i64 (an:Int)]:=fun h => by rw [hAA] at h;exact h
 have hAt:∀ {x:World},AA true x → KM c q ((at1:Int) + 1) (pile.take j) loc mem (c.L q.k at1) ((c.fuel:Int) - n) x ∧ Arr x sb 78 [.int .i64 3,.int .i64 (an:Int)]:=fun h => by rw [hAA] at h;exact h
 have hAi:∀ {x x':World},AA false x → KM c q ((at1:Int) + 1) (pile.take j) loc mem (c.L q.k at1) ((c.fuel:Int) - n) x' → Stays x x' → AA true x':=fun h1 h2 h3 => by rw [hAA] at h1 ⊢;exact ⟨h2,h1.2.stays h3 (by decide) (by decide) (by decide) (by decide)⟩
 have hAe:∀ {t:Bool} {x:World},AA t x → ∃ pl lo,KM c q ((at1:Int) + 1) pl lo mem (c.L q.k at1) ((c.fuel:Int) - n) x:=fun {t} {x} h => by
   rw [hAA] at h
   cases t
   · exact ⟨_,_,h.1⟩
   · exact ⟨_,_,h.1⟩
 have hAk:∀ {t:Bool} {x x':World},AA t x → Below x.heap.size x x' → AA t x':=fun {t} {x} {x'} h hB => by
   rw [hAA] at h ⊢
   refine ⟨?_,h.2.kept hB⟩
   cases t
   · exact KM.kept (show KM c q ((at1:Int) + 1) pile loc mem (c.L q.k at1) ((c.fuel:Int) - n) x from h.1) hB
   · exact KM.kept (show KM c q ((at1:Int) + 1) (pile.take j) loc mem (c.L q.k at1) ((c.fuel:Int) - n) x from h.1) hB
 clear hAA s0 s1
 refine wp_region_phi2 8 [55,56,57,58,59,60,61,62] 7 AA (fun j y _ => y=[.pointer (some ⟨q.C,0,none⟩),.pointer (some ⟨q.C,0,none⟩),.pointer (some ⟨q.C,3,none⟩),.slice (some ⟨q.gl,0,none⟩) q.nl q.nl,.pointer (some ⟨sb,1,none⟩),.int .i64 (an:Int),.pointer (some ⟨q.C,0,none⟩),.int .u32 v].getD j undef) (by kernel_rfl) (by kernel_rfl) (by simp) hA0 ?_ ?_
 · simp only [List.take_succ_cons,List.take_zero]
   refine ⟨?_,?_,?_,?_,?_,?_,?_,?_,trivial⟩
   all_goals (intro t b x hA ht hm hfr hdf hdep;replace hdf:=Hid.put hdf)
   have e0:b.tmps[0]?.getD undef = .pointer (some ⟨q.C,0,none⟩):=by simpa [Act.eval] using hfr 0 (by decide)
   rotate_left
   have e55:b.tmps[55]?.getD undef = .pointer (some ⟨q.C,0,none⟩):=by simpa [Act.eval] using hdep 0 (by kernel_rfl)
   rotate_left
   have e56:b.tmps[56]?.getD undef = .pointer (some ⟨q.C,0,none⟩):=by simpa [Act.eval] using hdep 1 (by kernel_rfl)
   rotate_left
   have e57:b.tmps[57]?.getD undef = .pointer (some ⟨q.C,3,none⟩):=by simpa [Act.eval] using hdep 2 (by kernel_rfl)
   obtain ⟨pl,lo,hKp⟩:=hAe hA
   obtain ⟨v4,u4,hA4, -⟩:=hKp.box
   have l3:=hA4.cell (j:=3) rfl
   clear hKp hA4
   rotate_left
   have e3:b.tmps[3]?.getD undef = .pointer (some ⟨sb,0,none⟩):=by simpa [Act.eval] using hfr 3 (by decide)
   rotate_left
   have e59:b.tmps[59]?.getD undef = .pointer (some ⟨sb,1,none⟩):=by simpa [Act.eval] using hdep 4 (by kernel_rfl)
   have s1:=hAs hA
   rotate_left
   have e0:b.tmps[0]?.getD undef = .pointer (some ⟨q.C,0,none⟩):=by simpa [Act.eval] using hfr 0 (by decide)
   rotate_left
   · have e61:b.tmps[61]?.getD undef = .pointer (some ⟨q.C,0,none⟩):=by simpa [Act.eval] using hdep 6 (by kernel_rfl)
     unfold Oper.wp
     generalize hK:(fun (b':Act) (x':World) => ∃ y,_ ∧ _)=K
     simp only [execOp]
     go_simp
     obtain rfl:=ht rfl
     obtain ⟨hK0,hS0⟩:=hAf hA
     refine (k_take HJ.out (by omega) hK0).mono ?_
     rintro e w' ⟨rfl,hK1,hS1⟩
     rw [HVE.out]
     rw [← hK]
     exact ⟨_,rfl,a_turn (hAi hA hK1 hS1),rfl,fun i z h => h⟩
   all_goals (unfold Oper.wp;generalize hK:(fun (b':Act) (x':World) => ∃ y,_ ∧ _)=K;simp only [execOp];go_simp;rw [← hK];exact ⟨_,rfl,a_keep hA,rfl,fun i z h => h⟩)
 · intro b x hA hF hb
   have e55:b.eval (.tmp 55) = .pointer (some ⟨q.C,0,none⟩):=hF 0 (by decide)
   have e56:b.eval (.tmp 56) = .pointer (some ⟨q.C,0,none⟩):=hF 1 (by decide)
   have e57:b.eval (.tmp 57) = .pointer (some ⟨q.C,3,none⟩):=hF 2 (by decide)
   have e58:b.eval (.tmp 58) = .slice (some ⟨q.gl,0,none⟩) q.nl q.nl:=hF 3 (by decide)
   have e59:b.eval (.tmp 59) = .pointer (some ⟨sb,1,none⟩):=hF 4 (by decide)
   have e60:b.eval (.tmp 60) = .int .i64 (an:Int):=hF 5 (by decide)
   have e61:b.eval (.tmp 61) = .pointer (some ⟨q.C,0,none⟩):=hF 6 (by decide)
   have e62:b.eval (.tmp 62) = .int .u32 v:=hF 7 (by decide)
   simp only [List.foldl,e55,e56,e57,e58,e59,e60,e61,e62] at hb
   clear hF e55 e56 e57 e58 e59 e60 e61 e62
   subst hb
   simp only [List.drop_succ_cons,List.drop_zero]
   go_simp
   have hA1:AA true x:=by simpa using hA
   clear hA
   obtain ⟨hK1,hS⟩:=hAt hA1
   obtain ⟨v4,u4,hA4, -⟩:=hK1.box
   have l4:=hK1.lr.cellAt an (by omega)
   rw [map_get (by rw [hK1.ll];exact hanl)] at l4
   obtain ⟨y0,hy0⟩:∃ y0,wv (loc.getD an 0)=y0:=⟨_,rfl⟩
   rw [hy0] at l4
   have l5:=hK1.lr.frozenAt an
   have HK1:=Hid.put (hK1.setL an v)
   clear hK1 hS hA4 hy0
   clear hA1 hAf hAt hAi hAs hAe hAk
   go_wp2
   (try simp only [Exit.inBlock,Exit.then])
   refine bodyPost_end (results_none rfl _ _ _) rfl ?_
   exact HIN.out.next Q ((Mn.st3 HST.out.1 HST.out.2.1).trans (by rw [Int.toNat_natCast,HV.out,Mn.less_is HJ.out])) (a2:=at1 + 1) HK1.out.1 (L_plain Q hG.lt (by rw [HST.out.1];rfl) (by rw [HST.out.1];decide))
theorem stpArmD {c:PC} {W0:World} {q:KK} {R:Mn.Rs} {at1:Nat} {pile loc mem:List Int} {n:Nat} {W:World} {p a:Int} (Q:KQ c W0 q) (HIN:Hid (KJ c q R at1 pile loc mem n W)) (HST:Hid (Nst.op (Mn.fn c.fs q.k).b at1=p ∧ Hg.arg (Mn.fn c.fs q.k).b at1=a ∧ St.ok p a=true))
   (HP:Hid (p=4))  : Calls Tryz.prog 77 #[.pointer (some ⟨q.C,0,none⟩)] W (SP c q R n):=by
 obtain rfl:=HP.out
 have hG:=HIN.out.good
 have hat:at1 < q.bl:=by have:=hG.lt;have:=Q.len;omega
 have hb80:=Q.b80
 have hpl:pile.length ≤ 20:=by
   have h1:=hG.here
   have h2:=(Q.tab.val.acc q.k Q.lt).top at1 hG.lt
   omega
 have hlsl:(c.L q.k at1).length ≤ 81:=by have:=L_len (c:=c) (q:=q) (at1:=at1);omega
 obtain ⟨v,u,hA,hv,hu⟩:=HIN.out.km.box
 have c1:=hA.cell (j:=1) rfl
 have c6:=hA.cell (j:=6) rfl
 have f6:=hA.frozen 6
 have hSL:=bodyP_at Q (Q.agr.trans HIN.out.km.agr)
 obtain ⟨-, -,hrow⟩:=hSL
 rcases hrow with h0 | ⟨bb,bo,eb,hbb,hxx⟩
 · omega
 obtain ⟨ebb,ebo⟩:q.bb=bb ∧ q.bo=bo:=by simpa using eb
 have z0:=(hxx at1 hat).1
 have z1:=(hxx at1 hat).2
 have e0:((Mn.fn c.fs q.k).b.getD at1 (0,0)).1=4:=HST.out.1
 have e1:((Mn.fn c.fs q.k).b.getD at1 (0,0)).2=a:=HST.out.2.1
 rw [e0,← ebb,← ebo] at z0
 rw [e1,← ebb,← ebo] at z1
 clear hxx eb ebb ebo e0 e1 hbb hv hu
 have hatZ:(at1:Int) < (q.bl:Int):=by omega
 have hCl:=HIN.out.km.inC
 have hsz:(W.setCell ⟨q.C,6,none⟩ (.int .i64 ((at1:Int) + 1))).heap.size=W.heap.size:=by simp [World.setCell]
 have HM1:=Hid.put ((HIN.out.km.setAt ((at1:Int) + 1) (SetBox.of (Below.refl _ _) hCl _)).1.kept (below_one _ (.cells #[.int .i64 4,.int .i64 a] 78)))
 have HS1:Hid (Arr ((W.setCell ⟨q.C,6,none⟩ (.int .i64 ((at1:Int) + 1))).alloc (.cells #[.int .i64 4,.int .i64 a] 78)) W.heap.size 78 [.int .i64 4,.int .i64 a]):=by
   have:=heap_alloc_last (W.setCell ⟨q.C,6,none⟩ (.int .i64 ((at1:Int) + 1))) (.cells #[.int .i64 4,.int .i64 a] 78)
   rw [hsz] at this
   exact this
 clear hsz hA
 go_enter Tryz.func77,Tryz.ntmps77
 go_upto_region 3 with fail
 obtain ⟨W2,hW2⟩:∃ W2,(W.setCell ⟨q.C,6,none⟩ (.int .i64 ((at1:Int) + 1))).alloc (.cells #[.int .i64 4,.int .i64 a] 78)=W2:=⟨_,rfl⟩
 rw [hW2] at HM1 HS1 ⊢
 obtain ⟨sb,hsb⟩:∃ sb,W.heap.size=sb:=⟨_,rfl⟩
 rw [hsb] at HS1 ⊢
 have s0:=HS1.out.cell (j:=0) rfl
 have s1:=HS1.out.cell (j:=1) rfl
 have hsbl:=HS1.out.lt
 have HM:=Hid.put HM1.out
 clear c1 c6 f6 z0 z1 hW2 hsb HM1 hCl
 have htk:=(HIN.out.typ Q).take
 rw [HST.out.1,HST.out.2.1,show Hg.tk c.fs 4 a=1 by simp [Hg.tk]] at htk
 have hlen:=HIN.out.good.here
 obtain ⟨j,hj1⟩:∃ j,pile.length=j + 1:=⟨pile.length - 1,by omega⟩
 have HJ:=Hid.put hj1
 have hj20:j ≤ 20:=by omega
 clear htk hlen hj1 hpl
 obtain ⟨v,hv⟩:∃ v,pile.getD j 0=v:=⟨_,rfl⟩
 have HV:Hid (Mn.top pile=v):=by
   show _=_
   rw [Mn.top_is HJ.out]
   exact hv
 have HVW:Hid (Wd.ok v=true):=by
   show _=_
   rw [← hv]
   exact Mn.words_get hG.wp j
 have HVE:=Hid.put hv
 clear hv
 have hlo:=(HIN.out.typ Q).loc (.inr (.inr HST.out.1))
 rw [HST.out.2.1] at hlo
 have hnl:=Q.nl
 have ha0:0 ≤ a:=by
   have:=HST.out.2.2
   simp only [St.ok,Bool.and_eq_true,Wd.in_iff] at this
   have h0:0 ≤ St.least 4:=by decide
   omega
 obtain ⟨an,rfl⟩:=Int.eq_ofNat_of_zero_le ha0
 have hanl:an < q.nl:=by omega
 have hlZ:(an:Int) < (q.nl:Int):=by omega
 have hl6:q.nl ≤ 6:=by have:=Mn.fn_ok Q.tab.val Q.lt;omega
 clear hlo hnl ha0
 go_wp2_with fail
 obtain ⟨AA,hAA⟩:∃ AA:Bool → World → Prop,AA=fun t x => (if t=true then KM c q ((at1:Int) + 1) pile (loc.set an v) mem (c.L q.k at1) ((c.fuel:Int) - n) x else KM c q ((at1:Int) + 1) pile loc mem (c.L q.k at1) ((c.fuel:Int) - n) x) ∧ Arr x sb 78 [.int .i64 4,.int .i64 (an:Int)]:=⟨_,rfl⟩
 have hA0:AA false W2.drew:=by rw [hAA];exact ⟨HM.out.kept (Below.refl _ _).drew,HS1.out.kept (Below.refl _ _).drew⟩
 have hAs:∀ {t:Bool} {x:World},AA t x → x.cell? ⟨sb,1,none⟩=some (.int .i64 (an:Int)):=fun h => by rw [hAA] at h;exact h.2.cell (j:=1) rfl
 have hAf:∀ {x:World},AA false x → KM c q ((at1:Int) + 1) pile loc mem (c.L q.k at1) ((c.fuel:Int) - n) x ∧ Arr x sb 78 [.int .i64 4,.int .i64 (an:Int)]:=fun h => by rw [hAA] at h;exact h
 have hAt:∀ {x:World},AA true x → KM c q ((at1:Int) + 1) pile (loc.set an v) mem (c.L q.k at1) ((c.fuel:Int) - n) x ∧ Arr x sb 78 [.int .i64 4,.int .i64 (an:Int)]:=fun h => by rw [hAA] at h;exact h
 have hAi:∀ {x x':World},AA false x → KM c q ((at1:Int) + 1) pile (loc.set an v) mem (c.L q.k at1) ((c.fuel:Int) - n) x' → Stays x x' → AA true x':=fun h1 h2 h3 => by rw [hAA] at h1 ⊢;exact ⟨h2,h1.2.stays h3 (by decide) (by decide) (by decide) (by decide)⟩
 have hAe:∀ {t:Bool} {x:World},AA t x → ∃ pl lo,KM c q ((at1:Int) + 1) pl lo mem (c.L q.k at1) ((c.fuel:Int) - n) x:=fun {t} {x} h => by
   rw [hAA] at h
   cases t
   · exact ⟨_,_,h.1⟩
   · exact ⟨_,_,h.1⟩
 have hAk:∀ {t:Bool} {x x':World},AA t x → Below x.heap.size x x' → AA t x':=fun {t} {x} {x'} h hB => by
   rw [hAA] at h ⊢
   refine ⟨?_,h.2.kept hB⟩
   cases t
   · exact KM.kept (show KM c q ((at1:Int) + 1) pile loc mem (c.L q.k at1) ((c.fuel:Int) - n) x from h.1) hB
   · exact KM.kept (show KM c q ((at1:Int) + 1) pile (loc.set an v) mem (c.L q.k at1) ((c.fuel:Int) - n) x from h.1) hB
 have hAp:∀ {t:Bool} {x:World},AA t x → ∃ lo,KM c q ((at1:Int) + 1) pile lo mem (c.L q.k at1) ((c.fuel:Int) - n) x:=fun {t} {x} h => by
   rw [hAA] at h
   cases t
   · exact ⟨_,h.1⟩
   · exact ⟨_,h.1⟩
 clear hAA s0 s1
 refine wp_region_phi3 [67,68,69,70,71,72,73,74,75,76,66,77,78,79,100000] 14 14 AA [.pointer (some ⟨q.C,0,none⟩),.pointer (some ⟨q.C,0,none⟩),.pointer (some ⟨q.C,3,none⟩),.slice (some ⟨q.gl,0,none⟩) q.nl q.nl,.pointer (some ⟨sb,1,none⟩),.int .i64 (an:Int),.pointer (some ⟨q.C,0,none⟩),.pointer (some ⟨q.C,0,none⟩),.pointer (some ⟨q.C,4,none⟩),.tuple #[.int .u32 v,.bool true],.tuple #[.int .u32 v,.bool true],.int .u32 v,.bool true,.pointer (some ⟨q.gl,an,none⟩),undef] (by kernel_rfl) (by kernel_rfl) rfl hA0 ?_ ?_
 · refine ⟨?_,?_,?_,?_,?_,?_,?_,?_,?_,?_,?_,?_,?_,?_,?_,trivial⟩
   all_goals (intro t b x hA ht hm hfr hdf hdep;replace hdf:=Hid.put hdf)
   have e0:b.tmps[0]?.getD undef = .pointer (some ⟨q.C,0,none⟩):=by simpa [Act.eval] using hfr 0 (by decide)
   rotate_left
   have e67:b.tmps[67]?.getD undef = .pointer (some ⟨q.C,0,none⟩):=by simpa [Act.eval] using hdep 0 (by kernel_rfl)
   rotate_left
   have e68:b.tmps[68]?.getD undef = .pointer (some ⟨q.C,0,none⟩):=by simpa [Act.eval] using hdep 1 (by kernel_rfl)
   rotate_left
   have e69:b.tmps[69]?.getD undef = .pointer (some ⟨q.C,3,none⟩):=by simpa [Act.eval] using hdep 2 (by kernel_rfl)
   obtain ⟨pl,lo,hKp⟩:=hAe hA
   obtain ⟨v4,u4,hA4, -⟩:=hKp.box
   have l3:=hA4.cell (j:=3) rfl
   clear hKp hA4
   rotate_left
   have e3:b.tmps[3]?.getD undef = .pointer (some ⟨sb,0,none⟩):=by simpa [Act.eval] using hfr 3 (by decide)
   rotate_left
   have e71:b.tmps[71]?.getD undef = .pointer (some ⟨sb,1,none⟩):=by simpa [Act.eval] using hdep 4 (by kernel_rfl)
   have s1:=hAs hA
   rotate_left
   have e0:b.tmps[0]?.getD undef = .pointer (some ⟨q.C,0,none⟩):=by simpa [Act.eval] using hfr 0 (by decide)
   rotate_left
   have e73:b.tmps[73]?.getD undef = .pointer (some ⟨q.C,0,none⟩):=by simpa [Act.eval] using hdep 6 (by kernel_rfl)
   rotate_left
   have e74:b.tmps[74]?.getD undef = .pointer (some ⟨q.C,0,none⟩):=by simpa [Act.eval] using hdep 7 (by kernel_rfl)
   rotate_left
   · have e75:b.tmps[75]?.getD undef = .pointer (some ⟨q.C,4,none⟩):=by simpa [Act.eval] using hdep 8 (by kernel_rfl)
     unfold Oper.wp
     generalize hK:(fun (b':Act) (x':World) => ∃ y,_ ∧ _)=K
     simp only [execOp]
     go_simp
     obtain ⟨lo,hK0⟩:=hAp hA
     refine (k_top HJ.out (by omega) hK0).mono ?_
     rintro e w' ⟨rfl,hB1⟩
     rw [HVE.out]
     rw [← hK]
     exact ⟨_,rfl,a_keep (hAk hA hB1),rfl,fun i z h => h⟩
   have e76:b.tmps[76]?.getD undef = .tuple #[.int .u32 v,.bool true]:=by simpa [Act.eval] using hdep 9 (by kernel_rfl)
   rotate_left
   have e66:b.tmps[66]?.getD undef = .tuple #[.int .u32 v,.bool true]:=by simpa [Act.eval] using hdep 10 (by kernel_rfl)
   rotate_left
   have e66:b.tmps[66]?.getD undef = .tuple #[.int .u32 v,.bool true]:=by simpa [Act.eval] using hdep 10 (by kernel_rfl)
   rotate_left
   have e70:b.tmps[70]?.getD undef = .slice (some ⟨q.gl,0,none⟩) q.nl q.nl:=by simpa [Act.eval] using hdep 3 (by kernel_rfl)
   have e72:b.tmps[72]?.getD undef = .int .i64 (an:Int):=by simpa [Act.eval] using hdep 5 (by kernel_rfl)
   rotate_left
   · have e79:b.tmps[79]?.getD undef = .pointer (some ⟨q.gl,an,none⟩):=by simpa [Act.eval] using hdep 13 (by kernel_rfl)
     have e77:b.tmps[77]?.getD undef = .int .u32 v:=by simpa [Act.eval] using hdep 11 (by kernel_rfl)
     obtain rfl:=ht rfl
     obtain ⟨hK1,hS⟩:=hAf hA
     have l4:=hK1.lr.cellAt an (by omega)
     rw [map_get (by rw [hK1.ll];exact hanl)] at l4
     obtain ⟨y0,hy0⟩:∃ y0,wv (loc.getD an 0)=y0:=⟨_,rfl⟩
     rw [hy0] at l4
     have l5:=hK1.lr.frozenAt an
     have HK1:=Hid.put (hK1.setL an v)
     clear hK1 hS hy0
     unfold Oper.wp
     generalize hK:(fun (b':Act) (x':World) => ∃ y,_ ∧ _)=K
     simp only [execOp]
     go_simp
     rw [← hK]
     exact ⟨undef,rfl,a_turn (hAi hA HK1.out.1 HK1.out.2),rfl,fun i z h => h⟩
   all_goals (unfold Oper.wp;generalize hK:(fun (b':Act) (x':World) => ∃ y,_ ∧ _)=K;simp only [execOp];go_simp;rw [← hK];exact ⟨_,rfl,a_keep hA,rfl,fun i z h => h⟩)
 · intro b x hA hF hb
   have e67:b.eval (.tmp 67) = .pointer (some ⟨q.C,0,none⟩):=hF 0 (by decide)
   have e68:b.eval (.tmp 68) = .pointer (some ⟨q.C,0,none⟩):=hF 1 (by decide)
   have e69:b.eval (.tmp 69) = .pointer (some ⟨q.C,3,none⟩):=hF 2 (by decide)
   have e70:b.eval (.tmp 70) = .slice (some ⟨q.gl,0,none⟩) q.nl q.nl:=hF 3 (by decide)
   have e71:b.eval (.tmp 71) = .pointer (some ⟨sb,1,none⟩):=hF 4 (by decide)
   have e72:b.eval (.tmp 72) = .int .i64 (an:Int):=hF 5 (by decide)
   have e73:b.eval (.tmp 73) = .pointer (some ⟨q.C,0,none⟩):=hF 6 (by decide)
   have e74:b.eval (.tmp 74) = .pointer (some ⟨q.C,0,none⟩):=hF 7 (by decide)
   have e75:b.eval (.tmp 75) = .pointer (some ⟨q.C,4,none⟩):=hF 8 (by decide)
   have e76:b.eval (.tmp 76) = .tuple #[.int .u32 v,.bool true]:=hF 9 (by decide)
   have e66:b.eval (.tmp 66) = .tuple #[.int .u32 v,.bool true]:=hF 10 (by decide)
   have e77:b.eval (.tmp 77) = .int .u32 v:=hF 11 (by decide)
   have e78:b.eval (.tmp 78) = .bool true:=hF 12 (by decide)
   have e79:b.eval (.tmp 79) = .pointer (some ⟨q.gl,an,none⟩):=hF 13 (by decide)
   obtain ⟨zz,e100000⟩:∃ z,b.eval (.tmp 100000)=z:=⟨_,rfl⟩
   simp only [List.foldl,e67,e68,e69,e70,e71,e72,e73,e74,e75,e76,e66,e77,e78,e79,e100000] at hb
   clear hF e67 e68 e69 e70 e71 e72 e73 e74 e75 e76 e66 e77 e78 e79 e100000
   subst hb
   go_simp
   have hA1:AA true x:=by simpa using hA
   clear hA
   obtain ⟨hK1,hS⟩:=hAt hA1
   have HK1:=Hid.put hK1
   clear hK1 hS
   clear hA1 hAf hAt hAi hAs hAe hAk hAp
   go_wp2
   (try simp only [Exit.inBlock,Exit.then])
   refine bodyPost_end (results_none rfl _ _ _) rfl ?_
   exact HIN.out.next Q ((Mn.st4 HST.out.1 HST.out.2.1).trans (by rw [Int.toNat_natCast,HV.out])) (a2:=at1 + 1) HK1.out (L_plain Q hG.lt (by rw [HST.out.1];rfl) (by rw [HST.out.1];decide))
end Go.Proofs.YthpdpoocigpccaaGreatDoor
