/-
  Own texts for a law: Wlk0 Run4 Run5 Run6 Run7 Wlk1 Wlk2 Wlk3 Wlk4 Stp0 Phi3 StpA StpB StpC StpD StpE
-/
import Derived.Test.YthpdpoocigpccaaGreatDoorKM05
import Derived.Test.YthpdpoocigpccaaGreatDoorKM06
namespace Go.Proofs.YthpdpoocigpccaaGreatDoor
open Go.RowKit Go.Shelf
set_option linter.all false
set_option maxRecDepth 100000
set_option maxHeartbeats 16000000
structure WC where
 B:Nat
 M:Nat
 Mc:Nat
 fb:Nat
 fo:Nat
 Fc:Nat
 hb:Nat
 ho:Nat
 Hc:Nat
 eb:Nat
 eo:Nat
 Ec:Nat
 ob:Nat
 oo:Nat
 Oc:Nat
 fs:List Fn
 d:ByteArray
def WC.jh (c:WC)(aI code:Int):List Value:=
 [.slice (some ⟨c.fb,c.fo,none⟩) c.fs.length c.Fc, .string c.d, .slice (some ⟨c.hb,c.ho,none⟩) c.fs.length c.Hc, .slice (some ⟨c.eb,c.eo,none⟩) c.fs.length c.Ec, .slice (some ⟨c.ob,c.oo,none⟩) c.fs.length c.Oc, .slice (some ⟨c.M,0,none⟩) 64 c.Mc, .int .i64 aI, .int .i64 code]
structure mW (c:WC)(W0 W:World):Prop where
 os:W.os=W0.os
 tape:W.tape=W0.tape
 out:W.output=W0.output
 size:W0.heap.size<=W.heap.size
 blk:∀i,i<W0.heap.size->i≠c.B->i≠c.M->W.heap[i]?=W0.heap[i]?
theorem mW.refl (c:WC)(W:World):mW c W W:=⟨rfl,rfl,rfl,Nat.le_refl _,fun _ _ _ _=>rfl⟩
theorem mW.trans {c:WC}{W0 W1 W2:World}(h:mW c W0 W1)(k:mW c W1 W2):mW c W0 W2:=
 ⟨k.os.trans h.os,k.tape.trans h.tape,k.out.trans h.out,Nat.le_trans h.size k.size,fun i hi h1 h2=>(k.blk i (ah hi h.size) h1 h2).trans (h.blk i hi h1 h2)⟩
theorem mW.below {c:WC}{W W':World}(h:Below W.heap.size W W'):mW c W W':=⟨h.os,h.tape,h.output,h.size,fun i hi _ _=>h.block i hi⟩
theorem mW.grown {c:WC}{W W':World}{row:Option Nat}(h:W.grownBy W' row)(hr:row=none\/row=some c.B\/row=some c.M\/∃r,row=some r/\W.heap.size<=r):mW c W W':=
 ⟨h.os,h.tape,h.output,h.size,fun i hi h1 h2=>h.block i hi (by
   rcases hr with rfl|rfl|rfl|⟨r,rfl,hr⟩
   · simp
   · simpa using h1
   · simpa using h2
   · simp only[ne_eq,ae];omega)⟩
def TL (W:World)(b off:Nat)(n:Nat)(f:Nat->List Int):Prop:=∀k,k<n->∃a m c,W.cell? ⟨b,off+k,none⟩=some (.slice a m c)/\IL W a m (f k)
structure VU (c:WC)(W0:World):Prop where
 fl:∀W,mW c W0 W->FL W (some ⟨c.fb,c.fo,none⟩) c.fs.length c.fs
 th:∀W,mW c W0 W->TL W c.hb c.ho c.fs.length (Mn.gV c.fs)
 te:∀W,mW c W0 W->TL W c.eb c.eo c.fs.length (fun k=>aG.ends (Mn.fn c.fs k).b)
 tn:∀W,mW c W0 W->TL W c.ob c.oo c.fs.length (fun k=>aG.aT (Mn.fn c.fs k).b)
 val:Mn.Kv c.fs
 ne:c.B≠c.M
 fbn:c.fb<W0.heap.size/\c.fb≠c.B/\c.fb≠c.M
structure WK (c:WC)(W0 W:World)(mem:List Int)(aI code:Int):Prop where
 dI:mW c W0 W
 box:bG W c.B (c.jh aI code)
 row:W.ownsRow 0 2 1 (.slice (some ⟨c.M,0,none⟩) 64 c.Mc) 64 (mem.map iv)
theorem WK.kept {c:WC}{W0 W W':World}{mem:List Int}{aI code:Int}(h:WK c W0 W mem aI code)(hB:Below W.heap.size W W'):WK c W0 W' mem aI code:=
 ⟨h.dI.trans (mW.below hB),h.box.kept hB,h.row.kept (row:=none) ⟨hB.os,hB.tape,hB.output,hB.size,fun k hk _=>hB.block k hk⟩ (.inr (by simp[Value.ownBlock]))⟩
theorem og {W:World}{b off n k:Nat}{fs:List Fn}(h:FL W (some ⟨b,off,none⟩) n fs)(hk:k<n):W.cell? ⟨b,off+k*4,none⟩=some (.int .i64 (Mn.fn fs k).a)/\W.cell? ⟨b,off+k*4+1,none⟩=some (.int .i64 (Mn.fn fs k).l)/\W.cell? ⟨b,off+k*4+2,none⟩=some (.int .i64 (Mn.fn fs k).g)/\∃ba bl bc,W.cell? ⟨b,off+k*4+3,none⟩=some (.slice ba bl bc)/\SL W ba bl (Mn.fn fs k).b:=by obtain⟨-,-,h3|⟨b',off',e,hb,hx⟩⟩:=h;{omega};simp only[ae,Addr.mk.injEq,and_true]at e;obtain⟨rfl,rfl⟩:=e;exact hx k hk
def Mn.Lg (f:Fn)(E H:List Int)(at':Nat)(dp:Int):Int×Int×Int:=
 if dp.toNat<(aG.eG f.b E at' at').length then
   let t:=((aG.eG f.b E at' at').getD dp.toNat (-1)).toNat
   if aG.op f.b t=9 then((t:Int)+1,H.getD t 0,0)
   else if aG.op f.b t=10 then(aG.aB E t+1,H.getD t 0-1,Hg.arg f.b t)
   else(aG.aB E t+1,H.getD t 0,Hg.arg f.b t)
 else(-1,0,f.g)
def bL (W W':World):Prop:=∀(i:Nat)(cs:Array Value)(t:TypeId)(fz:Nat×Nat),W.heap[i]?=some (.cells cs t fz)->t≠91->t≠131->t≠93->t≠171->W'.heap[i]?=W.heap[i]?
theorem bL.refl (W:World):bL W W:=fun _ _ _ _ _ _ _ _ _=>rfl
theorem bL.trans {W W1 W2:World}(h:bL W W1)(k:bL W1 W2):bL W W2:=fun i cs t fz e h1 h2 h3 h4=>by
 have e1:=h i cs t fz e h1 h2 h3 h4
 rw[k i cs t fz (e1.trans e) h1 h2 h3 h4,e1]
theorem bL.below {W W':World}(h:Below W.heap.size W W'):bL W W':=fun i cs t fz e _ _ _ _=>h.block i (Array.getElem?_eq_some_iff.1 e).1
theorem bL.grown {W W':World}{r:Nat}(h:W.grownBy W' (some r)){cs:Array Value}{t:TypeId}{fz:Nat×Nat}(e:W.heap[r]?=some (.cells cs t fz))(ht:t=91\/t=131\/t=93\/t=171):bL W W':=fun i cs' t' fz' e' h1 h2 h3 h4=>by
 refine h.block i (Array.getElem?_eq_some_iff.1 e').1 (fun q=>?_)
 cases q
 rw[e]at e'
 cases e'
 rcases ht with rfl|rfl|rfl|rfl
 · exact h1 rfl
 · exact h2 rfl
 · exact h3 rfl
 · exact h4 rfl
theorem bL.none {W W':World}(h:W.grownBy W' none):bL W W':=fun i cs t fz e _ _ _ _=>h.block i (Array.getElem?_eq_some_iff.1 e).1 (by simp)
theorem bL.row {W W':World}{base e k n:Nat}{v:Value}{xs:List Value}(hr:W.ownsRow base e k v n xs)(he:e=93\/e=171)(hg:W.grownBy W' v.ownBlock):bL W W':=by rcases hr.2 with⟨rfl,-⟩|⟨g,cap,cur,rfl,-,hc,-⟩;{exact bL.none hg};refine bL.grown (r:=g) hg hc ?_;rcases he with h|h;{exact .inr (.inr (.inl h))};exact .inr (.inr (.inr h))
theorem bz.stays {W W':World}{g:Nat}{t:TypeId}{vs:List Value}(h:bz W g t vs)(hs:bL W W')(h1:t≠91)(h2:t≠131)(h3:t≠93)(h4:t≠171):bz W' g t vs:=(hs g _ _ _ h h1 h2 h3 h4).trans h
structure PC where
 P:Nat
 aI:Nat
 fs:List Fn
 fb:Nat
 fo:Nat
 Fc:Nat
 nb:Nat
 Nc:Nat
 ns:Nat->Nat
def PC.fv (c:PC):Value:= .slice (some ⟨c.fb,c.fo,none⟩) c.fs.length c.Fc
def PC.nv (c:PC):Value:= .slice (some ⟨c.nb,0,none⟩) c.fs.length c.Nc
structure vC (c:PC)(W0:World):Prop where
 fl:∀W,kX c.P W0 W->FL W (some ⟨c.fb,c.fo,none⟩) c.fs.length c.fs
 nl:∀W,kX c.P W0 W->∀k,k<c.fs.length->W.cell? ⟨c.nb,k,none⟩=some (.pointer (some ⟨c.ns k,0,none⟩))/\
   (∃a n cp,W.cell? ⟨c.ns k,2,none⟩=some (.slice a n cp)/\IL W a n (aG.ends (Mn.fn c.fs k).b))/\∃a n cp,W.cell? ⟨c.ns k,3,none⟩=some (.slice a n cp)/\IL W a n (aG.aT (Mn.fn c.fs k).b)
 val:Mn.Kv c.fs
 f3:c.aI<=3000
 fbn:c.fb<W0.heap.size/\c.fb≠c.P
structure KK where
 w:World
 k:Nat
 d:Nat
 C:Nat
 gl:Nat
 nl:Nat
 bb:Nat
 bo:Nat
 bl:Nat
 bc:Nat
def KK.jh (q:KK)(c:PC)(v u:Value)(aB:Int):List Value:=
 [.pointer (some ⟨c.P,0,none⟩), .slice (some ⟨q.bb,q.bo,none⟩) q.bl q.bc, .pointer (some ⟨c.ns q.k,0,none⟩), .slice (some ⟨q.gl,0,none⟩) q.nl q.nl,v,u, .int .i64 aB]
structure KM (c:PC)(q:KK)(aB:Int)(pile loc mem:List Int)(ls:List Mn.Lb)(b:Int)(W:World):Prop where
 dI:kX c.P q.w W
 pb:bz W c.P 91 (PB mem c.aI b ((q.d+1:Nat):Int) c.fv c.nv)
 ml:mem.length=64
 ll:loc.length=q.nl
 box:∃v u,bz W q.C 131 (q.jh c v u aB)/\W.ownsRow (q.C+1) 93 1 v pile.length (pile.map wv)/\W.ownsRow (q.C+1) 171 4 u ls.length (iA ls.reverse)
 lr:W.ownsRow q.w.heap.size 93 1 (.slice (some ⟨q.gl,0,none⟩) q.nl q.nl) q.nl (loc.map wv)
 o1:c.P<q.w.heap.size
 o2:q.gl<q.C
section
variable {c : PC} {q : KK} {aB : Int} {pile loc mem : List Int} {ls : List Mn.Lb} {b : Int} {W W' : World}
theorem KM.gl (K:KM c q aB pile loc mem ls b W):q.w.heap.size<=q.gl:=(K.lr.lt q.gl rfl).1
theorem KM.yU (K:KM c q aB pile loc mem ls b W):q.C<W.heap.size:=by obtain⟨v,u,h,-⟩:=K.box;exact h.lt
theorem KM.kept (K:KM c q aB pile loc mem ls b W)(hB:Below W.heap.size W W'):KM c q aB pile loc mem ls b W':=by obtain⟨v,u,h1,h2,h3⟩:=K.box;exact⟨K.dI.trans (kX.below hB),K.pb.kept hB,K.ml,K.ll,⟨v,u,h1.kept hB,aH h2 hB,aH h3 hB⟩,aH K.lr hB,K.o1,K.o2⟩
theorem aQ {n₀ e k n b:Nat}{v:Value}{xs:List Value}(h:W.ownsRow n₀ e k v n xs){row:Option Nat}(hg:W.grownBy W' row)(hb:∀g,v.ownBlock=some g->row≠some g):W'.ownsRow n₀ e k v n xs:=by refine h.kept hg ?_;rcases hv:v.ownBlock with _|g;{exact .inl rfl};exact .inr (fun e=>hb g hv e.symm)
theorem oO {b0 b1 e0 e1 k0 k1 n0 n1:Nat}{v u:Value}{xs ys:List Value}(h0:W.ownsRow b0 e0 k0 v n0 xs)(h1:W.ownsRow b1 e1 k1 u n1 ys)(he:e0≠e1):∀g,u.ownBlock=some g->v.ownBlock≠some g:=by intro g hg hv;rcases h0.2 with⟨rfl,_⟩|⟨g0,c0,cur,rfl,_,hb,_⟩;{cases hv};rcases h1.2 with⟨rfl,_⟩|⟨g1,c1,cur',rfl,_,hb',_⟩;{cases hg};cases hv;cases hg;rw[hb]at hb';simp only[ae,Obj.cells.injEq]at hb';exact he hb'.2.1
theorem KM.Yb (K:KM c q aB pile loc mem ls b W){v u v':Value}{wA:World}{fJ:List Int}(hA:bz W q.C 131 (q.jh c v u aB))(hv:W.ownsRow (q.C+1) 93 1 v pile.length (pile.map wv))(hu:W.ownsRow (q.C+1) 171 4 u ls.length (iA ls.reverse))(hg:W.grownBy wA v.ownBlock)(hown:wA.ownsRow (q.C+1) 93 1 v' fJ.length (fJ.map wv)):KM c q aB fJ loc mem ls b (wA.setCell ⟨q.C,4,none⟩ v')/\bL W (wA.setCell ⟨q.C,4,none⟩ v'):=by have g2:=aF wA ⟨q.C,4,none⟩ v';have o0:=K.gl;have o1:=K.o1;have o2:=K.o2;have hb:∀r,v.ownBlock=some r->q.C+1<=r:=fun r e=>(hv.lt r e).1;have hn:∀n,n<=q.C->some n≠v.ownBlock:=fun n hn e=>by{have:=hb n e.symm;omega};have A1:=hA.dN hg (hn _ (Nat.le_refl _));refine⟨⟨(K.dI.grow hg (fun r e=> .inl (by have:=hb r e;omega))).grow g2 (fun r e=> .inl (by simp only[ae]at e;omega)),(K.pb.dN hg (hn _ (by omega))).dN g2 (by simp only[ne_eq,ae];omega),K.ml,K.ll,⟨v',u,A1.set 4 v',aQ (b:=0) hown g2 (fun g e=>by have:=(hown.lt g e).1;simp only[ne_eq,ae];omega),?_⟩,?_,o1,o2⟩,?_⟩;{refine aQ (b:=0) (aQ (b:=0) hu hg (oO hv hu (by decide))) g2 (fun g e=>by have:=(hu.lt g e).1;simp only[ne_eq,ae];omega)};{refine aQ (b:=0) (aQ (b:=0) K.lr hg (fun g e=>?_)) g2 (fun g e=>?_);{simp only[Value.ownBlock,ae]at e;exact fun q'=>hn g (by omega) q'.symm};simp only[Value.ownBlock,ae]at e;simp only[ne_eq,ae];omega};exact(bL.row hv (.inl rfl) hg).trans (bL.grown g2 A1 (.inr (.inl rfl)))
theorem KM.abH (K:KM c q aB pile loc mem ls b W){v u u':Value}{wA:World}{ls':List Mn.Lb}(hA:bz W q.C 131 (q.jh c v u aB))(hv:W.ownsRow (q.C+1) 93 1 v pile.length (pile.map wv))(hu:W.ownsRow (q.C+1) 171 4 u ls.length (iA ls.reverse))(hg:W.grownBy wA u.ownBlock)(hown:wA.ownsRow (q.C+1) 171 4 u' ls'.length (iA ls'.reverse)):KM c q aB pile loc mem ls' b (wA.setCell ⟨q.C,5,none⟩ u')/\bL W (wA.setCell ⟨q.C,5,none⟩ u'):=by have g2:=aF wA ⟨q.C,5,none⟩ u';have o0:=K.gl;have o1:=K.o1;have o2:=K.o2;have hb:∀r,u.ownBlock=some r->q.C+1<=r:=fun r e=>(hu.lt r e).1;have hn:∀n,n<=q.C->some n≠u.ownBlock:=fun n hn e=>by{have:=hb n e.symm;omega};have A1:=hA.dN hg (hn _ (Nat.le_refl _));refine⟨⟨(K.dI.grow hg (fun r e=> .inl (by have:=hb r e;omega))).grow g2 (fun r e=> .inl (by simp only[ae]at e;omega)),(K.pb.dN hg (hn _ (by omega))).dN g2 (by simp only[ne_eq,ae];omega),K.ml,K.ll,⟨v,u',A1.set 5 u',?_,aQ (b:=0) hown g2 (fun g e=>by have:=(hown.lt g e).1;simp only[ne_eq,ae];omega)⟩,?_,o1,o2⟩,?_⟩;{refine aQ (b:=0) (aQ (b:=0) hv hg (oO hu hv (by decide))) g2 (fun g e=>by have:=(hv.lt g e).1;simp only[ne_eq,ae];omega)};{refine aQ (b:=0) (aQ (b:=0) K.lr hg (fun g e=>?_)) g2 (fun g e=>?_);{simp only[Value.ownBlock,ae]at e;exact fun q'=>hn g (by omega) q'.symm};simp only[Value.ownBlock,ae]at e;simp only[ne_eq,ae];omega};exact(bL.row hu (.inr rfl) hg).trans (bL.grown g2 A1 (.inr (.inl rfl)))
theorem bz.J7 {b j:Nat}{v:Value}{t:TypeId}{vs:List Value}(h:bz W b t vs)(hs:df W W' b j v):bz W' b t (vs.set j v):=hs.2.trans (h.set j v)
theorem KM.X7 (K:KM c q aB pile loc mem ls b W){v u v':Value}{fJ:List Int}(hA:bz W q.C 131 (q.jh c v u aB))(hv:W.ownsRow (q.C+1) 93 1 v pile.length (pile.map wv))(hu:W.ownsRow (q.C+1) 171 4 u ls.length (iA ls.reverse))(hs:df W W' q.C 4 v')(hown:W'.ownsRow (q.C+1) 93 1 v pile.length (pile.map wv)->W'.ownsRow (q.C+1) 93 1 v' fJ.length (fJ.map wv)):KM c q aB fJ loc mem ls b W'/\bL W W':=by have o0:=K.gl;have o1:=K.o1;have o2:=K.o2;have hg:=hs.1;refine⟨⟨K.dI.grow hg (fun r e=> .inl (by simp only[ae]at e;omega)),K.pb.dN hg (by simp only[ne_eq,ae];omega),K.ml,K.ll,⟨v',u,hA.J7 hs,hown (aQ (b:=0) hv hg (fun g e=>by have:=(hv.lt g e).1;simp only[ne_eq,ae];omega)),aQ (b:=0) hu hg (fun g e=>by have:=(hu.lt g e).1;simp only[ne_eq,ae];omega)⟩,aQ (b:=0) K.lr hg (fun g e=>by simp only[Value.ownBlock,ae]at e;simp only[ne_eq,ae];omega),o1,o2⟩,bL.grown hg hA (.inr (.inl rfl))⟩
theorem KM.afi (K:KM c q aB pile loc mem ls b W){v u u':Value}{ls':List Mn.Lb}(hA:bz W q.C 131 (q.jh c v u aB))(hv:W.ownsRow (q.C+1) 93 1 v pile.length (pile.map wv))(hu:W.ownsRow (q.C+1) 171 4 u ls.length (iA ls.reverse))(hs:df W W' q.C 5 u')(hown:W'.ownsRow (q.C+1) 171 4 u ls.length (iA ls.reverse)->W'.ownsRow (q.C+1) 171 4 u' ls'.length (iA ls'.reverse)):KM c q aB pile loc mem ls' b W'/\bL W W':=by have o0:=K.gl;have o1:=K.o1;have o2:=K.o2;have hg:=hs.1;refine⟨⟨K.dI.grow hg (fun r e=> .inl (by simp only[ae]at e;omega)),K.pb.dN hg (by simp only[ne_eq,ae];omega),K.ml,K.ll,⟨v,u',hA.J7 hs,aQ (b:=0) hv hg (fun g e=>by have:=(hv.lt g e).1;simp only[ne_eq,ae];omega),hown (aQ (b:=0) hu hg (fun g e=>by have:=(hu.lt g e).1;simp only[ne_eq,ae];omega))⟩,aQ (b:=0) K.lr hg (fun g e=>by simp only[Value.ownBlock,ae]at e;simp only[ne_eq,ae];omega),o1,o2⟩,bL.grown hg hA (.inr (.inl rfl))⟩
theorem KM.setAt (K:KM c q aB pile loc mem ls b W)(x:Int)(hs:df W W' q.C 6 (.int .i64 x)):KM c q x pile loc mem ls b W'/\bL W W':=by obtain⟨v,u,hA,hv,hu⟩:=K.box;have o0:=K.gl;have o1:=K.o1;have o2:=K.o2;have hg:=hs.1;refine⟨⟨K.dI.grow hg (fun r e=> .inl (by simp only[ae]at e;omega)),K.pb.dN hg (by simp only[ne_eq,ae];omega),K.ml,K.ll,⟨v,u,hA.J7 hs,aQ (b:=0) hv hg (fun g e=>by have:=(hv.lt g e).1;simp only[ne_eq,ae];omega),aQ (b:=0) hu hg (fun g e=>by have:=(hu.lt g e).1;simp only[ne_eq,ae];omega)⟩,aQ (b:=0) K.lr hg (fun g e=>by simp only[Value.ownBlock,ae]at e;simp only[ne_eq,ae];omega),o1,o2⟩,bL.grown hg hA (.inr (.inl rfl))⟩
theorem KM.Kc (K:KM c q aB pile loc mem ls b W){mem':List Int}{b':Int}(hg:W.grownBy W' (some c.P))(ml:mem'.length=64)(h:bz W' c.P 91 (PB mem' c.aI b' ((q.d+1:Nat):Int) c.fv c.nv)):KM c q aB pile loc mem' ls b' W'/\bL W W':=by obtain⟨v,u,hA,hv,hu⟩:=K.box;have o0:=K.gl;have o1:=K.o1;have o2:=K.o2;refine⟨⟨K.dI.grow hg (fun r e=> .inr (by simp only[ae]at e;exact e.symm)),h,ml,K.ll,⟨v,u,hA.dN hg (by simp only[ne_eq,ae];omega),aQ (b:=0) hv hg (fun g e=>by have:=(hv.lt g e).1;simp only[ne_eq,ae];omega),aQ (b:=0) hu hg (fun g e=>by have:=(hu.lt g e).1;simp only[ne_eq,ae];omega)⟩,aQ (b:=0) K.lr hg (fun g e=>by simp only[Value.ownBlock,ae]at e;simp only[ne_eq,ae];omega),o1,o2⟩,bL.grown hg K.pb (.inl rfl)⟩
theorem KM.Le (K:KM c q aB pile loc mem ls b W)(i:Nat)(x:Int):KM c q aB pile (loc.set i x) mem ls b (W.setCell ⟨q.gl,i,none⟩ (.int .u32 x))/\bL W (W.setCell ⟨q.gl,i,none⟩ (.int .u32 x)):=by obtain⟨v,u,hA,hv,hu⟩:=K.box;have o0:=K.gl;have o1:=K.o1;have o2:=K.o2;have hg:W.grownBy (W.setCell ⟨q.gl,i,none⟩ (.int .u32 x)) (some q.gl):=aF W ⟨q.gl,i,none⟩ (.int .u32 x);have hst:=(K.lr.stored i (.int .u32 x)).1;have e:(loc.map wv).set i (.int .u32 x)=(loc.set i x).map wv:=by{rw[List.map_set];rfl};rw[e]at hst;refine⟨⟨K.dI.grow hg (fun r e=> .inl (by simp only[ae]at e;omega)),K.pb.dN hg (by simp only[ne_eq,ae];omega),K.ml,by rw[List.length_set];exact K.ll,⟨v,u,hA.dN hg (by simp only[ne_eq,ae];omega),aQ (b:=0) hv hg (fun g e=>by have:=(hv.lt g e).1;simp only[ne_eq,ae];omega),aQ (b:=0) hu hg (fun g e=>by have:=(hu.lt g e).1;simp only[ne_eq,ae];omega)⟩,hst,o1,o2⟩,bL.row K.lr (.inl rfl) hg⟩
end
section
variable {c : PC} {q : KK} {aB : Int} {pile loc mem : List Int} {ls : List Mn.Lb} {b : Int} {W W' : World}
theorem wH (x:Int)(hl:pile.length<=100)(K:KM c q aB pile loc mem ls b W):Calls Tryz.prog 108 #[.pointer (some ⟨q.C,4,none⟩), .int .u32 x] W fun e w'=>e= .returned (.tuple #[])/\KM c q aB (pile++[x]) loc mem ls b w'/\bL W w':=by obtain⟨v,u,hA,hv,hu⟩:=K.box;refine(afr x (Nat.lt_succ_self _) (hA.cell (j:=4) rfl) (hA.frozen 4) hv (by omega) K.yU).mono ?_;rintro e w' ⟨rfl,v',wA,rfl,hown,hg⟩;exact⟨rfl,K.Yb hA hv hu hg (by rw[List.length_append];exact hown)⟩
theorem KG (x:Mn.Lb)(hl:ls.length<=100)(K:KM c q aB pile loc mem ls b W):Calls Tryz.prog 107 #[.pointer (some ⟨q.C,5,none⟩),GM x] W fun e w'=>e= .returned (.tuple #[])/\KM c q aB pile loc mem (x::ls) b w'/\bL W w':=by obtain⟨v,u,hA,hv,hu⟩:=K.box;refine(abz x (Nat.lt_succ_self _) (hA.cell (j:=5) rfl) (hA.frozen 5) hu (by omega) K.yU).mono ?_;rintro e w' ⟨rfl,v',wA,rfl,hown,hg⟩;exact⟨rfl,K.abH hA hv hu hg hown⟩
theorem uD {x:Mn.Lb}(hl:ls.length<=100)(K:KM c q aB pile loc mem (x::ls) b W):Calls Tryz.prog 142 #[.pointer (some ⟨q.C,5,none⟩)] W fun e w'=>e= .returned (.tuple #[GM x, .bool true])/\KM c q aB pile loc mem ls b w'/\bL W w':=by obtain⟨v,u,hA,hv,hu⟩:=K.box;refine(abj x (by omega) (hA.cell (j:=5) rfl) (hA.frozen 5) hu).mono ?_;rintro e w' ⟨rfl,v',hs,-,hown⟩;exact⟨rfl,K.afi hA hv hu hs (hown w')⟩
theorem abh {j:Nat}(hj:pile.length=j+1)(hl:j<=100)(K:KM c q aB pile loc mem ls b W):Calls Tryz.prog 79 #[.pointer (some ⟨q.C,4,none⟩)] W fun e w'=>e= .returned (.tuple #[.int .u32 (pile.getD j 0), .bool true])/\Below W.heap.size W w':=by obtain⟨v,u,hA,hv,hu⟩:=K.box;rw[hj]at hv;exact XM (by omega) (hA.cell (j:=4) rfl) hv
theorem Ui {j:Nat}(hj:pile.length=j+1)(hl:j<=100)(K:KM c q aB pile loc mem ls b W):Calls Tryz.prog 134 #[.pointer (some ⟨q.C,4,none⟩)] W fun e w'=>e= .returned (.tuple #[.int .u32 (pile.getD j 0), .bool true])/\KM c q aB (pile.take j) loc mem ls b w'/\bL W w':=by obtain⟨v,u,hA,hv,hu⟩:=K.box;have hv':=hv;rw[hj]at hv';refine(abD (by omega) (hA.cell (j:=4) rfl) (hA.frozen 4) hv').mono ?_;rintro e w' ⟨rfl,v',hs,-,hown⟩;refine⟨rfl,K.X7 hA hv hu hs (fun h=>?_)⟩;rw[hj]at h;have:=hown w' h;rw[List.length_take,hj,Nat.min_eq_left (by omega)];exact this
theorem gm {j:Nat}(hj:pile.length=j+1)(hl:j<=100)(K:KM c q aB pile loc mem ls b W):Calls Tryz.prog 109 #[.pointer (some ⟨q.C,0,none⟩)] W fun e w'=>e= .returned (.int .u32 (pile.getD j 0))/\KM c q aB (pile.take j) loc mem ls b w'/\bL W w':=by have hcon:=Ui hj hl K;obtain⟨y,hy⟩:∃y,pile.getD j 0=y:=⟨_,rfl⟩;rw[hy]at hcon ⊢;clear hy;go_enter Tryz.func109,Tryz.ntmps109;go_wp2_with fail;refine hcon.mono ?_;rintro e w1 ⟨rfl,hK,hS⟩;dsimp only;have HK:=aa (ai hK hS);clear hcon hK hS K;go_wp2;go_ret;exact⟨rfl,HK.out⟩
end
theorem bK {A:Bool->World->Prop}{t:Bool}{x:World}(h:A t x):A (t||false) x:=by rw[Bool.or_false];exact h
theorem fM {A:Bool->World->Prop}{t:Bool}{x:World}(h:A true x):A (t||true) x:=by rw[Bool.or_true];exact h
theorem mq:(Tryz.prog.info? 86).map (·.size)=some 64:=by kernel_rfl
theorem jV {P:Program}(w:World)(g:Nat)(t ty:TypeId)(vs tl:List Value)(n:Nat)(e:TypeId)(hg:bz w g t (vs++tl))(hu:P.underlying ty=some (.array n e))(hi:(P.info? ty).map (·.size)=some vs.length):(Instr.loadAt ty (.pointer (some ⟨g,0,none⟩))).run P w= .ok (.agg vs.toArray) w:=by simp only[Instr.loadAt,Instr.sureAddr,Sem.run_bind,Sem.run_pure,Result.andThen];exact qU w g t ty vs tl n e hg hu hi
theorem iG {P:Program}{o:Oper}{b:Act}{x:World}{K:Act->World->Prop}{Q:Exit->Act->World->Prop}(ty:TypeId)(y:Operand)(ho:o.op= .load ty y)(v p:Value)(hp:b.eval y=p)(hrun:(Instr.loadAt ty p).run P x= .ok v x)(h:K (b.put o.dst v) x):o.wp P b x K Q:=by unfold Oper.wp execOp;simp only[ho,hp,Sem.run_bind,hrun,Result.andThen_ok];exact h
section
variable {c : PC} {q : KK} {aB : Int} {pile loc mem : List Int} {ls : List Mn.Lb} {b : Int} {W W' : World}
theorem Hf (K:KM c q aB pile loc mem ls b W):(Instr.loadAt 86 (.pointer (some ⟨c.P,0,none⟩))).run Tryz.prog W= .ok (.agg (mem.map bv).toArray) W:=
 jV W c.P _ _ _ _ 64 5 K.pb Tryz.underlying86 (by rw[List.length_map,K.ml];exact mq)
theorem LU (a o:Int)(ha:Wd.ok a=true)(hb:∀j,0<=mem.getD j 0/\mem.getD j 0<=255)(h:Mm.there a o=true)(K:KM c q aB pile loc mem ls b W):Calls Tryz.prog 111 #[.pointer (some ⟨c.P,0,none⟩), .int .u32 a, .int .i64 o] W fun e w'=>e= .returned (.int .u32 (Mm.lF mem (a+o).toNat 4))/\Below W.heap.size W w':=by obtain⟨i1,i2,i3,i4⟩:=Mm.ji.1 h;obtain⟨kk,hk⟩:∃kk:Nat,a+o=kk:=⟨(a+o).toNat,by omega⟩;have Ym:kk+4<=64:=by{omega};obtain⟨gx,hgx⟩:∃gx,Mm.lF mem (a+o).toNat 4=gx:=⟨_,rfl⟩;rw[hgx];have hld:∀x:World,Calls Tryz.prog 136 #[.agg (mem.map bv).toArray, .int .i64 (a+o)] x fun e w'=>e= .returned (.int .u32 gx)/\Below x.heap.size x w':=fun x=>by{have:=Jm mem K.ml hb kk Ym x;rw[←hgx,hk,az];exact this};have hpl:=fun x:World=>pU a o ha h x;obtain⟨AA,bH⟩:∃AA:Bool->World->Prop,AA=fun _ x=>Below W.heap.size W x/\KM c q aB pile loc mem ls b x:=⟨_,rfl⟩;have jT:AA false W.drew:=by{rw[bH];exact⟨(Below.refl _ _).drew,K.kept (Below.refl _ _).drew⟩};have Gd:∀{t:Bool}{x:World},AA t x->(Instr.loadAt 86 (.pointer (some ⟨c.P,0,none⟩))).run Tryz.prog x= .ok (.agg (mem.map bv).toArray) x:=fun h=>by{rw[bH]at h;exact Hf h.2};have hAk:∀{t t':Bool}{x x':World},AA t x->Below x.heap.size x x'->AA t' x':=fun h hB=>by{rw[bH]at h ⊢;exact⟨h.1.trans (hB.mono h.1.size),h.2.kept hB⟩};have fB:∀{t:Bool}{x:World},AA t x->Below W.heap.size W x:=fun h=>by{rw[bH]at h;exact h.1};obtain⟨cs,hcs⟩:∃cs,(mem.map bv).toArray=cs:=⟨_,rfl⟩;rw[hcs]at Gd;rw[hcs]at hld;clear hk hgx;clear bH hcs K hb;go_enter Tryz.func111,Tryz.ntmps111;go_wp2_with fail;refine bC 8 [7,8,9,10,11,12,13,14] 100 AA (fun j y _=>y=[.pointer (some ⟨c.P,0,none⟩), .pointer (some ⟨c.P,0,none⟩), .pointer (some ⟨c.P,0,none⟩), .agg cs, .int .u32 a, .int .i64 o, .int .i64 (a+o), .int .u32 gx].getD j undef) (by kernel_rfl) (by kernel_rfl) (by simp) jT ?_ ?_;{simp only[List.take_succ_cons,List.take_zero];refine⟨?_,?_,?_,?_,?_,?_,?_,?_,trivial⟩;(all_goals(intro t b x hA ht hm hfr hdf aD;replace hdf:=aa hdf));have e0:b.tmps[0]?.getD undef= .pointer (some ⟨c.P,0,none⟩):=aA (hfr 0 (by decide));rotate_left;have e7:b.tmps[7]?.getD undef= .pointer (some ⟨c.P,0,none⟩):=aA (aD 0 (by kernel_rfl));rotate_left;have e8:b.tmps[8]?.getD undef= .pointer (some ⟨c.P,0,none⟩):=aA (aD 1 (by kernel_rfl));rotate_left;{have e9:b.tmps[9]?.getD undef= .pointer (some ⟨c.P,0,none⟩):=aA (aD 2 (by kernel_rfl));exact iG _ _ rfl _ _ (by simpa[Act.eval]using e9) (Gd hA) ⟨_,rfl,bK hA,rfl,fun i z h=>h⟩};have e1:b.tmps[1]?.getD undef= .int .u32 a:=aA (hfr 1 (by decide));rotate_left;have e2:b.tmps[2]?.getD undef= .int .i64 o:=aA (hfr 2 (by decide));rotate_left;{have e11:b.tmps[11]?.getD undef= .int .u32 a:=aA (aD 4 (by kernel_rfl));have e12:b.tmps[12]?.getD undef= .int .i64 o:=aA (aD 5 (by kernel_rfl));unfold Oper.wp;generalize hK:(fun(b':Act) (x':World)=>∃y,_/\_)=K;simp only[execOp];go_simp;refine(hpl x).mono ?_;rintro e w' ⟨rfl,fQ⟩;subst w';rw[←hK];exact⟨_,rfl,bK hA,rfl,fun i z h=>h⟩};{have e10:b.tmps[10]?.getD undef= .agg cs:=aA (aD 3 (by kernel_rfl));have e13:b.tmps[13]?.getD undef= .int .i64 (a+o):=aA (aD 6 (by kernel_rfl));unfold Oper.wp;generalize hK:(fun(b':Act) (x':World)=>∃y,_/\_)=K;simp only[execOp];go_simp;refine(hld x).mono ?_;rintro e w' ⟨rfl,hB⟩;rw[←hK];exact⟨_,rfl,bK (hAk hA hB),rfl,fun i z h=>h⟩};all_goals(unfold Oper.wp;generalize hK:(fun(b':Act) (x':World)=>∃y,_/\_)=K;simp only[execOp];go_simp;rw[←hK];exact⟨_,rfl,bK hA,rfl,fun i z h=>h⟩)};intro b x hA hF hb;have e7:b.eval (.tmp 7)= .pointer (some ⟨c.P,0,none⟩):=hF 0 (by decide);have e8:b.eval (.tmp 8)= .pointer (some ⟨c.P,0,none⟩):=hF 1 (by decide);have e9:b.eval (.tmp 9)= .pointer (some ⟨c.P,0,none⟩):=hF 2 (by decide);have e10:b.eval (.tmp 10)= .agg cs:=hF 3 (by decide);have e11:b.eval (.tmp 11)= .int .u32 a:=hF 4 (by decide);have e12:b.eval (.tmp 12)= .int .i64 o:=hF 5 (by decide);have e13:b.eval (.tmp 13)= .int .i64 (a+o):=hF 6 (by decide);have e14:b.eval (.tmp 14)= .int .u32 gx:=hF 7 (by decide);simp only[List.foldl,e7,e8,e9,e10,e11,e12,e13,e14]at hb;clear hF e7 e8 e9 e10 e11 e12 e13 e14;subst hb;simp only[List.drop_succ_cons,List.drop_zero];go_simp;have hA1:AA false x:=by{simpa using hA};clear hA;go_wp2;go_ret;exact⟨rfl,fB hA1⟩
theorem Mr (a o:Int)(ha:Wd.ok a=true)(hb:∀j,0<=mem.getD j 0/\mem.getD j 0<=255)(h:Mm.there a o=false)(K:KM c q aB pile loc mem ls b W):Calls Tryz.prog 111 #[.pointer (some ⟨c.P,0,none⟩), .int .u32 a, .int .i64 o] W fun e w'=>e=nX 3/\Below W.heap.size W w':=by have hpl:=fun x:World=>pY a o ha h x;obtain⟨AA,bH⟩:∃AA:Bool->World->Prop,AA=fun _ x=>Below W.heap.size W x/\KM c q aB pile loc mem ls b x:=⟨_,rfl⟩;have jT:AA false W.drew:=by{rw[bH];exact⟨(Below.refl _ _).drew,K.kept (Below.refl _ _).drew⟩};have Gd:∀{t:Bool}{x:World},AA t x->(Instr.loadAt 86 (.pointer (some ⟨c.P,0,none⟩))).run Tryz.prog x= .ok (.agg (mem.map bv).toArray) x:=fun h=>by{rw[bH]at h;exact Hf h.2};have hAk:∀{t t':Bool}{x x':World},AA t x->Below x.heap.size x x'->AA t' x':=fun h hB=>by{rw[bH]at h ⊢;exact⟨h.1.trans (hB.mono h.1.size),h.2.kept hB⟩};have fB:∀{t:Bool}{x:World},AA t x->Below W.heap.size W x:=fun h=>by{rw[bH]at h;exact h.1};obtain⟨cs,hcs⟩:∃cs,(mem.map bv).toArray=cs:=⟨_,rfl⟩;rw[hcs]at Gd;clear bH hcs K hb;go_enter Tryz.func111,Tryz.ntmps111;go_wp2_with fail;refine bC 8 [7,8,9,10,11,12,13,14] 100 AA (fun j y _=>j≠6/\y=[.pointer (some ⟨c.P,0,none⟩), .pointer (some ⟨c.P,0,none⟩), .pointer (some ⟨c.P,0,none⟩), .agg cs, .int .u32 a, .int .i64 o, .int .i64 (a+o),undef].getD j undef) (by kernel_rfl) (by kernel_rfl) (by simp) jT ?_ ?_;{simp only[List.take_succ_cons,List.take_zero];refine⟨?_,?_,?_,?_,?_,?_,?_,?_,trivial⟩;(all_goals(intro t b x hA ht hm hfr hdf aD;replace hdf:=aa hdf));have e0:b.tmps[0]?.getD undef= .pointer (some ⟨c.P,0,none⟩):=aA (hfr 0 (by decide));rotate_left;have e7:b.tmps[7]?.getD undef= .pointer (some ⟨c.P,0,none⟩):=by{simpa[Act.eval]using(aD 0 (by kernel_rfl)).2};rotate_left;have e8:b.tmps[8]?.getD undef= .pointer (some ⟨c.P,0,none⟩):=by{simpa[Act.eval]using(aD 1 (by kernel_rfl)).2};rotate_left;{have e9:b.tmps[9]?.getD undef= .pointer (some ⟨c.P,0,none⟩):=by{simpa[Act.eval]using(aD 2 (by kernel_rfl)).2};exact iG _ _ rfl _ _ (by simpa[Act.eval]using e9) (Gd hA) ⟨_,rfl,bK hA,⟨by decide,rfl⟩,fun i z h=>h⟩};have e1:b.tmps[1]?.getD undef= .int .u32 a:=aA (hfr 1 (by decide));rotate_left;have e2:b.tmps[2]?.getD undef= .int .i64 o:=aA (hfr 2 (by decide));rotate_left;{have e11:b.tmps[11]?.getD undef= .int .u32 a:=by{simpa[Act.eval]using(aD 4 (by kernel_rfl)).2};have e12:b.tmps[12]?.getD undef= .int .i64 o:=by{simpa[Act.eval]using(aD 5 (by kernel_rfl)).2};unfold Oper.wp;generalize hK:(fun(b':Act) (x':World)=>∃y,_/\_)=K;simp only[execOp];go_simp;refine(hpl x).mono ?_;rintro e w' ⟨rfl,fQ⟩;subst w';exact⟨hdf.out,rfl,fB hA⟩};{have e10:b.tmps[10]?.getD undef= .agg cs:=by{simpa[Act.eval]using(aD 3 (by kernel_rfl)).2};exact absurd rfl (aD 6 (by kernel_rfl)).1};all_goals(unfold Oper.wp;generalize hK:(fun(b':Act) (x':World)=>∃y,_/\_)=K;simp only[execOp];go_simp;rw[←hK];exact⟨_,rfl,bK hA,⟨by decide,rfl⟩,fun i z h=>h⟩)};intro b x hA hF hb;exact absurd rfl (hF 6 (by decide)).1
end
theorem vz {P:Program}{ops:Array Oper}{rest:List Oper}{o:Oper}{a:Act}{w:World}{Q:Exit->Act->World->Prop}(hgd:o.guard=none)(ty:TypeId)(x y:Operand)(ho:o.op= .store ty x y)(g:Nat)(hx:a.eval x= .pointer (some ⟨g,0,none⟩))(ws:List Value)(hy:a.eval y= .agg ws.toArray)(t:TypeId)(vs tl:List Value)(hg:bz w g t (vs++tl))(hi:(P.info? ty).map (·.size)=some ws.length)(hl:vs.length=ws.length)(h1:∀v∈ws,v.oneCell'=true)(h:∀w',bz w' g t (ws++tl)->w.grownBy w' (some g)->wpList P ops Q rest (a.put o.dst undef) w'):wpList P ops Q (o::rest) a w:=by refine wpList_plain hgd fun K hK=>?_;obtain⟨w',hrun,hA,hgr⟩:=p9 (P:=P) w g t ty vs ws tl hg hi hl h1;unfold Oper.wp execOp;simp only[ho,hx,hy,Instr.storeAt,Instr.sureAddr,Sem.run_bind,Sem.run_pure,Result.andThen_ok,hrun];exact hK _ _ (h w' hA hgr)
section
variable {c : PC} {q : KK} {aB : Int} {pile loc mem : List Int} {ls : List Mn.Lb} {b : Int} {W W' : World}
theorem Jg (a o v:Int)(ha:Wd.ok a=true)(hv:Wd.ok v=true)(hb:∀j,0<=mem.getD j 0/\mem.getD j 0<=255)(h:Mm.there a o=true)(K:KM c q aB pile loc mem ls b W):Calls Tryz.prog 112 #[.pointer (some ⟨c.P,0,none⟩), .int .u32 a, .int .i64 o, .int .u32 v] W fun e w'=>e= .returned (.tuple #[])/\KM c q aB pile loc (Mm.jm mem (a+o).toNat v 4) ls b w'/\bL W w':=by obtain⟨i1,i2,i3,i4⟩:=Mm.ji.1 h;obtain⟨kk,hk⟩:∃kk:Nat,a+o=kk:=⟨(a+o).toNat,by omega⟩;have Ym:kk+4<=64:=by{omega};obtain⟨mm,hmm⟩:∃mm,Mm.jm mem (a+o).toNat v 4=mm:=⟨_,rfl⟩;rw[hmm];have mQ:mm.length=64:=by{rw[←hmm,Mm.kS];exact K.ml};have HML:=aa (ai mQ K.ml);have hld:∀x:World,Calls Tryz.prog 138 #[.agg (mem.map bv).toArray, .int .i64 (a+o), .int .u32 v] x fun e w'=>e= .returned (.agg (mm.map bv).toArray)/\Below x.heap.size x w':=fun x=>by{have:=Jj mem K.ml hb kk Ym v (Wd.aP.1 hv).1 (Wd.aP.1 hv).2 x;rw[←hmm,hk,az];exact this};have hpl:=fun x:World=>pU a o ha h x;obtain⟨AA,bH⟩:∃AA:Bool->World->Prop,AA=fun _ x=>Below W.heap.size W x/\KM c q aB pile loc mem ls b x:=⟨_,rfl⟩;have jT:AA false W.drew:=by{rw[bH];exact⟨(Below.refl _ _).drew,K.kept (Below.refl _ _).drew⟩};have Gd:∀{t:Bool}{x:World},AA t x->(Instr.loadAt 86 (.pointer (some ⟨c.P,0,none⟩))).run Tryz.prog x= .ok (.agg (mem.map bv).toArray) x:=fun h=>by{rw[bH]at h;exact Hf h.2};have hAk:∀{t t':Bool}{x x':World},AA t x->Below x.heap.size x x'->AA t' x':=fun h hB=>by{rw[bH]at h ⊢;exact⟨h.1.trans (hB.mono h.1.size),h.2.kept hB⟩};have fB:∀{t:Bool}{x:World},AA t x->Below W.heap.size W x/\KM c q aB pile loc mem ls b x:=fun h=>by{rw[bH]at h;exact h};obtain⟨cs,hcs⟩:∃cs,(mem.map bv).toArray=cs:=⟨_,rfl⟩;rw[hcs]at Gd;rw[hcs]at hld;obtain⟨ds,hds⟩:∃ds,mm.map bv=ds:=⟨_,rfl⟩;rw[hds]at hld;have HDS:=aa hds;clear hk hmm mQ hds;clear bH hcs K hb;go_enter Tryz.func112,Tryz.ntmps112;go_wp2_with fail;refine bC 12 [8,9,10,11,12,13,14,15,16,17,18,19] 100 AA (fun j y _=>y=[.pointer (some ⟨c.P,0,none⟩), .pointer (some ⟨c.P,0,none⟩), .pointer (some ⟨c.P,0,none⟩), .pointer (some ⟨c.P,0,none⟩), .agg cs, .int .u32 a, .int .i64 o, .int .i64 (a+o), .int .u32 v, .agg ds.toArray, .pointer (some ⟨c.P,0,none⟩), .pointer (some ⟨c.P,0,none⟩)].getD j undef) (by kernel_rfl) (by kernel_rfl) (by simp) jT ?_ ?_;{simp only[List.take_succ_cons,List.take_zero];refine⟨?_,?_,?_,?_,?_,?_,?_,?_,?_,?_,?_,?_,trivial⟩;(all_goals(intro t b x hA ht hm hfr hdf aD;replace hdf:=aa hdf));have e0:b.tmps[0]?.getD undef= .pointer (some ⟨c.P,0,none⟩):=aA (hfr 0 (by decide));rotate_left;have e0:b.tmps[0]?.getD undef= .pointer (some ⟨c.P,0,none⟩):=aA (hfr 0 (by decide));rotate_left;have e9:b.tmps[9]?.getD undef= .pointer (some ⟨c.P,0,none⟩):=aA (aD 1 (by kernel_rfl));rotate_left;have e10:b.tmps[10]?.getD undef= .pointer (some ⟨c.P,0,none⟩):=aA (aD 2 (by kernel_rfl));rotate_left;{have e11:b.tmps[11]?.getD undef= .pointer (some ⟨c.P,0,none⟩):=aA (aD 3 (by kernel_rfl));exact iG _ _ rfl _ _ (by simpa[Act.eval]using e11) (Gd hA) ⟨_,rfl,bK hA,rfl,fun i z h=>h⟩};have e1:b.tmps[1]?.getD undef= .int .u32 a:=aA (hfr 1 (by decide));rotate_left;have e2:b.tmps[2]?.getD undef= .int .i64 o:=aA (hfr 2 (by decide));rotate_left;{have e13:b.tmps[13]?.getD undef= .int .u32 a:=aA (aD 5 (by kernel_rfl));have e14:b.tmps[14]?.getD undef= .int .i64 o:=aA (aD 6 (by kernel_rfl));unfold Oper.wp;generalize hK:(fun(b':Act) (x':World)=>∃y,_/\_)=K;simp only[execOp];go_simp;refine(hpl x).mono ?_;rintro e w' ⟨rfl,fQ⟩;subst w';rw[←hK];exact⟨_,rfl,bK hA,rfl,fun i z h=>h⟩};have e3:b.tmps[3]?.getD undef= .int .u32 v:=aA (hfr 3 (by decide));rotate_left;{have e12:b.tmps[12]?.getD undef= .agg cs:=aA (aD 4 (by kernel_rfl));have e15:b.tmps[15]?.getD undef= .int .i64 (a+o):=aA (aD 7 (by kernel_rfl));have e16:b.tmps[16]?.getD undef= .int .u32 v:=aA (aD 8 (by kernel_rfl));unfold Oper.wp;generalize hK:(fun(b':Act) (x':World)=>∃y,_/\_)=K;simp only[execOp];go_simp;refine(hld x).mono ?_;rintro e w' ⟨rfl,hB⟩;rw[←hK];exact⟨_,rfl,bK (hAk hA hB),rfl,fun i z h=>h⟩};have e8:b.tmps[8]?.getD undef= .pointer (some ⟨c.P,0,none⟩):=aA (aD 0 (by kernel_rfl));rotate_left;have e18:b.tmps[18]?.getD undef= .pointer (some ⟨c.P,0,none⟩):=aA (aD 10 (by kernel_rfl));rotate_left;all_goals(unfold Oper.wp;generalize hK:(fun(b':Act) (x':World)=>∃y,_/\_)=K;simp only[execOp];go_simp;rw[←hK];exact⟨_,rfl,bK hA,rfl,fun i z h=>h⟩)};intro b x hA hF hb;have e8:b.eval (.tmp 8)= .pointer (some ⟨c.P,0,none⟩):=hF 0 (by decide);have e9:b.eval (.tmp 9)= .pointer (some ⟨c.P,0,none⟩):=hF 1 (by decide);have e10:b.eval (.tmp 10)= .pointer (some ⟨c.P,0,none⟩):=hF 2 (by decide);have e11:b.eval (.tmp 11)= .pointer (some ⟨c.P,0,none⟩):=hF 3 (by decide);have e12:b.eval (.tmp 12)= .agg cs:=hF 4 (by decide);have e13:b.eval (.tmp 13)= .int .u32 a:=hF 5 (by decide);have e14:b.eval (.tmp 14)= .int .i64 o:=hF 6 (by decide);have e15:b.eval (.tmp 15)= .int .i64 (a+o):=hF 7 (by decide);have e16:b.eval (.tmp 16)= .int .u32 v:=hF 8 (by decide);have e17:b.eval (.tmp 17)= .agg ds.toArray:=hF 9 (by decide);have e18:b.eval (.tmp 18)= .pointer (some ⟨c.P,0,none⟩):=hF 10 (by decide);have e19:b.eval (.tmp 19)= .pointer (some ⟨c.P,0,none⟩):=hF 11 (by decide);simp only[List.foldl,e8,e9,e10,e11,e12,e13,e14,e15,e16,e17,e18,e19]at hb;clear hF e8 e9 e10 e11 e12 e13 e14 e15 e16 e17 e18 e19;subst hb;simp only[List.drop_succ_cons,List.drop_zero];go_simp;have hA1:AA false x:=by{simpa using hA};clear hA;have hKx:=(fB hA1).2;refine vz rfl _ _ _ rfl c.P rfl ds rfl _ (mem.map bv) _ hKx.pb (by rw[←HDS.out,List.length_map,HML.out.1];exact mq) (by rw[←HDS.out,List.length_map,List.length_map,HML.out.1,HML.out.2]) (by rw[←HDS.out];exact Me) ?_;intro w' hA' hg';rw[←HDS.out]at hA';obtain⟨r1,r2⟩:=hKx.Kc hg' HML.out.1 hA';have HF:=aa (ai r1 ((bL.below (fB hA1).1).trans r2));clear r1 r2 hKx hA' hg' hA1;go_wp2;(try simp only[Exit.inBlock,Exit.then]);exact bodyPost_end (results_none rfl _ _ _) rfl ⟨rfl,HF.out⟩
theorem Jf (a o v:Int)(ha:Wd.ok a=true)(hv:Wd.ok v=true)(hb:∀j,0<=mem.getD j 0/\mem.getD j 0<=255)(h:Mm.there a o=false)(K:KM c q aB pile loc mem ls b W):Calls Tryz.prog 112 #[.pointer (some ⟨c.P,0,none⟩), .int .u32 a, .int .i64 o, .int .u32 v] W fun e w'=>e=nX 3/\Below W.heap.size W w':=by have hpl:=fun x:World=>pY a o ha h x;obtain⟨AA,bH⟩:∃AA:Bool->World->Prop,AA=fun _ x=>Below W.heap.size W x/\KM c q aB pile loc mem ls b x:=⟨_,rfl⟩;have jT:AA false W.drew:=by{rw[bH];exact⟨(Below.refl _ _).drew,K.kept (Below.refl _ _).drew⟩};have Gd:∀{t:Bool}{x:World},AA t x->(Instr.loadAt 86 (.pointer (some ⟨c.P,0,none⟩))).run Tryz.prog x= .ok (.agg (mem.map bv).toArray) x:=fun h=>by{rw[bH]at h;exact Hf h.2};have hAk:∀{t t':Bool}{x x':World},AA t x->Below x.heap.size x x'->AA t' x':=fun h hB=>by{rw[bH]at h ⊢;exact⟨h.1.trans (hB.mono h.1.size),h.2.kept hB⟩};have fB:∀{t:Bool}{x:World},AA t x->Below W.heap.size W x/\KM c q aB pile loc mem ls b x:=fun h=>by{rw[bH]at h;exact h};obtain⟨cs,hcs⟩:∃cs,(mem.map bv).toArray=cs:=⟨_,rfl⟩;rw[hcs]at Gd;clear bH hcs K hb;go_enter Tryz.func112,Tryz.ntmps112;go_wp2_with fail;refine bC 12 [8,9,10,11,12,13,14,15,16,17,18,19] 100 AA (fun j y _=>j≠7/\y=[.pointer (some ⟨c.P,0,none⟩), .pointer (some ⟨c.P,0,none⟩), .pointer (some ⟨c.P,0,none⟩), .pointer (some ⟨c.P,0,none⟩), .agg cs, .int .u32 a, .int .i64 o, .int .i64 (a+o), .int .u32 v,undef, .pointer (some ⟨c.P,0,none⟩), .pointer (some ⟨c.P,0,none⟩)].getD j undef) (by kernel_rfl) (by kernel_rfl) (by simp) jT ?_ ?_;{simp only[List.take_succ_cons,List.take_zero];refine⟨?_,?_,?_,?_,?_,?_,?_,?_,?_,?_,?_,?_,trivial⟩;(all_goals(intro t b x hA ht hm hfr hdf aD;replace hdf:=aa hdf));have e0:b.tmps[0]?.getD undef= .pointer (some ⟨c.P,0,none⟩):=aA (hfr 0 (by decide));rotate_left;have e0:b.tmps[0]?.getD undef= .pointer (some ⟨c.P,0,none⟩):=aA (hfr 0 (by decide));rotate_left;have e9:b.tmps[9]?.getD undef= .pointer (some ⟨c.P,0,none⟩):=by{simpa[Act.eval]using(aD 1 (by kernel_rfl)).2};rotate_left;have e10:b.tmps[10]?.getD undef= .pointer (some ⟨c.P,0,none⟩):=by{simpa[Act.eval]using(aD 2 (by kernel_rfl)).2};rotate_left;{have e11:b.tmps[11]?.getD undef= .pointer (some ⟨c.P,0,none⟩):=by{simpa[Act.eval]using(aD 3 (by kernel_rfl)).2};exact iG _ _ rfl _ _ (by simpa[Act.eval]using e11) (Gd hA) ⟨_,rfl,bK hA,⟨by decide,rfl⟩,fun i z h=>h⟩};have e1:b.tmps[1]?.getD undef= .int .u32 a:=aA (hfr 1 (by decide));rotate_left;have e2:b.tmps[2]?.getD undef= .int .i64 o:=aA (hfr 2 (by decide));rotate_left;{have e13:b.tmps[13]?.getD undef= .int .u32 a:=by{simpa[Act.eval]using(aD 5 (by kernel_rfl)).2};have e14:b.tmps[14]?.getD undef= .int .i64 o:=by{simpa[Act.eval]using(aD 6 (by kernel_rfl)).2};unfold Oper.wp;generalize hK:(fun(b':Act) (x':World)=>∃y,_/\_)=K;simp only[execOp];go_simp;refine(hpl x).mono ?_;rintro e w' ⟨rfl,fQ⟩;subst w';exact⟨hdf.out,rfl,(fB hA).1⟩};have e3:b.tmps[3]?.getD undef= .int .u32 v:=aA (hfr 3 (by decide));rotate_left;{have e12:b.tmps[12]?.getD undef= .agg cs:=by{simpa[Act.eval]using(aD 4 (by kernel_rfl)).2};exact absurd rfl (aD 7 (by kernel_rfl)).1};have e8:b.tmps[8]?.getD undef= .pointer (some ⟨c.P,0,none⟩):=by{simpa[Act.eval]using(aD 0 (by kernel_rfl)).2};rotate_left;have e18:b.tmps[18]?.getD undef= .pointer (some ⟨c.P,0,none⟩):=by{simpa[Act.eval]using(aD 10 (by kernel_rfl)).2};rotate_left;all_goals(unfold Oper.wp;generalize hK:(fun(b':Act) (x':World)=>∃y,_/\_)=K;simp only[execOp];go_simp;rw[←hK];exact⟨_,rfl,bK hA,⟨by decide,rfl⟩,fun i z h=>h⟩)};intro b x hA hF hb;exact absurd rfl (hF 7 (by decide)).1
end
theorem cell_kept {W W':World}{p:Addr}{v:Value}(hB:Below W.heap.size W W')(h:W.cell? p=some v):W'.cell? p=some v:=(hB.cell (p:=p) (block_lt_of_cell h)).trans h
theorem aG.xY (xs:List (Int×Int))(E:List Int)(a:Int):∀k,(aG.eG xs E a k).length<=k
 |0=>Nat.le_refl _
 | k+1=>by
   have:=aG.xY xs E a k
   unfold aG.eG
   split
   · rw[List.length_cons];omega
   · omega
theorem mH (c:WC)(W0 w:World)(mem:List Int)(aI code:Int)(T:VU c W0)(K:WK c W0 w mem aI code)(k:Nat)(hk:k<c.fs.length)(at':Nat)(hat:at'<(Mn.fn c.fs k).b.length)(dp:Int)(h0:0<=dp)(h9:dp<=99)
   (hJ:∀t:Nat,dp.toNat<(aG.eG (Mn.fn c.fs k).b (aG.ends (Mn.fn c.fs k).b) at' at').length->(aG.eG (Mn.fn c.fs k).b (aG.ends (Mn.fn c.fs k).b) at' at').getD dp.toNat (-1)=(t:Int)->0<=(Mn.gV c.fs k).getD t 0):
   Calls Tryz.prog 95 #[.pointer (some ⟨c.B,0,none⟩), .int .i64 k, .int .i64 at', .int .i64 dp] w fun e w'=>
     e= .returned (.tuple #[.int .i64 (Mn.Lg (Mn.fn c.fs k) (aG.ends (Mn.fn c.fs k).b) (Mn.gV c.fs k) at' dp).1, .int .i64 (Mn.Lg (Mn.fn c.fs k) (aG.ends (Mn.fn c.fs k).b) (Mn.gV c.fs k) at' dp).2.1, .int .i64 (Mn.Lg (Mn.fn c.fs k) (aG.ends (Mn.fn c.fs k).b) (Mn.gV c.fs k) at' dp).2.2])/\Below w.heap.size w w':=by
 have hA:=T.val.acc k hk
 have hfo:=Mn.gD T.val hk
 have hall:St.bJ (Mn.fn c.fs k).b=true:=by
   have:=Md.aV T.val.all hk
   simp only[Md.lZ,aj]at this
   exact this.2.2.2.2
 obtain⟨F,hF⟩:∃F,Mn.fn c.fs k=F:=⟨_,rfl⟩
 obtain⟨Hs,hH⟩:∃Hs,Mn.gV c.fs k=Hs:=⟨_,rfl⟩
 have hfl:=og (T.fl w K.dI) hk
 have hte:=T.te w K.dI k hk
 have hth:=T.th w K.dI k hk
 simp only[hF,hH]at hfl hte hth hA hfo hall hat hJ ⊢
 obtain⟨E,hE⟩:∃E,aG.ends F.b=E:=⟨_,rfl⟩
 rw[hE]at hte hA ⊢
 simp only[hE]at hJ
 obtain⟨f0,f1,f2,ba,bl,bc,f3,hsl⟩:=hfl
 obtain⟨ea,em,ec,e0,wy⟩:=hte
 obtain⟨ha,hm,hc,q0,Yn⟩:=hth
 have hbl:F.b.length=bl:=hsl.1
 have hem:em=bl:=by rw[←hbl,←wy.1,hA.vo.lE]
 have hhm:hm=bl:=by rw[←hbl,←Yn.1,hA.lH]
 subst em
 subst hm
 have hat':at'<bl:=by omega
 have hLen:bl<=80:=by have:=hfo.2.2.2.2.2;omega
 have HBL:=aa (ai hbl hfo)
 clear hbl hfo hat
 have hbx:=K.box
 have b0:=(hbx.2 0 _ rfl).1
 have b2:=(hbx.2 2 _ rfl).1
 have b3:=(hbx.2 3 _ rfl).1
 have hn4:c.fs.length<=4:=T.val.len.2
 have MR:(k:Int)<(c.fs.length:Int):=by omega
 clear hbx
 go_enter Tryz.func95,Tryz.ntmps95
 go_wp2_with fail
 refine(vw ba bl bc F.b hLen hall ea ec E at' hat' w hsl wy).mono ?_
 rintro e w1 ⟨v1,rfl,hoi,hB1⟩
 dsimp only
 obtain⟨a1,c1,rfl,Gf⟩:=hoi.slice
 have hal:=aG.xY F.b E at' at'
 obtain⟨A,hAr⟩:∃A,aG.eG F.b E at' at'=A:=⟨_,rfl⟩
 have harm:=fun i hi=>aG.U0 (i:=i) hA.vo hAr hi
 have hmem:=fun x hx=>aG.jJ (xs:=F.b) (E:=E) (at':=at') at' x hx
 rw[hAr]at Gf hal hmem ⊢
 simp only[hAr]at hJ
 have g0:=cell_kept hB1 b0
 have g2:=cell_kept hB1 b2
 have g3:=cell_kept hB1 b3
 have k2:=cell_kept hB1 f2
 have k3:=cell_kept hB1 f3
 have ke:=cell_kept hB1 e0
 have kq:=cell_kept hB1 q0
 have hsl1:=hsl.kept hB1
 have hE1:=wy.kept hB1
 have hH1:=Yn.kept hB1
 have HB:=aa hB1
 have HR:Hid (∀x,Mn.Lg F E Hs at' dp=x->x=Mn.Lg F E Hs at' dp):=fun x h=>h.symm
 clear hoi b0 b2 b3 f0 f1 f2 f3 e0 q0 hsl wy Yn hB1 HR
 by_cases hlt:dp.toNat<A.length
 · obtain⟨t,et,htl,hEt,-⟩:=harm dp.toNat hlt
   have hge:¬((A.length:Int)<=dp):=by omega
   have htn:t<bl:=by omega
   obtain⟨x,hx⟩:∃x,A.getD dp.toNat 0=x:=⟨_,rfl⟩
   have hxt:A.getD dp.toNat 0=(t:Int):=by
     rw[←et]
     unfold aG.aB
     rw[af,af,ag hlt]
     rfl
   have hdt:A.getD dp.toNat (-1)=(t:Int):=et
   have cA:∃ab ao,a1=some ⟨ab,ao,none⟩/\w1.cell? ⟨ab,ao+dp.toNat,none⟩=some (.int .i64 t):=by
     obtain⟨-,-,h3|⟨b,o,rfl,-,hh⟩⟩:=Gf
     · omega
     · exact⟨b,o,rfl,by rw[hh dp.toNat hlt,hxt]⟩
   obtain⟨ab,ao,rfl,cA⟩:=cA
   have cE:∃b o,ea=some ⟨b,o,none⟩/\w1.cell? ⟨b,o+t,none⟩=some (.int .i64 (aG.aB E t)):=by
     obtain⟨hl,-,h3|⟨b,o,rfl,-,hh⟩⟩:=hE1
     · omega
     · refine⟨b,o,rfl,?_⟩
       rw[hh t htn]
       unfold aG.aB
       rw[af,af,ag (by omega)]
       rfl
   obtain⟨eb,eo,rfl,cE⟩:=cE
   have cH:∃b o,ha=some ⟨b,o,none⟩/\w1.cell? ⟨b,o+t,none⟩=some (.int .i64 (Hs.getD t 0)):=by
     obtain⟨hl,-,h3|⟨b,o,rfl,-,hh⟩⟩:=hH1
     · omega
     · exact⟨b,o,rfl,hh t htn⟩
   obtain⟨hb',ho',rfl,cH⟩:=cH
   have cS:∃b o,ba=some ⟨b,o,none⟩/\w1.cell? ⟨b,o+t*2,none⟩=some (.int .i64 (aG.op F.b t))/\w1.cell? ⟨b,o+t*2+1,none⟩=some (.int .i64 (Hg.arg F.b t)):=by
     obtain⟨hl,-,h3|⟨b,o,rfl,-,hh⟩⟩:=hsl1
     · omega
     · exact⟨b,o,rfl,(hh t htn).1,(hh t htn).2⟩
   obtain⟨sb,so,rfl,cS1,cS2⟩:=cS
   have HL:Hid (Mn.Lg F E Hs at' dp=if aG.op F.b t=9 then((t:Int)+1,Hs.getD t 0,0)else if aG.op F.b t=10 then(aG.aB E t+1,Hs.getD t 0-1,Hg.arg F.b t)else(aG.aB E t+1,Hs.getD t 0,Hg.arg F.b t)):=by
     show _=_
     unfold Mn.Lg
     rw[hAr,ax hlt]
     simp only[hdt,az]
   have hEb:aG.aB E t<bl:=by
     have h1:=hA.vo.f3 t (by rw[HBL.out.1];exact htn) (by omega)
     have:=HBL.out.1
     omega
   have hHb:Hs.getD t 0<=20:=hA.dx t (by rw[HBL.out.1];exact htn)
   have hHl:0<=Hs.getD t 0:=hJ t hlt hdt
   obtain⟨p,hp⟩:∃p,aG.op F.b t=p:=⟨_,rfl⟩
   obtain⟨q,hq⟩:∃q,Hg.arg F.b t=q:=⟨_,rfl⟩
   obtain⟨u,hu⟩:∃u,Hs.getD t 0=u:=⟨_,rfl⟩
   obtain⟨z,hz⟩:∃z,aG.aB E t=z:=⟨_,rfl⟩
   rw[hp,hq,hu,hz]at HL
   rw[hp]at cS1
   rw[hq]at cS2
   rw[hu]at cH hHb hHl
   rw[hz]at cE hEb hEt
   obtain⟨dn,hdn⟩:=Int.eq_ofNat_of_zero_le h0
   subst hdn
   rw[az]at cA hlt
   have hdZ:(dn:Int)<(A.length:Int):=by omega
   have htZ:(t:Int)<(bl:Int):=by omega
   have hAl:=hal
   obtain⟨al,ade⟩:∃al,A.length=al:=⟨_,rfl⟩
   rw[ade]at hdZ hlt hge hAl ⊢
   clear hmem harm Gf hsl1 hE1 hH1 hx hxt hdt et hp hq hu hz hal ade hAr hA hE hF hH hall x hJ
   by_cases h9':p=9
   · subst h9'
     go_wp2
     go_ret3
     exact⟨by rw[HL.out];rfl,HB.out⟩
   · by_cases h10:p=10
     · subst h10
       go_wp2
       go_quiet (fail)
       go_wp2
       go_ret3
       exact⟨by rw[HL.out];rfl,HB.out.trans ((below_drewN w1 _).mono HB.out.size)⟩
     · have e9:(p==9)=false:=by simpa using h9'
       have e10:(p==10)=false:=by simpa using h10
       go_wp2
       go_quiet (fail)
       go_wp2
       go_ret3
       exact⟨by rw[HL.out,ak h9',ak h10];rfl,HB.out.trans ((below_drewN w1 _).mono HB.out.size)⟩
 · have hge:(A.length:Int)<=dp:=by omega
   have HL:Hid (Mn.Lg F E Hs at' dp=(-1,0,F.g)):=by
     show _=_
     unfold Mn.Lg
     rw[hAr,ak hlt]
   clear hmem harm Gf hsl1 hE1 hH1 hJ
   go_wp2
   go_quiet (fail)
   go_wp2
   go_ret3
   exact⟨by rw[HL.out];rfl,HB.out.trans ((below_drewN w1 _).mono HB.out.size)⟩
theorem E8 (b:Bool)(w:World):Calls Tryz.prog 91 #[.bool b] w fun e w'=>e= .returned (.int .i64 (if b=true then 1 else 0))/\w'=w:=by cases b;all_goals go_enter Tryz.func91,Tryz.ntmps91;go_wp2;go_ret;exact⟨rfl,rfl⟩
theorem dF (b off n cap:Nat)(xs:List Int)(hn:n<=1048576)(w:World)(hs:IL w (some ⟨b,off,none⟩) n xs):Calls Tryz.prog 89 #[.slice (some ⟨b,off,none⟩) n cap] w fun e w'=>∃g c,e= .returned (.slice (some ⟨g,0,none⟩) n c)/\w.heap.size<=g/\g<w'.heap.size/\w'.ownsRow w.heap.size 2 1 (.slice (some ⟨g,0,none⟩) n c) n (xs.map iv)/\Below w.heap.size w w':=by obtain⟨i0,hi,hz0,hz1,hz2⟩:=info_parts bW;have hl:=hs.1;have HN:Hid (∀(o:Obj) j u,(xs.map iv)[j]?=some u->(w.alloc o).cell? ((⟨b,off,none⟩:Addr).add j)=some u):=by{intro o j u hu;have hj:j<n:=by{have:=(List.getElem?_eq_some_iff.1 hu).1;rwa [List.length_map,hl]at this};obtain⟨-,-,h3|⟨b',off',e,hb,hx⟩⟩:=hs;{omega};simp only[ae,Addr.mk.injEq,and_true]at e;obtain⟨rfl,rfl⟩:=e;rw[gK (by rw[hl];exact hj)]at hu;cases hu;(have hadd:(⟨b,off,none⟩:Addr).add j=⟨b,off+j,none⟩:=by unfold Addr.add;split<;>simp_all);rw[hadd];exact(((Below.refl _ w).alloc (Nat.le_refl _) o).cell (p:=⟨b,off+j,none⟩) hb).trans (hx j hj)};have HL:=aa hl;have hem:=OI.empty w;have HE:=aa hem;clear hl hem hs;go_enter Tryz.func89,Tryz.ntmps89;go_wp2_with(at_builtin;refine wpList_append_own _ rfl _ _ 27 rfl w.heap.size 2 i0 (.int .i64 0) 1 8 Tryz.underlying27 hi hz0 hz1 hz2 rfl (by decide) _ _ _ rfl HE.out ⟨b,off,none⟩ n cap (xs.map iv) rfl (by rw[List.length_map,HL.out,Nat.mul_one]) (HN.out _) jv (by simp only[maxLen,List.length_nil];omega) (by simp only[List.length_nil];omega) (by simp) ?_;intro v' wA hown' hgrow hnn);go_ret;rcases hown'.2 with⟨rfl,h0⟩|⟨g',cap',cur,rfl,_⟩;{exact absurd (hnn.1 rfl).1 (fun h=>by cases h)};have hlt:=hown'.lt g' rfl;have e:([]:List Int).length+n=n:=by{simp};refine⟨g',cap',congrArg (fun m=>Ending.returned (.slice (some ⟨g',0,none⟩) m cap')) e,hlt.1,hlt.2,?_,?_⟩;{simpa using hown'};exact((Below.refl _ w).alloc (Nat.le_refl _) _).grown hgrow (by simp) (fun j ej=>by cases ej;exact Nat.le_refl _)
structure CC where
 w:World
 k:Nat
 d:Nat
 fb:Nat
 gl:Nat
 cl:Nat
 bb:Nat
 bo:Nat
 bl:Nat
 bc:Nat
 R:Mn.Rs
structure CQ (c:WC)(W0:World)(q:CC):Prop where
 dE:VU c W0
 lt:q.k<c.fs.length
 dp:q.d<12
 dI:mW c W0 q.w
 cel:q.w.cell? ⟨c.fb,c.fo+q.k*4+3,none⟩=some (.slice (some ⟨q.bb,q.bo,none⟩) q.bl q.bc)
 iK:c.B<q.w.heap.size
 JV:c.M<q.w.heap.size
 len:(Mn.fn c.fs q.k).b.length=q.bl
 mR:q.bl<=80
structure CI (c:WC)(W0:World)(q:CC)(at':Nat)(pile loc mem:List Int)(n gp cp:Nat)(wr:World):Prop where
 nb:n<=3000
 wk:WK c W0 wr mem n 0
 fx:bG wr q.fb [.int .i64 (Mn.fn c.fs q.k).a, .int .i64 (Mn.fn c.fs q.k).l, .int .i64 (Mn.fn c.fs q.k).g, .slice (some ⟨q.bb,q.bo,none⟩) q.bl q.bc]
 lr:wr.ownsRow (q.fb+1) 2 1 (.slice (some ⟨q.gl,0,none⟩) loc.length q.cl) loc.length (loc.map iv)
 pr:wr.ownsRow (q.gl+1) 2 1 (.slice (some ⟨gp,0,none⟩) pile.length cp) pile.length (pile.map iv)
 n4:q.w.heap.size<=q.fb
 dI:mW c q.w wr
 good:Mn.Good c.fs (Mn.fn c.fs q.k) (Mn.gV c.fs q.k) at' pile loc mem
 run:Mn.run c.fs (n+1) n q.d q.k at' pile loc mem=q.R
structure CF (c:WC)(W0:World)(q:CC)(pile mem:List Int)(n gp cp:Nat)(wr:World):Prop where
 wk:WK c W0 wr mem n 0
 fx:bG wr q.fb [.int .i64 (Mn.fn c.fs q.k).a, .int .i64 (Mn.fn c.fs q.k).l, .int .i64 (Mn.fn c.fs q.k).g, .slice (some ⟨q.bb,q.bo,none⟩) q.bl q.bc]
 pr:wr.ownsRow (q.gl+1) 2 1 (.slice (some ⟨gp,0,none⟩) pile.length cp) pile.length (pile.map iv)
 dI:mW c q.w wr
 len:(pile.length:Int)=(Mn.fn c.fs q.k).g
 run:q.R= .done (Mn.gives (Mn.fn c.fs q.k) pile) mem n
theorem mI {c:WC}{W0:World}{q:CC}{wr:World}(Q:CQ c W0 q)(h:mW c W0 wr):SL wr (some ⟨q.bb,q.bo,none⟩) q.bl (Mn.fn c.fs q.k).b:=by obtain⟨-,-,-,ba,bl,bc,e,hsl⟩:=og (Q.dE.fl wr h) Q.lt;have e1:wr.cell? ⟨c.fb,c.fo+q.k*4+3,none⟩=q.w.cell? ⟨c.fb,c.fo+q.k*4+3,none⟩:=by{refine World.cell?_of_block (a:=⟨c.fb,c.fo+q.k*4+3,none⟩) ?_;obtain⟨f1,f2,f3⟩:=Q.dE.fbn;rw[h.blk c.fb f1 f2 f3,Q.dI.blk c.fb f1 f2 f3]};rw[e1,Q.cel]at e;simp only[ae,Value.slice.injEq]at e;obtain⟨rfl,rfl,rfl⟩:=e;exact hsl
theorem CI.next {c:WC}{W0:World}{q:CC}{at':Nat}{pile loc mem:List Int}{m gp cp:Nat}{wr:World}(Q:CQ c W0 q)(h:CI c W0 q at' pile loc mem (m+1) gp cp wr){a2:Nat}{p2 l2 m2:List Int}(hs:Mn.aY c.fs q.k at' pile loc mem= .next a2 p2 l2 m2):Mn.Good c.fs (Mn.fn c.fs q.k) (Mn.gV c.fs q.k) a2 p2 l2 m2/\Mn.run c.fs (m+1) m q.d q.k a2 p2 l2 m2=q.R:=by have F:Mn.yt c.fs (Mn.fn c.fs q.k) (Mn.gV c.fs q.k) at' loc mem (Mn.aY c.fs q.k at' pile loc mem):=Mn.jk (Md.aV Q.dE.val.all Q.lt) Q.dE.val.all (Q.dE.val.acc q.k Q.lt) h.good;rw[hs]at F;exact⟨F,by rw[←h.run,Mn.gZ hs]⟩
theorem CI.fin {c:WC}{W0:World}{q:CC}{at':Nat}{pile loc mem:List Int}{m gp cp:Nat}{wr:World}(Q:CQ c W0 q)(h:CI c W0 q at' pile loc mem (m+1) gp cp wr){p2:List Int}(hs:Mn.aY c.fs q.k at' pile loc mem= .fin p2):(p2.length:Int)=(Mn.fn c.fs q.k).g/\q.R= .done (Mn.gives (Mn.fn c.fs q.k) p2) mem m:=by have F:Mn.yt c.fs (Mn.fn c.fs q.k) (Mn.gV c.fs q.k) at' loc mem (Mn.aY c.fs q.k at' pile loc mem):=Mn.jk (Md.aV Q.dE.val.all Q.lt) Q.dE.val.all (Q.dE.val.acc q.k Q.lt) h.good;rw[hs]at F;exact⟨F.1,by rw[←h.run,Mn.kr hs]⟩
theorem CI.halt {c:WC}{W0:World}{q:CC}{at':Nat}{pile loc mem:List Int}{m gp cp:Nat}{wr:World}(h:CI c W0 q at' pile loc mem (m+1) gp cp wr){e:Int}(hs:Mn.aY c.fs q.k at' pile loc mem= .halt e):q.R= .stop e mem m:=by rw[←h.run,Mn.run_halt hs]
structure CO (c:WC)(q:CC)(pile loc:List Int)(gp cp:Nat)(wr:World):Prop where
 fx:bG wr q.fb [.int .i64 (Mn.fn c.fs q.k).a, .int .i64 (Mn.fn c.fs q.k).l, .int .i64 (Mn.fn c.fs q.k).g, .slice (some ⟨q.bb,q.bo,none⟩) q.bl q.bc]
 lr:wr.ownsRow (q.fb+1) 2 1 (.slice (some ⟨q.gl,0,none⟩) loc.length q.cl) loc.length (loc.map iv)
 pr:wr.ownsRow (q.gl+1) 2 1 (.slice (some ⟨gp,0,none⟩) pile.length cp) pile.length (pile.map iv)
theorem CI.own {c:WC}{W0:World}{q:CC}{at':Nat}{pile loc mem:List Int}{n gp cp:Nat}{wr:World}(h:CI c W0 q at' pile loc mem n gp cp wr):CO c q pile loc gp cp wr:=⟨h.fx,h.lr,h.pr⟩
theorem CO.dN {c:WC}{q:CC}{pile loc:List Int}{gp cp:Nat}{W W':World}{row:Option Nat}(h:CO c q pile loc gp cp W)(hg:W.grownBy W' row)(h1:row≠some q.fb)(h2:row≠some q.gl)(h3:row≠some gp):CO c q pile loc gp cp W':=
 ⟨h.fx.dN hg h1,h.lr.kept hg (.inr (by simpa[Value.ownBlock]using Ne.symm h2)),h.pr.kept hg (.inr (by simpa[Value.ownBlock]using Ne.symm h3))⟩
theorem CO.kept {c:WC}{q:CC}{pile loc:List Int}{gp cp:Nat}{W W':World}(h:CO c q pile loc gp cp W)(hB:Below W.heap.size W W'):CO c q pile loc gp cp W':=
 h.dN (row:=none) ⟨hB.os,hB.tape,hB.output,hB.size,fun k hk _=>hB.block k hk⟩ (by simp) (by simp) (by simp)
theorem CO.ord {c:WC}{q:CC}{pile loc:List Int}{gp cp:Nat}{W:World}(h:CO c q pile loc gp cp W):q.fb<q.gl/\q.gl<gp/\gp<W.heap.size:=by have h1:=h.lr.lt q.gl rfl;have h2:=h.pr.lt gp rfl;omega
theorem CO.app {c:WC}{q:CC}{pile loc fJ:List Int}{gp cp g' cp' N:Nat}{W W':World}(h:CO c q pile loc gp cp W)(hg:W.grownBy W' (some gp))(hown:W'.ownsRow (q.gl+1) 2 1 (.slice (some ⟨g',0,none⟩) N cp') N (fJ.map iv))(hN:fJ.length=N):CO c q fJ loc g' cp' W':=by obtain⟨o1,o2,o3⟩:=h.ord;refine⟨h.fx.dN hg (by simp only[ne_eq,ae];omega),h.lr.kept hg (.inr (by simp only[Value.ownBlock,ne_eq,ae];omega)),by rw[hN];exact hown⟩
theorem CO.cut {c:WC}{q:CC}{pile loc:List Int}{gp cp:Nat}{W:World}(h:CO c q pile loc gp cp W)(n:Nat)(hn:n<=pile.length):CO c q (pile.take n) loc gp cp W:=by refine⟨h.fx,h.lr,?_⟩;have:=gU h.pr n hn;rw[Nat.mul_one,←List.map_take]at this;rw[List.length_take,Nat.min_eq_left hn];exact this
theorem mW.grow {c:WC}{W0 W W':World}{r:Nat}(h:mW c W0 W)(hg:W.grownBy W' (some r))(hr:W0.heap.size<=r\/r=c.B\/r=c.M):mW c W0 W':=
 ⟨hg.os.trans h.os,hg.tape.trans h.tape,hg.output.trans h.out,Nat.le_trans h.size hg.size,fun i hi h1 h2=>(hg.block i (ah hi h.size) (by
   simp only[ne_eq,ae]
   rcases hr with hr|rfl|rfl
   · omega
   · exact h1
   · exact h2)).trans (h.blk i hi h1 h2)⟩
theorem WK.dN {c:WC}{W0 W W':World}{mem:List Int}{aI code:Int}{r:Nat}(h:WK c W0 W mem aI code)(hg:W.grownBy W' (some r))(hr:W0.heap.size<=r)(h1:r≠c.B)(h2:r≠c.M):WK c W0 W' mem aI code:=
 ⟨h.dI.grow hg (.inl hr),h.box.dN hg (by simpa using h1),h.row.kept hg (.inr (by simpa[Value.ownBlock]using Ne.symm h2))⟩
structure CM (c:WC)(W0:World)(q:CC)(pile loc mem:List Int)(n gp cp:Nat)(wr:World):Prop where
 wk:WK c W0 wr mem n 0
 co:CO c q pile loc gp cp wr
 n4:q.w.heap.size<=q.fb
 dI:mW c q.w wr
theorem CM.kept {c:WC}{W0:World}{q:CC}{pile loc mem:List Int}{n gp cp:Nat}{W W':World}(h:CM c W0 q pile loc mem n gp cp W)(hB:Below W.heap.size W W'):CM c W0 q pile loc mem n gp cp W':=
 ⟨h.wk.kept hB,h.co.kept hB,h.n4,h.dI.trans (mW.below hB)⟩
theorem CM.cut {c:WC}{W0:World}{q:CC}{pile loc mem:List Int}{n gp cp:Nat}{W:World}(h:CM c W0 q pile loc mem n gp cp W)(k:Nat)(hk:k<=pile.length):CM c W0 q (pile.take k) loc mem n gp cp W:=⟨h.wk,h.co.cut k hk,h.n4,h.dI⟩
theorem CM.app {c:WC}{W0:World}{q:CC}{pile loc mem fJ:List Int}{n gp cp g' cp' N:Nat}{W W':World}(Q:CQ c W0 q)(h:CM c W0 q pile loc mem n gp cp W)(hg:W.grownBy W' (some gp))(hown:W'.ownsRow (q.gl+1) 2 1 (.slice (some ⟨g',0,none⟩) N cp') N (fJ.map iv))(hN:fJ.length=N):CM c W0 q fJ loc mem n g' cp' W':=by obtain⟨o1,o2,o3⟩:=h.co.ord;have h4:=h.n4;have s0:=Q.dI.size;have iB:=Q.iK;have iM:=Q.JV;exact⟨h.wk.dN hg (by omega) (by omega) (by omega),h.co.app hg hown hN,h.n4,h.dI.grow hg (.inl (by omega))⟩
theorem CI.cm {c:WC}{W0:World}{q:CC}{at':Nat}{pile loc mem:List Int}{n gp cp:Nat}{wr:World}(h:CI c W0 q at' pile loc mem n gp cp wr):CM c W0 q pile loc mem n gp cp wr:=⟨h.wk,h.own,h.n4,h.dI⟩
theorem CM.ci {c:WC}{W0:World}{q:CC}{at':Nat}{pile loc mem:List Int}{n gp cp:Nat}{wr:World}(h:CM c W0 q pile loc mem n gp cp wr)(hn:n<=3000)(hg:Mn.Good c.fs (Mn.fn c.fs q.k) (Mn.gV c.fs q.k) at' pile loc mem)(hr:Mn.run c.fs (n+1) n q.d q.k at' pile loc mem=q.R):CI c W0 q at' pile loc mem n gp cp wr:=
 ⟨hn,h.wk,h.co.fx,h.co.lr,h.co.pr,h.n4,h.dI,hg,hr⟩
theorem WK.set {c:WC}{W0 W:World}{mem:List Int}{aI code:Int}(T:VU c W0)(h:WK c W0 W mem aI code)(x:Int):WK c W0 (W.setCell ⟨c.B,6,none⟩ (.int .i64 x)) mem x code/\WK c W0 (W.setCell ⟨c.B,7,none⟩ (.int .i64 x)) mem aI x:=by
 have hr:∀o v,(W.setCell ⟨c.B,o,none⟩ v).ownsRow 0 2 1 (.slice (some ⟨c.M,0,none⟩) 64 c.Mc) 64 (mem.map iv):=fun o v=>
  h.row.kept (row:=some c.B) (aF W ⟨c.B,o,none⟩ v) (.inr (by simpa[Value.ownBlock]using Ne.symm T.ne))
 have ha:∀o v,mW c W0 (W.setCell ⟨c.B,o,none⟩ v):=fun o v=>h.dI.trans (mW.grown (aF W ⟨c.B,o,none⟩ v) (.inr (.inl rfl)))
 exact⟨⟨ha _ _,h.box.set 6 _,hr _ _⟩,⟨ha _ _,h.box.set 7 _,hr _ _⟩⟩
theorem CM.aI {c:WC}{W0:World}{q:CC}{pile loc mem:List Int}{n gp cp:Nat}{W:World}(Q:CQ c W0 q)(h:CM c W0 q pile loc mem n gp cp W)(m:Nat):CM c W0 q pile loc mem m gp cp (W.setCell ⟨c.B,6,none⟩ (.int .i64 (m:Int))):=by obtain⟨o1,o2,o3⟩:=h.co.ord;have h4:=h.n4;have iB:=Q.iK;have hg:=aF W ⟨c.B,6,none⟩ (.int .i64 (m:Int));exact⟨(h.wk.set Q.dE (m:Int)).1,h.co.dN hg (by simp only[ne_eq,ae];omega) (by simp only[ne_eq,ae];omega) (by simp only[ne_eq,ae];omega),h.n4,h.dI.grow hg (.inr (.inl rfl))⟩
namespace Mn
open Hg
variable {fs : List Fn} {k aB : Nat} {pile loc mem : List Int} {a : Int}
theorem st1 (hp:aG.op (fn fs k).b aB=1)(ha:arg (fn fs k).b aB=a):aY fs k aB pile loc mem= .next (aB+1) (pile++[a]) loc mem:=by simp only[aY,step,hp,ha,↓reduceIte]
theorem st2 (hp:aG.op (fn fs k).b aB=2)(ha:arg (fn fs k).b aB=a):aY fs k aB pile loc mem= .next (aB+1) (pile++[loc.getD a.toNat 0]) loc mem:=by simp only[aY,step,hp,ha,↓reduceIte,Int.reduceEq]
theorem st3 (hp:aG.op (fn fs k).b aB=3)(ha:arg (fn fs k).b aB=a):aY fs k aB pile loc mem= .next (aB+1) (less pile 1) (loc.set a.toNat (dx pile)) mem:=by simp only[aY,step,hp,ha,↓reduceIte,Int.reduceEq]
theorem st4 (hp:aG.op (fn fs k).b aB=4)(ha:arg (fn fs k).b aB=a):aY fs k aB pile loc mem= .next (aB+1) pile (loc.set a.toNat (dx pile)) mem:=by simp only[aY,step,hp,ha,↓reduceIte,Int.reduceEq]
theorem abG (hp:aG.op (fn fs k).b aB=5)(ha:arg (fn fs k).b aB=a)(he:Wd.dc a (under pile) (dx pile)=0):aY fs k aB pile loc mem= .next (aB+1) (less pile 2++[Wd.dv a (under pile) (dx pile)]) loc mem:=by simp only[aY,step,hp,ha,↓reduceIte,Int.reduceEq,he]
theorem abU (hp:aG.op (fn fs k).b aB=5)(ha:arg (fn fs k).b aB=a)(he:¬Wd.dc a (under pile) (dx pile)=0):aY fs k aB pile loc mem= .halt (Wd.dc a (under pile) (dx pile)):=by simp only[aY,step,hp,ha,↓reduceIte,Int.reduceEq,he]
theorem st6 (hp:aG.op (fn fs k).b aB=6)(ha:arg (fn fs k).b aB=a):aY fs k aB pile loc mem= .next (aB+1) (less pile 1++[if dx pile=0 then 1 else 0]) loc mem:=by simp only[aY,step,hp,↓reduceIte,Int.reduceEq]
theorem st7 (hp:aG.op (fn fs k).b aB=7)(ha:arg (fn fs k).b aB=a):aY fs k aB pile loc mem= .next (aB+1) (less pile 1) loc mem:=by simp only[aY,step,hp,↓reduceIte,Int.reduceEq]
theorem st8 (hp:aG.op (fn fs k).b aB=8)(ha:arg (fn fs k).b aB=a):aY fs k aB pile loc mem= .next (aB+1) pile loc mem:=by simp only[aY,step,hp,↓reduceIte,Int.reduceEq]
theorem st9 (hp:aG.op (fn fs k).b aB=9)(ha:arg (fn fs k).b aB=a):aY fs k aB pile loc mem= .next (aB+1) pile loc mem:=by simp only[aY,step,hp,↓reduceIte,Int.reduceEq]
theorem abf (hp:aG.op (fn fs k).b aB=20)(ha:arg (fn fs k).b aB=a):aY fs k aB pile loc mem= .next (aB+1) pile loc mem:=by simp only[aY,step,hp,↓reduceIte,Int.reduceEq]
theorem VV (hp:aG.op (fn fs k).b aB=10)(ha:arg (fn fs k).b aB=a)(he:¬dx pile=0):aY fs k aB pile loc mem= .next (aB+1) (less pile 1) loc mem:=by simp only[aY,step,hp,↓reduceIte,Int.reduceEq,he]
theorem Ie (hp:aG.op (fn fs k).b aB=10)(ha:arg (fn fs k).b aB=a)(he:dx pile=0):aY fs k aB pile loc mem= .next ((if 0<=aG.aB (aG.aT (fn fs k).b) aB then aG.aB (aG.aT (fn fs k).b) aB else aG.aB (aG.ends (fn fs k).b) aB).toNat+1) (less pile 1) loc mem:=by simp only[aY,step,hp,↓reduceIte,Int.reduceEq,he]
theorem abS (hp:aG.op (fn fs k).b aB=11)(ha:arg (fn fs k).b aB=a):aY fs k aB pile loc mem= .next ((aG.aB (aG.ends (fn fs k).b) aB).toNat+1) pile loc mem:=by simp only[aY,step,hp,↓reduceIte,Int.reduceEq]
theorem V7 (hp:aG.op (fn fs k).b aB=12)(ha:arg (fn fs k).b aB=a)(he:aB+1=(fn fs k).b.length):aY fs k aB pile loc mem= .fin pile:=by simp only[aY,step,hp,↓reduceIte,Int.reduceEq,he]
theorem VM (hp:aG.op (fn fs k).b aB=12)(ha:arg (fn fs k).b aB=a)(he:¬aB+1=(fn fs k).b.length):aY fs k aB pile loc mem= .next (aB+1) pile loc mem:=by simp only[aY,step,hp,↓reduceIte,Int.reduceEq,he]
theorem zN (hp:aG.op (fn fs k).b aB=13)(ha:arg (fn fs k).b aB=a):aY fs k aB pile loc mem=jump (fn fs k) (aG.ends (fn fs k).b) (gV fs k) aB a pile loc mem:=by simp only[aY,step,hp,ha,↓reduceIte,Int.reduceEq]
theorem VY (hp:aG.op (fn fs k).b aB=14)(ha:arg (fn fs k).b aB=a)(he:dx pile=0):aY fs k aB pile loc mem= .next (aB+1) (less pile 1) loc mem:=by simp only[aY,step,hp,↓reduceIte,Int.reduceEq,he]
theorem rR (hp:aG.op (fn fs k).b aB=14)(ha:arg (fn fs k).b aB=a)(he:¬dx pile=0):aY fs k aB pile loc mem=jump (fn fs k) (aG.ends (fn fs k).b) (gV fs k) aB a (less pile 1) loc mem:=by simp only[aY,step,hp,ha,↓reduceIte,Int.reduceEq,he]
theorem FJ (hp:aG.op (fn fs k).b aB=15)(ha:arg (fn fs k).b aB=a):aY fs k aB pile loc mem= .fin (upper pile (fn fs k).g.toNat):=by simp only[aY,step,hp,↓reduceIte,Int.reduceEq]
theorem aby (hp:aG.op (fn fs k).b aB=16)(ha:arg (fn fs k).b aB=a):aY fs k aB pile loc mem= .call a.toNat (upper pile (fs.getD a.toNat .z).a.toNat) (less pile (fs.getD a.toNat .z).a.toNat):=by simp only[aY,step,hp,ha,↓reduceIte,Int.reduceEq]
theorem V3 (hp:aG.op (fn fs k).b aB=17)(ha:arg (fn fs k).b aB=a)(he:Mm.there (dx pile) a=true):aY fs k aB pile loc mem= .next (aB+1) (less pile 1++[Mm.lF mem (dx pile+a).toNat 4]) loc mem:=by simp only[aY,step,hp,ha,↓reduceIte,Int.reduceEq,he]
theorem VX (hp:aG.op (fn fs k).b aB=17)(ha:arg (fn fs k).b aB=a)(he:¬Mm.there (dx pile) a=true):aY fs k aB pile loc mem= .halt 3:=by simp only[aY,step,hp,ha,↓reduceIte,Int.reduceEq,he,Bool.false_eq_true]
theorem VZ (hp:aG.op (fn fs k).b aB=18)(ha:arg (fn fs k).b aB=a)(he:Mm.there (under pile) a=true):aY fs k aB pile loc mem= .next (aB+1) (less pile 2) loc (Mm.jm mem (under pile+a).toNat (dx pile) 4):=by simp only[aY,step,hp,ha,↓reduceIte,Int.reduceEq,he]
theorem Wi (hp:aG.op (fn fs k).b aB=18)(ha:arg (fn fs k).b aB=a)(he:¬Mm.there (under pile) a=true):aY fs k aB pile loc mem= .halt 3:=by simp only[aY,step,hp,ha,↓reduceIte,Int.reduceEq,he,Bool.false_eq_true]
theorem abJ (hp:aG.op (fn fs k).b aB=19)(ha:arg (fn fs k).b aB=a):aY fs k aB pile loc mem= .halt 4:=by simp only[aY,step,hp,↓reduceIte,Int.reduceEq]
theorem dP {j:Nat}(h:pile.length=j+1):dx pile=pile.getD j 0:=by unfold dx;rw[h];rfl
theorem jK {j:Nat}(h:pile.length=j+2):under pile=pile.getD j 0:=by unfold under;rw[h];rfl
theorem di {j w:Nat}(h:pile.length=j+w):less pile w=pile.take j:=by unfold less;rw[h,Nat.add_sub_cancel]
end Mn
theorem CI.take {c:WC}{W0:World}{q:CC}{at':Nat}{pile loc mem:List Int}{n gp cp:Nat}{wr:World}(Q:CQ c W0 q)(h:CI c W0 q at' pile loc mem n gp cp wr):Hg.Typed c.fs (Mn.fn c.fs q.k) (aG.ends (Mn.fn c.fs q.k).b) (aG.aT (Mn.fn c.fs q.k).b) (Mn.gV c.fs q.k) at':=
 (Q.dE.val.acc q.k Q.lt).qd at' h.good.lt (by have:=h.good.here;omega)
theorem dz {W:World}{b g c j n:Nat}{xs:List Int}(h:W.ownsRow b 2 1 (.slice (some ⟨g,0,none⟩) n c) n (xs.map iv))(hl:xs.length=n)(hj:j<n):W.cell? ⟨g,j,none⟩=some (.int .i64 (xs.getD j 0)):=by rw[h.cellAt j (by omega),gK (by omega)];rfl
def PC.F (c:PC)(k:Nat):Fn:=Mn.fn c.fs k
def PC.E (c:PC)(k:Nat):List Int:=aG.ends (Mn.fn c.fs k).b
def PC.O (c:PC)(k:Nat):List Int:=aG.aT (Mn.fn c.fs k).b
def PC.H (c:PC)(k:Nat):List Int:=Mn.gV c.fs k
def PC.L (c:PC)(k aB:Nat):List Mn.Lb:=Mn.gP (Mn.fn c.fs k) (aG.ends (Mn.fn c.fs k).b) (Mn.gV c.fs k) aB
structure KQ (c:PC)(W0:World)(q:KK):Prop where
 dE:vC c W0
 lt:q.k<c.fs.length
 dp:q.d<12
 dI:kX c.P W0 q.w
 cel:q.w.cell? ⟨c.fb,c.fo+q.k*4+3,none⟩=some (.slice (some ⟨q.bb,q.bo,none⟩) q.bl q.bc)
 len:(Mn.fn c.fs q.k).b.length=q.bl
 mR:q.bl<=80
 nl:(q.nl:Int)=(Mn.fn c.fs q.k).a+(Mn.fn c.fs q.k).l
structure KI (c:PC)(q:KK)(R:Mn.Rs)(aB:Nat)(pile loc mem:List Int)(n:Nat)(W:World):Prop where
 nb:n<=c.aI
 km:KM c q aB pile loc mem (c.L q.k aB) ((c.aI:Int)-n) W
 good:Mn.Good c.fs (Mn.fn c.fs q.k) (Mn.gV c.fs q.k) aB pile loc mem
 run:Mn.run c.fs (n+1) n q.d q.k aB pile loc mem=R
structure KF (c:PC)(q:KK)(R:Mn.Rs)(pile mem:List Int)(n:Nat)(W:World):Prop where
 nb:n<=c.aI
 km:∃loc ls,KM c q q.bl pile loc mem ls ((c.aI:Int)-n) W
 len:(pile.length:Int)=(Mn.fn c.fs q.k).g
 run:R= .done (Mn.gives (Mn.fn c.fs q.k) pile) mem n
structure KX (c:PC)(w0:World)(R:Mn.Rs)(cd:Int)(W:World):Prop where
 dI:kX c.P w0 W
 box:∃mem n d,R= .stop cd mem n/\n<=c.aI/\mem.length=64/\bz W c.P 91 (PB mem c.aI ((c.aI:Int)-n) d c.fv c.nv)
def SP (c:PC)(q:KK)(R:Mn.Rs)(n:Nat)(e:Ending)(W:World):Prop:=
 (e= .returned (.tuple #[])/\∃aB pile loc mem m,m<=n/\KI c q R aB pile loc mem m W)\/(e= .returned (.tuple #[])/\∃pile mem m,KF c q R pile mem m W)\/∃cd,e=nX cd/\KX c q.w R cd W
structure KJ (c:PC)(q:KK)(R:Mn.Rs)(aB:Nat)(pile loc mem:List Int)(n:Nat)(W:World):Prop where
 nb:n+1<=c.aI
 km:KM c q aB pile loc mem (c.L q.k aB) ((c.aI:Int)-n) W
 good:Mn.Good c.fs (Mn.fn c.fs q.k) (Mn.gV c.fs q.k) aB pile loc mem
 run:Mn.run c.fs (n+2) (n+1) q.d q.k aB pile loc mem=R
section
variable {c : PC} {W0 : World} {q : KK} {R : Mn.Rs} {aB : Nat} {pile loc mem : List Int} {n : Nat} {W : World}
theorem fU {wr:World}(Q:KQ c W0 q)(h:kX c.P W0 wr):SL wr (some ⟨q.bb,q.bo,none⟩) q.bl (Mn.fn c.fs q.k).b:=by obtain⟨-,-,-,ba,bl,bc,e,hsl⟩:=og (Q.dE.fl wr h) Q.lt;have e1:wr.cell? ⟨c.fb,c.fo+q.k*4+3,none⟩=q.w.cell? ⟨c.fb,c.fo+q.k*4+3,none⟩:=by{refine World.cell?_of_block (a:=⟨c.fb,c.fo+q.k*4+3,none⟩) ?_;obtain⟨f1,f2⟩:=Q.dE.fbn;rw[h.blk c.fb f1 f2,Q.dI.blk c.fb f1 f2]};rw[e1,Q.cel]at e;simp only[ae,Value.slice.injEq]at e;obtain⟨rfl,rfl,rfl⟩:=e;exact hsl
theorem KJ.qd (Q:KQ c W0 q)(h:KJ c q R aB pile loc mem n W):Hg.Typed c.fs (Mn.fn c.fs q.k) (aG.ends (Mn.fn c.fs q.k).b) (aG.aT (Mn.fn c.fs q.k).b) (Mn.gV c.fs q.k) aB:=
 (Q.dE.val.acc q.k Q.lt).qd aB h.good.lt (by have:=h.good.here;omega)
theorem KJ.next (Q:KQ c W0 q)(h:KJ c q R aB pile loc mem n W){a2:Nat}{p2 l2 m2:List Int}(hs:Mn.aY c.fs q.k aB pile loc mem= .next a2 p2 l2 m2){ls:List Mn.Lb}{W':World}(hm:KM c q a2 p2 l2 m2 ls ((c.aI:Int)-n) W')(hl:ls=c.L q.k a2):SP c q R n (.returned (.tuple #[])) W':=by have F:Mn.yt c.fs (Mn.fn c.fs q.k) (Mn.gV c.fs q.k) aB loc mem (Mn.aY c.fs q.k aB pile loc mem):=Mn.jk (Md.aV Q.dE.val.all Q.lt) Q.dE.val.all (Q.dE.val.acc q.k Q.lt) h.good;rw[hs]at F;subst hl;exact .inl ⟨rfl,a2,p2,l2,m2,n,Nat.le_refl _,⟨by have:=h.nb;omega,hm,F,by rw[←h.run,Mn.gZ hs]⟩⟩
theorem KJ.fin (Q:KQ c W0 q)(h:KJ c q R aB pile loc mem n W){p2:List Int}(hs:Mn.aY c.fs q.k aB pile loc mem= .fin p2){ls:List Mn.Lb}{l2:List Int}{W':World}(hm:KM c q q.bl p2 l2 mem ls ((c.aI:Int)-n) W'):SP c q R n (.returned (.tuple #[])) W':=by have F:Mn.yt c.fs (Mn.fn c.fs q.k) (Mn.gV c.fs q.k) aB loc mem (Mn.aY c.fs q.k aB pile loc mem):=Mn.jk (Md.aV Q.dE.val.all Q.lt) Q.dE.val.all (Q.dE.val.acc q.k Q.lt) h.good;rw[hs]at F;exact .inr (.inl ⟨rfl,p2,mem,n,⟨by have:=h.nb;omega,⟨l2,ls,hm⟩,F.1,by rw[←h.run,Mn.kr hs]⟩⟩)
theorem KJ.halt (h:KJ c q R aB pile loc mem n W){cd:Int}(hs:Mn.aY c.fs q.k aB pile loc mem= .halt cd){p2 l2:List Int}{ls:List Mn.Lb}{a2:Int}{W':World}(hm:KM c q a2 p2 l2 mem ls ((c.aI:Int)-n) W'):SP c q R n (nX cd) W':=
 .inr (.inr ⟨cd,rfl,⟨hm.dI,mem,n,_,by rw[←h.run,Mn.run_halt hs],by have:=h.nb;omega,hm.ml,hm.pb⟩⟩)
theorem iq (Q:KQ c W0 q)(hlt:aB<(Mn.fn c.fs q.k).b.length)(ho:St.opens (aG.op (Mn.fn c.fs q.k).b aB)=false)(h12:aG.op (Mn.fn c.fs q.k).b aB≠12):c.L q.k aB=c.L q.k (aB+1):=by unfold PC.L Mn.gP;rw[aG.wK (Q.dE.val.acc q.k Q.lt).vo hlt ho h12]
theorem fT:(c.L q.k aB).length<=aB+1:=Mn.Ua _ _ _ _
end
section
open Go.RowKit
variable {P : Program} {ops : Array Oper} {md : Region.Mode} {Q : Exit → Act → World → Prop} {n : Nat}
theorem wpAny_all (I:Array Bool->Act->World->Prop)(hback:∀i o,ops[i]?=some o->∀e∈o.after,Region.binds md e=true->e.on<i)(hstep:∀l b x i o,l.size=ops.size->ops[i]?=some o->i<ops.size->l.getD i true=false->(∀e∈o.after,Region.binds md e=true->l.getD e.on false=true)->I l b x->wpOp P ops Q i (fun b' x'=>I (l.setIfInBounds i true) b' x') b x)(hend:∀l b x,l.size=ops.size->(∀i,i<ops.size->l.getD i true=true)->I l b x->Q .normal b x):∀f l b x,l.size=ops.size->tQ ops.size l=f->I l b x->wpAny P md ops Q f l b x:=by
 intro f
 induction f with
 |zero=>
  intro l b x hsz hu hI
  refine⟨?_,hend l b x hsz (fun i hi=>qx hu i hi) hI⟩
  rcases hr:Region.ready md ops l with _|⟨j,r⟩
  · rfl
  · have hj:j∈Region.ready md ops l:=by{rw[hr];simp};obtain⟨h1,o,ho,-⟩:=mem_ready.1 hj;have hlt:j<ops.size:=(Array.getElem?_eq_some_iff.1 ho).1;rw[qx hu j hlt]at h1;cases h1
 |succ f ih=>
  intro l b x hsz hu hI
  obtain⟨i,hin,hun,hmin⟩:=GN (l:=l) (n:=ops.size) (by omega)
  refine⟨fun h0=>?_,fun j hj=>?_⟩
  · have ho:∃o,ops[i]?=some o:=⟨ops[i]'(by omega),Array.getElem?_eq_getElem (by omega)⟩
    obtain⟨o,ho⟩:=ho
    have:i∈Region.ready md ops l:=mem_ready.2 ⟨hun,o,ho,fun e he hbi=>by
     have h1:=hback i o ho e he hbi
     have h2:=hmin e.on h1
     have h3:e.on<l.size:=by omega
     simp[h3]at h2 ⊢
     exact h2⟩
    rw[h0]at this
    cases this
  · obtain⟨hjun,o,ho,hall⟩:=mem_ready.1 hj;have hlt:j<ops.size:=(Array.getElem?_eq_some_iff.1 ho).1;refine wpOp_mono (fun b' x' h'=>ih _ b' x' (by simpa using hsz) ?_ h') (hstep l b x j o hsz ho hlt hjun hall hI);have:=x8 hjun ops.size hlt;omega
def Mq (l:List Oper)(sz s:Nat)(ds:List Nat):Bool:=
 decide (ds.length=l.length)&&ds.Nodup&&(List.range l.length).all fun i=>match l[i]? with
   |some o=>(if i=s then o.dst==none&&decide (sz<=ds.getD i 0)else o.dst==ds[i]?&&decide (ds.getD i 0<sz))&&o.guard.isNone&&o.after.all fun e=> !Region.binds .any e||decide (e.on<i)
   |none=>false
theorem nE {id:Nat}{a:Act}{w:World}{l:List Oper}(ds:List Nat)(m s:Nat)(A:Bool->World->Prop)(jh:List Value)(hm:P.follows .mixedOrders=true)(hB:Mq l a.tmps.size s ds=true)(hvs:jh.getD s undef=undef)(h0:A false w.drew)(hall:nN P Q a ds m A (fun j y _=>y=jh.getD j undef) 0 l)(hend:∀b x,A (decide (m<l.length)) x->(∀j,j<l.length->b.eval (.tmp (ds.getD j 0))=jh.getD j undef)->b=ds.foldl (fun a' t=>a'.put (some t) (b.eval (.tmp t))) a->Q .normal b x):(Code.region id l.toArray true).wp P Q a w:=by
 simp only[Mq,aj,decide_eq_true_eq,List.all_eq_true,List.mem_range]at hB
 obtain⟨⟨hdl,hnd⟩,hops⟩:=hB
 have hgd:∀i,i<l.length->ds[i]?=some (ds.getD i 0):=fun i hi=>by rw[af,ag (by omega)];rfl
 have hop:∀i o,l.toArray[i]?=some o->((i=s->o.dst=none/\a.tmps.size<=ds.getD i 0)/\(i≠s->o.dst=some (ds.getD i 0)/\ds.getD i 0<a.tmps.size))/\o.guard=none/\(∀e∈o.after,Region.binds .any e=true->e.on<i)/\ds.getD i 0∈ds/\i<l.length:=by intro i o ho;have ho':l[i]?=some o:=by{simpa using ho};have hi:i<l.length:=(List.getElem?_eq_some_iff.1 ho').1;have h1:=hops i hi;rw[ho']at h1;simp only[aj,Option.isNone_iff_eq_none,Array.all_eq_true',decide_eq_true_eq,Bool.or_eq_true,Bool.not_eq_true']at h1;obtain⟨⟨h2,h3⟩,h4⟩:=h1;refine⟨⟨fun e=>?_,fun e=>?_⟩,h3,fun e he hbi=>(h4 e he).elim (fun h=>by rw[hbi]at h;cases h) (fun h=>h),List.mem_of_getElem? (hgd i hi),hi⟩;{rw[ax e]at h2;simpa using h2};rw[ak e,hgd i hi]at h2;simpa using h2
 have hinj:∀i j,i<l.length->j<l.length->ds.getD i 0=ds.getD j 0->i=j:=by intro i j hi hj e;rw[af,af,ag (by omega),ag (by omega)]at e;have e':ds[i]'(by omega)=ds[j]'(by omega):=e;rcases Nat.lt_trichotomy i j with h|h|h;{exact absurd e' (List.pairwise_iff_getElem.1 hnd i j (by omega) (by omega) h)};{exact h};exact absurd e'.symm (List.pairwise_iff_getElem.1 hnd j i (by omega) (by omega) h)
 let I:Array Bool->Act->World->Prop:=fun q b x=>A (q.getD m false&&decide (m<l.length)) x/\b.defers=a.defers/\b.tmps.size=a.tmps.size/\(∀t,t∉ds->b.eval (.tmp t)=a.eval (.tmp t))/\∀j,j<l.length->q.getD j false=true->b.eval (.tmp (ds.getD j 0))=jh.getD j undef
 have hsl:l.toArray.size=l.length:=by simp
 have hu:tQ l.length (Array.replicate l.toArray.size false)=l.length:=by
  have:∀m,m<=l.toArray.size->tQ m (Array.replicate l.toArray.size false)=m:=by
   intro m
   induction m with
   |zero=>intro _;rfl
   |succ m ih=>
    intro hm
    rw[ig,ih (by omega)]
    have:(Array.replicate l.toArray.size false).getD m true=false:=getD_in (by simp at hm ⊢;omega) (getD_replicate_false _ _)
    rw[ax this]
  exact this _ (by omega)
 have H := wpAny_all (P:=P) (Q:=Q) (md:= .any) (ops:=l.toArray) I (fun i o ho=>(hop i o ho).2.2.1)
   (fun q b x i o hq ho hi hun hafter hI=>by
     obtain⟨hA,hdf,hsize,hfr,hF⟩:=hI
     obtain⟨⟨hds,hdn⟩,hg,hb,hmem,hil⟩:=hop i o ho
     have hqs:q.size=l.length:=by rw[hq,hsl]
     have AR:=hall.at i o (by simpa using ho)
     rw[Nat.zero_add]at AR
     have hwp:=AR (q.getD m false&&decide (m<l.length)) b x hA (fun e=>by
       subst e
       have h3:i<q.size:=by omega
       simp[h3]at hun ⊢
       intro h4
       rw[hun]at h4
       cases h4) (fun hj=>by
       obtain⟨e,he,hbe⟩:=Array.any_eq_true'.1 hj
       simp only[aj,beq_iff_eq]at hbe
       have h1:=hafter e he hbe.1
       have h2:=hb e he hbe.1
       rw[hbe.2]at h1 h2
       rw[h1]
       simpa using(show m<l.length by omega)) hfr hdf (fun j hj=>by
       obtain⟨e,he,hbe⟩:=Array.any_eq_true'.1 hj
       simp only[aj,beq_iff_eq]at hbe
       have h1:=hafter e he hbe.1
       have h2:=hb e he hbe.1
       rw[hbe.2]at h1 h2
       exact hF j (by omega) h1)
     unfold wpOp
     simp only[ho]
     have hw:Region.wanted o (yielded l.toArray b.tmps)=true:=by simp[Region.wanted,hg]
     rw[ax hw]
     refine .inl (Oper.wp_mono (fun b' x' h'=>?_) hwp)
     obtain⟨y,rfl,hA',hF',Gb⟩:=h'
     have hA2:A ((q.setIfInBounds i true).getD m false&&decide (m<l.length)) x':=by
       by_cases e:i=m
       · subst e
         have h3:i<q.size:=by omega
         have h4:(q.setIfInBounds i true).getD i false=true:=by simp[h3]
         rw[h4]
         simpa[hil]using hA'
       · rw[getD_set_ne false e]
         simpa[e]using hA'
     by_cases es:i=s
     · obtain⟨hd,hge⟩:=hds es
       rw[hd]
       refine⟨hA2,hdf,hsize,hfr,fun j hj hq'=>?_⟩
       by_cases e:i=j
       · subst e
         subst es
         rw[hvs]
         unfold Act.eval
         have:b.tmps.size<=ds.getD i 0:=by rw[hsize];exact hge
         have h5:b.tmps[ds.getD i 0]?=none:=Array.getElem?_eq_none this
         show b.tmps.getD _ undef=undef
         rw[Array.getD_eq_getD_getElem?,h5]
         rfl
       · rw[getD_set_ne false e]at hq'
         exact hF j hj hq'
     · obtain⟨hd,hlt⟩:=hdn es
       rw[hd]
       have hlt':ds.getD i 0<b.tmps.size:=by rw[hsize];exact hlt
       refine⟨hA2,hdf,by simpa[Act.put]using hsize,fun t ht=>?_,fun j hj hq'=>?_⟩
       · rw[gT _ _ _ _ hlt',ak (fun e=>ht (by rw[←e];exact hmem))]
         exact hfr t ht
       · rw[gT _ _ _ _ hlt']
         by_cases e:i=j
         · subst e
           rw[ax rfl]
           exact hF'
         · rw[ak (fun e2=>e (hinj i j hil hj e2))]
           rw[getD_set_ne false e]at hq'
           exact hF j hj hq')
   (fun q b x hq kW hI=>by
     obtain⟨hA,hdf,hsize,hfr,hF⟩:=hI
     have hqs:q.size=l.length:=by rw[hq,hsl]
     have hF2:∀j,j<l.length->b.eval (.tmp (ds.getD j 0))=jh.getD j undef:=fun j hj=>hF j hj (by
       have:=kW j (by omega)
       have h1:j<q.size:=by omega
       simp[h1]at this ⊢
       exact this)
     have hbf:b=ds.foldl (fun a' t=>a'.put (some t) (b.eval (.tmp t))) a:=by
       obtain⟨s1,s2,s3⟩:=kL (fun t=>b.eval (.tmp t)) ds a
       have ht:b.tmps=(ds.foldl (fun a' t=>a'.put (some t) (b.eval (.tmp t))) a).tmps:=by
         apply Array.ext_getElem?
         intro t
         rw[s3 t]
         by_cases e:t<a.tmps.size
         · have eb:b.tmps[t]?=some (b.eval (.tmp t)):=by
             have h1:t<b.tmps.size:=by omega
             simp[Act.eval,h1]
           by_cases e2:t∈ds
           · rw[ax ⟨e2,e⟩,eb]
           · rw[ak (fun h=>e2 h.1),eb,hfr t e2]
             simp[Act.eval,e]
         · rw[ak (fun h=>e h.2),Array.getElem?_eq_none (by omega),Array.getElem?_eq_none (by omega)]
       have e3:∀c d:Act,c.tmps=d.tmps->c.defers=d.defers->c=d:=by
         rintro⟨c1,c2⟩ ⟨d1,d2⟩ h1 h2
         simp only at h1 h2
         rw[h1,h2]
       exact e3 _ _ ht (hdf.trans s2.symm)
     have hA3:A (decide (m<l.length)) x:=by
       by_cases e:m<l.length
       · have h1:=kW m (by omega)
         have h2:m<q.size:=by omega
         have h3:q.getD m false=true:=by simp[h2]at h1 ⊢;exact h1
         rw[h3,Bool.true_and]at hA
         exact hA
       · simp[e]at hA ⊢
         exact hA
     exact hend b x hA3 hF2 hbf)
   l.length (Array.replicate l.toArray.size false) a w.drew (by simp) (by rw[hsl];exact hu) ⟨by rw[getD_replicate_false,Bool.false_and];exact h0,rfl,rfl,fun t _=>rfl,fun j hj h=>by rw[getD_replicate_false]at h;cases h⟩
 rw[←hsl]at H
 exact wp_region_any hm H
end
theorem U5 {c:PC}{W0:World}{q:KK}{R:Mn.Rs}{aB:Nat}{pile loc mem:List Int}{n:Nat}{W:World}{p a:Int}(Q:KQ c W0 q)(aN:Hid (KJ c q R aB pile loc mem n W))(HST:Hid (aG.op (Mn.fn c.fs q.k).b aB=p/\Hg.arg (Mn.fn c.fs q.k).b aB=a/\St.ok p a=true))(HP:Hid (p=1)):Calls Tryz.prog 77 #[.pointer (some ⟨q.C,0,none⟩)] W (SP c q R n):=by obtain rfl:=HP.out;have hG:=aN.out.good;have hat:aB<q.bl:=by{have:=hG.lt;have:=Q.len;omega};have dM:=Q.mR;have hpl:pile.length<=20:=by{have h1:=hG.here;have h2:=(Q.dE.val.acc q.k Q.lt).dx aB hG.lt;omega};have iF:(c.L q.k aB).length<=81:=by{have:=fT (c:=c) (q:=q) (aB:=aB);omega};obtain⟨v,u,hA,hv,hu⟩:=aN.out.km.box;have c1:=hA.cell (j:=1) rfl;have c6:=hA.cell (j:=6) rfl;have f6:=hA.frozen 6;have mY:=fU Q (Q.dI.trans aN.out.km.dI);obtain⟨-,-,hrow⟩:=mY;rcases hrow with h0|⟨bb,bo,eb,hbb,dL⟩;{omega};obtain⟨gq,gu⟩:q.bb=bb/\q.bo=bo:=by{simpa using eb};have z0:=(dL aB hat).1;have z1:=(dL aB hat).2;have e0:((Mn.fn c.fs q.k).b.getD aB (0,0)).1=1:=HST.out.1;have e1:((Mn.fn c.fs q.k).b.getD aB (0,0)).2=a:=HST.out.2.1;rw[e0,←gq,←gu]at z0;rw[e1,←gq,←gu]at z1;clear dL eb gq gu e0 e1 hbb hv hu;have gy:(aB:Int)<(q.bl:Int):=by{omega};have jX:=aN.out.km.yU;have hsz:(W.setCell ⟨q.C,6,none⟩ (.int .i64 ((aB:Int)+1))).heap.size=W.heap.size:=by{simp[World.setCell]};have ed:=aa ((aN.out.km.setAt ((aB:Int)+1) (df.of (Below.refl _ _) jX _)).1.kept (aC _ (.cells #[.int .i64 1, .int .i64 a] 78)));have fw:Hid (bz ((W.setCell ⟨q.C,6,none⟩ (.int .i64 ((aB:Int)+1))).alloc (.cells #[.int .i64 1, .int .i64 a] 78)) W.heap.size 78 [.int .i64 1, .int .i64 a]):=by{have:=heap_alloc_last (W.setCell ⟨q.C,6,none⟩ (.int .i64 ((aB:Int)+1))) (.cells #[.int .i64 1, .int .i64 a] 78);rw[hsz]at this;exact this};clear hsz hA;go_enter Tryz.func77,Tryz.ntmps77;go_upto_region 3 with fail;obtain⟨W2,hW2⟩:∃W2,(W.setCell ⟨q.C,6,none⟩ (.int .i64 ((aB:Int)+1))).alloc (.cells #[.int .i64 1, .int .i64 a] 78)=W2:=⟨_,rfl⟩;rw[hW2]at ed fw ⊢;obtain⟨sb,hsb⟩:∃sb,W.heap.size=sb:=⟨_,rfl⟩;rw[hsb]at fw ⊢;have s0:=fw.out.cell (j:=0) rfl;have s1:=fw.out.cell (j:=1) rfl;have uO:=fw.out.lt;have HM:=aa ed.out;clear c1 c6 f6 z0 z1 hW2 hsb ed jX;have ha0:0<=a/\a<=4294967295:=by{have:=HST.out.2.2;simp only[St.ok,aj,Wd.aX]at this;have h0:St.least 1=0:=by{decide};have h1:St.bg 1=4294967295:=by{decide};omega};obtain⟨ha1,ha2⟩:=ha0;go_wp2_with fail;obtain⟨AA,bH⟩:∃AA:Bool->World->Prop,AA=fun t x=>(if t=true then KM c q ((aB:Int)+1) pile loc mem (c.L q.k aB) ((c.aI:Int)-n) x else KM c q ((aB:Int)+1) pile loc mem (c.L q.k aB) ((c.aI:Int)-n) x)/\bz x sb 78 [.int .i64 1, .int .i64 a]:=⟨_,rfl⟩;have jT:AA false W2.drew:=by{rw[bH];exact⟨HM.out.kept (Below.refl _ _).drew,fw.out.kept (Below.refl _ _).drew⟩};have hAs:∀{t:Bool}{x:World},AA t x->x.cell? ⟨sb,1,none⟩=some (.int .i64 a):=fun h=>by{rw[bH]at h;exact h.2.cell (j:=1) rfl};have lM:∀{x:World},AA false x->KM c q ((aB:Int)+1) pile loc mem (c.L q.k aB) ((c.aI:Int)-n) x/\bz x sb 78 [.int .i64 1, .int .i64 a]:=fun h=>by{rw[bH]at h;exact h};have hAt:∀{x:World},AA true x->KM c q ((aB:Int)+1) pile loc mem (c.L q.k aB) ((c.aI:Int)-n) x/\bz x sb 78 [.int .i64 1, .int .i64 a]:=fun h=>by{rw[bH]at h;exact h};have oZ:∀{x x':World},AA false x->KM c q ((aB:Int)+1) pile loc mem (c.L q.k aB) ((c.aI:Int)-n) x'->bL x x'->AA true x':=fun h1 h2 h3=>by{rw[bH]at h1 ⊢;exact⟨h2,h1.2.stays h3 (by decide) (by decide) (by decide) (by decide)⟩};have hAx:∀{t:Bool}{x:World},AA t x->KM c q ((aB:Int)+1) pile loc mem (c.L q.k aB) ((c.aI:Int)-n) x:=fun{t} {x} h=>by{rw[bH]at h;have h1:=h.1;simp only[ite_self]at h1;exact h1};have fB:∀{t:Bool}{x:World},AA t x->∃pl lo,KM c q ((aB:Int)+1) pl lo mem (c.L q.k aB) ((c.aI:Int)-n) x:=fun{t} {x} h=>by{rw[bH]at h;cases t;{exact⟨_,_,h.1⟩};exact⟨_,_,h.1⟩};have hAk:∀{t:Bool}{x x':World},AA t x->Below x.heap.size x x'->AA t x':=fun{t} {x} {x'} h hB=>by{rw[bH]at h ⊢;refine⟨?_,h.2.kept hB⟩;cases t;{exact KM.kept (show KM c q ((aB:Int)+1) pile loc mem (c.L q.k aB) ((c.aI:Int)-n) x from h.1) hB};exact KM.kept (show KM c q ((aB:Int)+1) pile loc mem (c.L q.k aB) ((c.aI:Int)-n) x from h.1) hB};clear bH s0 s1;refine bC 6 [32,33,34,35,36,37] 100 AA (fun j y _=>y=[.pointer (some ⟨q.C,0,none⟩), .pointer (some ⟨q.C,0,none⟩), .pointer (some ⟨q.C,4,none⟩), .pointer (some ⟨sb,1,none⟩), .int .i64 a, .int .u32 a].getD j undef) (by kernel_rfl) (by kernel_rfl) (by simp) jT ?_ ?_;{simp only[List.take_succ_cons,List.take_zero];refine⟨?_,?_,?_,?_,?_,?_,trivial⟩;(all_goals(intro t b x hA ht hm hfr hdf aD;replace hdf:=aa hdf));have e0:b.tmps[0]?.getD undef= .pointer (some ⟨q.C,0,none⟩):=aA (hfr 0 (by decide));rotate_left;have e32:b.tmps[32]?.getD undef= .pointer (some ⟨q.C,0,none⟩):=aA (aD 0 (by kernel_rfl));rotate_left;have e33:b.tmps[33]?.getD undef= .pointer (some ⟨q.C,0,none⟩):=aA (aD 1 (by kernel_rfl));rotate_left;have e3:b.tmps[3]?.getD undef= .pointer (some ⟨sb,0,none⟩):=aA (hfr 3 (by decide));rotate_left;have e35:b.tmps[35]?.getD undef= .pointer (some ⟨sb,1,none⟩):=aA (aD 3 (by kernel_rfl));have s1:=hAs hA;rotate_left;{have e36:b.tmps[36]?.getD undef= .int .i64 a:=aA (aD 4 (by kernel_rfl));unfold Oper.wp;generalize hK:(fun(b':Act) (x':World)=>∃y,_/\_)=K;simp only[execOp];go_simp;rw[←hK];exact⟨_,rfl,bK hA,congrArg (Value.int .u32) (IntWalk.u32_in a ⟨ha1,ha2⟩),fun i z h=>h⟩};all_goals(unfold Oper.wp;generalize hK:(fun(b':Act) (x':World)=>∃y,_/\_)=K;simp only[execOp];go_simp;rw[←hK];exact⟨_,rfl,bK hA,rfl,fun i z h=>h⟩)};intro b x hA hF hb;have e32:b.eval (.tmp 32)= .pointer (some ⟨q.C,0,none⟩):=hF 0 (by decide);have e33:b.eval (.tmp 33)= .pointer (some ⟨q.C,0,none⟩):=hF 1 (by decide);have e34:b.eval (.tmp 34)= .pointer (some ⟨q.C,4,none⟩):=hF 2 (by decide);have e35:b.eval (.tmp 35)= .pointer (some ⟨sb,1,none⟩):=hF 3 (by decide);have e36:b.eval (.tmp 36)= .int .i64 a:=hF 4 (by decide);have e37:b.eval (.tmp 37)= .int .u32 a:=hF 5 (by decide);simp only[List.foldl,e32,e33,e34,e35,e36,e37]at hb;clear hF e32 e33 e34 e35 e36 e37;subst hb;simp only[List.drop_succ_cons,List.drop_zero];go_simp;have hA1:AA false x:=by{simpa using hA};clear hA;obtain⟨hK,hS⟩:=lM hA1;clear hA1 lM hAt oZ hAs hAx fB hAk;go_wp2_with fail;refine(wH a (by omega) hK).mono ?_;rintro e w3 ⟨rfl,hK3,-⟩;dsimp only;have sU:=aa hK3;clear hK hS hK3;go_wp2;(try simp only[Exit.inBlock,Exit.then]);refine bodyPost_end (results_none rfl _ _ _) rfl ?_;exact aN.out.next Q (Mn.st1 HST.out.1 HST.out.2.1) (a2:=aB+1) sU.out (iq Q hG.lt (by rw[HST.out.1];rfl) (by rw[HST.out.1];decide))
theorem Uu {c:PC}{W0:World}{q:KK}{R:Mn.Rs}{aB:Nat}{pile loc mem:List Int}{n:Nat}{W:World}{p a:Int}(Q:KQ c W0 q)(aN:Hid (KJ c q R aB pile loc mem n W))(HST:Hid (aG.op (Mn.fn c.fs q.k).b aB=p/\Hg.arg (Mn.fn c.fs q.k).b aB=a/\St.ok p a=true))(HP:Hid (p=2)):Calls Tryz.prog 77 #[.pointer (some ⟨q.C,0,none⟩)] W (SP c q R n):=by obtain rfl:=HP.out;have hG:=aN.out.good;have hat:aB<q.bl:=by{have:=hG.lt;have:=Q.len;omega};have dM:=Q.mR;have hpl:pile.length<=20:=by{have h1:=hG.here;have h2:=(Q.dE.val.acc q.k Q.lt).dx aB hG.lt;omega};have iF:(c.L q.k aB).length<=81:=by{have:=fT (c:=c) (q:=q) (aB:=aB);omega};obtain⟨v,u,hA,hv,hu⟩:=aN.out.km.box;have c1:=hA.cell (j:=1) rfl;have c6:=hA.cell (j:=6) rfl;have f6:=hA.frozen 6;have mY:=fU Q (Q.dI.trans aN.out.km.dI);obtain⟨-,-,hrow⟩:=mY;rcases hrow with h0|⟨bb,bo,eb,hbb,dL⟩;{omega};obtain⟨gq,gu⟩:q.bb=bb/\q.bo=bo:=by{simpa using eb};have z0:=(dL aB hat).1;have z1:=(dL aB hat).2;have e0:((Mn.fn c.fs q.k).b.getD aB (0,0)).1=2:=HST.out.1;have e1:((Mn.fn c.fs q.k).b.getD aB (0,0)).2=a:=HST.out.2.1;rw[e0,←gq,←gu]at z0;rw[e1,←gq,←gu]at z1;clear dL eb gq gu e0 e1 hbb hv hu;have gy:(aB:Int)<(q.bl:Int):=by{omega};have jX:=aN.out.km.yU;have hsz:(W.setCell ⟨q.C,6,none⟩ (.int .i64 ((aB:Int)+1))).heap.size=W.heap.size:=by{simp[World.setCell]};have ed:=aa ((aN.out.km.setAt ((aB:Int)+1) (df.of (Below.refl _ _) jX _)).1.kept (aC _ (.cells #[.int .i64 2, .int .i64 a] 78)));have fw:Hid (bz ((W.setCell ⟨q.C,6,none⟩ (.int .i64 ((aB:Int)+1))).alloc (.cells #[.int .i64 2, .int .i64 a] 78)) W.heap.size 78 [.int .i64 2, .int .i64 a]):=by{have:=heap_alloc_last (W.setCell ⟨q.C,6,none⟩ (.int .i64 ((aB:Int)+1))) (.cells #[.int .i64 2, .int .i64 a] 78);rw[hsz]at this;exact this};clear hsz hA;go_enter Tryz.func77,Tryz.ntmps77;go_upto_region 3 with fail;obtain⟨W2,hW2⟩:∃W2,(W.setCell ⟨q.C,6,none⟩ (.int .i64 ((aB:Int)+1))).alloc (.cells #[.int .i64 2, .int .i64 a] 78)=W2:=⟨_,rfl⟩;rw[hW2]at ed fw ⊢;obtain⟨sb,hsb⟩:∃sb,W.heap.size=sb:=⟨_,rfl⟩;rw[hsb]at fw ⊢;have s0:=fw.out.cell (j:=0) rfl;have s1:=fw.out.cell (j:=1) rfl;have uO:=fw.out.lt;have HM:=aa ed.out;clear c1 c6 f6 z0 z1 hW2 hsb ed jX;have hlo:=(aN.out.qd Q).loc (.inl HST.out.1);rw[HST.out.2.1]at hlo;have hnl:=Q.nl;have ha0:0<=a:=by{have:=HST.out.2.2;simp only[St.ok,aj,Wd.aX]at this;have h0:0<=St.least 2:=by{decide};omega};obtain⟨an,rfl⟩:=Int.eq_ofNat_of_zero_le ha0;have uP:an<q.nl:=by{omega};have hlZ:(an:Int)<(q.nl:Int):=by{omega};have hl6:q.nl<=6:=by{have:=Mn.gD Q.dE.val Q.lt;omega};clear hlo hnl ha0;obtain⟨y0,hx⟩:∃y0,loc.getD an 0=y0:=⟨_,rfl⟩;have HX:=aa hx;clear hx;have hlc:∀{y:World},KM c q ((aB:Int)+1) pile loc mem (c.L q.k aB) ((c.aI:Int)-n) y->y.cell? ⟨q.C,3,none⟩=some (.slice (some ⟨q.gl,0,none⟩) q.nl q.nl)/\y.cell? ⟨q.gl,an,none⟩=some (.int .u32 y0):=fun K=>by{obtain⟨v,u,hA,-⟩:=K.box;refine⟨hA.cell (j:=3) rfl,?_⟩;rw[K.lr.cellAt an (by omega),gK (by rw[K.ll];exact uP),HX.out];rfl};go_wp2_with fail;obtain⟨AA,bH⟩:∃AA:Bool->World->Prop,AA=fun t x=>(if t=true then KM c q ((aB:Int)+1) pile loc mem (c.L q.k aB) ((c.aI:Int)-n) x else KM c q ((aB:Int)+1) pile loc mem (c.L q.k aB) ((c.aI:Int)-n) x)/\bz x sb 78 [.int .i64 2, .int .i64 (an:Int)]:=⟨_,rfl⟩;have jT:AA false W2.drew:=by{rw[bH];exact⟨HM.out.kept (Below.refl _ _).drew,fw.out.kept (Below.refl _ _).drew⟩};have hAs:∀{t:Bool}{x:World},AA t x->x.cell? ⟨sb,1,none⟩=some (.int .i64 (an:Int)):=fun h=>by{rw[bH]at h;exact h.2.cell (j:=1) rfl};have lM:∀{x:World},AA false x->KM c q ((aB:Int)+1) pile loc mem (c.L q.k aB) ((c.aI:Int)-n) x/\bz x sb 78 [.int .i64 2, .int .i64 (an:Int)]:=fun h=>by{rw[bH]at h;exact h};have hAt:∀{x:World},AA true x->KM c q ((aB:Int)+1) pile loc mem (c.L q.k aB) ((c.aI:Int)-n) x/\bz x sb 78 [.int .i64 2, .int .i64 (an:Int)]:=fun h=>by{rw[bH]at h;exact h};have oZ:∀{x x':World},AA false x->KM c q ((aB:Int)+1) pile loc mem (c.L q.k aB) ((c.aI:Int)-n) x'->bL x x'->AA true x':=fun h1 h2 h3=>by{rw[bH]at h1 ⊢;exact⟨h2,h1.2.stays h3 (by decide) (by decide) (by decide) (by decide)⟩};have hAx:∀{t:Bool}{x:World},AA t x->KM c q ((aB:Int)+1) pile loc mem (c.L q.k aB) ((c.aI:Int)-n) x:=fun{t} {x} h=>by{rw[bH]at h;have h1:=h.1;simp only[ite_self]at h1;exact h1};have fB:∀{t:Bool}{x:World},AA t x->∃pl lo,KM c q ((aB:Int)+1) pl lo mem (c.L q.k aB) ((c.aI:Int)-n) x:=fun{t} {x} h=>by{rw[bH]at h;cases t;{exact⟨_,_,h.1⟩};exact⟨_,_,h.1⟩};have hAk:∀{t:Bool}{x x':World},AA t x->Below x.heap.size x x'->AA t x':=fun{t} {x} {x'} h hB=>by{rw[bH]at h ⊢;refine⟨?_,h.2.kept hB⟩;cases t;{exact KM.kept (show KM c q ((aB:Int)+1) pile loc mem (c.L q.k aB) ((c.aI:Int)-n) x from h.1) hB};exact KM.kept (show KM c q ((aB:Int)+1) pile loc mem (c.L q.k aB) ((c.aI:Int)-n) x from h.1) hB};clear bH s0 s1;refine bC 11 [41,42,43,44,45,46,47,48,49,50,51] 100 AA (fun j y _=>y=[.pointer (some ⟨q.C,0,none⟩), .pointer (some ⟨q.C,0,none⟩), .pointer (some ⟨q.C,4,none⟩), .pointer (some ⟨q.C,0,none⟩), .pointer (some ⟨q.C,0,none⟩), .pointer (some ⟨q.C,3,none⟩), .slice (some ⟨q.gl,0,none⟩) q.nl q.nl, .pointer (some ⟨sb,1,none⟩), .int .i64 (an:Int), .pointer (some ⟨q.gl,an,none⟩), .int .u32 y0].getD j undef) (by kernel_rfl) (by kernel_rfl) (by simp) jT ?_ ?_;{simp only[List.take_succ_cons,List.take_zero];refine⟨?_,?_,?_,?_,?_,?_,?_,?_,?_,?_,?_,trivial⟩;(all_goals(intro t b x hA ht hm hfr hdf aD;replace hdf:=aa hdf));have e0:b.tmps[0]?.getD undef= .pointer (some ⟨q.C,0,none⟩):=aA (hfr 0 (by decide));rotate_left;have e41:b.tmps[41]?.getD undef= .pointer (some ⟨q.C,0,none⟩):=aA (aD 0 (by kernel_rfl));rotate_left;have e42:b.tmps[42]?.getD undef= .pointer (some ⟨q.C,0,none⟩):=aA (aD 1 (by kernel_rfl));rotate_left;have e0:b.tmps[0]?.getD undef= .pointer (some ⟨q.C,0,none⟩):=aA (hfr 0 (by decide));rotate_left;have e44:b.tmps[44]?.getD undef= .pointer (some ⟨q.C,0,none⟩):=aA (aD 3 (by kernel_rfl));rotate_left;have e45:b.tmps[45]?.getD undef= .pointer (some ⟨q.C,0,none⟩):=aA (aD 4 (by kernel_rfl));rotate_left;have e46:b.tmps[46]?.getD undef= .pointer (some ⟨q.C,3,none⟩):=aA (aD 5 (by kernel_rfl));have l3:=(hlc (hAx hA)).1;rotate_left;have e3:b.tmps[3]?.getD undef= .pointer (some ⟨sb,0,none⟩):=aA (hfr 3 (by decide));rotate_left;have e48:b.tmps[48]?.getD undef= .pointer (some ⟨sb,1,none⟩):=aA (aD 7 (by kernel_rfl));have s1:=hAs hA;rotate_left;have e47:b.tmps[47]?.getD undef= .slice (some ⟨q.gl,0,none⟩) q.nl q.nl:=aA (aD 6 (by kernel_rfl));have e49:b.tmps[49]?.getD undef= .int .i64 (an:Int):=aA (aD 8 (by kernel_rfl));rotate_left;have e50:b.tmps[50]?.getD undef= .pointer (some ⟨q.gl,an,none⟩):=aA (aD 9 (by kernel_rfl));have l4:=(hlc (hAx hA)).2;rotate_left;all_goals(unfold Oper.wp;generalize hK:(fun(b':Act) (x':World)=>∃y,_/\_)=K;simp only[execOp];go_simp;rw[←hK];exact⟨_,rfl,bK hA,rfl,fun i z h=>h⟩)};intro b x hA hF hb;have e41:b.eval (.tmp 41)= .pointer (some ⟨q.C,0,none⟩):=hF 0 (by decide);have e42:b.eval (.tmp 42)= .pointer (some ⟨q.C,0,none⟩):=hF 1 (by decide);have e43:b.eval (.tmp 43)= .pointer (some ⟨q.C,4,none⟩):=hF 2 (by decide);have e44:b.eval (.tmp 44)= .pointer (some ⟨q.C,0,none⟩):=hF 3 (by decide);have e45:b.eval (.tmp 45)= .pointer (some ⟨q.C,0,none⟩):=hF 4 (by decide);have e46:b.eval (.tmp 46)= .pointer (some ⟨q.C,3,none⟩):=hF 5 (by decide);have e47:b.eval (.tmp 47)= .slice (some ⟨q.gl,0,none⟩) q.nl q.nl:=hF 6 (by decide);have e48:b.eval (.tmp 48)= .pointer (some ⟨sb,1,none⟩):=hF 7 (by decide);have e49:b.eval (.tmp 49)= .int .i64 (an:Int):=hF 8 (by decide);have e50:b.eval (.tmp 50)= .pointer (some ⟨q.gl,an,none⟩):=hF 9 (by decide);have e51:b.eval (.tmp 51)= .int .u32 y0:=hF 10 (by decide);simp only[List.foldl,e41,e42,e43,e44,e45,e46,e47,e48,e49,e50,e51]at hb;clear hF e41 e42 e43 e44 e45 e46 e47 e48 e49 e50 e51;subst hb;simp only[List.drop_succ_cons,List.drop_zero];go_simp;have hA1:AA false x:=by{simpa using hA};clear hA;obtain⟨hK,hS⟩:=lM hA1;clear hA1 lM hAt oZ hAs hAx fB hAk hlc;go_wp2_with fail;refine(wH y0 (by omega) hK).mono ?_;rintro e w3 ⟨rfl,hK3,-⟩;dsimp only;have sU:=aa hK3;clear hK hS hK3;go_wp2;(try simp only[Exit.inBlock,Exit.then]);refine bodyPost_end (results_none rfl _ _ _) rfl ?_;exact aN.out.next Q ((Mn.st2 HST.out.1 HST.out.2.1).trans (by rw[az,HX.out])) (a2:=aB+1) sU.out (iq Q hG.lt (by rw[HST.out.1];rfl) (by rw[HST.out.1];decide))
theorem T9 {c:PC}{W0:World}{q:KK}{R:Mn.Rs}{aB:Nat}{pile loc mem:List Int}{n:Nat}{W:World}{p a:Int}(Q:KQ c W0 q)(aN:Hid (KJ c q R aB pile loc mem n W))(HST:Hid (aG.op (Mn.fn c.fs q.k).b aB=p/\Hg.arg (Mn.fn c.fs q.k).b aB=a/\St.ok p a=true))(HP:Hid (p=3)):Calls Tryz.prog 77 #[.pointer (some ⟨q.C,0,none⟩)] W (SP c q R n):=by obtain rfl:=HP.out;have hG:=aN.out.good;have hat:aB<q.bl:=by{have:=hG.lt;have:=Q.len;omega};have dM:=Q.mR;have hpl:pile.length<=20:=by{have h1:=hG.here;have h2:=(Q.dE.val.acc q.k Q.lt).dx aB hG.lt;omega};have iF:(c.L q.k aB).length<=81:=by{have:=fT (c:=c) (q:=q) (aB:=aB);omega};obtain⟨v,u,hA,hv,hu⟩:=aN.out.km.box;have c1:=hA.cell (j:=1) rfl;have c6:=hA.cell (j:=6) rfl;have f6:=hA.frozen 6;have mY:=fU Q (Q.dI.trans aN.out.km.dI);obtain⟨-,-,hrow⟩:=mY;rcases hrow with h0|⟨bb,bo,eb,hbb,dL⟩;{omega};obtain⟨gq,gu⟩:q.bb=bb/\q.bo=bo:=by{simpa using eb};have z0:=(dL aB hat).1;have z1:=(dL aB hat).2;have e0:((Mn.fn c.fs q.k).b.getD aB (0,0)).1=3:=HST.out.1;have e1:((Mn.fn c.fs q.k).b.getD aB (0,0)).2=a:=HST.out.2.1;rw[e0,←gq,←gu]at z0;rw[e1,←gq,←gu]at z1;clear dL eb gq gu e0 e1 hbb hv hu;have gy:(aB:Int)<(q.bl:Int):=by{omega};have jX:=aN.out.km.yU;have hsz:(W.setCell ⟨q.C,6,none⟩ (.int .i64 ((aB:Int)+1))).heap.size=W.heap.size:=by{simp[World.setCell]};have ed:=aa ((aN.out.km.setAt ((aB:Int)+1) (df.of (Below.refl _ _) jX _)).1.kept (aC _ (.cells #[.int .i64 3, .int .i64 a] 78)));have fw:Hid (bz ((W.setCell ⟨q.C,6,none⟩ (.int .i64 ((aB:Int)+1))).alloc (.cells #[.int .i64 3, .int .i64 a] 78)) W.heap.size 78 [.int .i64 3, .int .i64 a]):=by{have:=heap_alloc_last (W.setCell ⟨q.C,6,none⟩ (.int .i64 ((aB:Int)+1))) (.cells #[.int .i64 3, .int .i64 a] 78);rw[hsz]at this;exact this};clear hsz hA;go_enter Tryz.func77,Tryz.ntmps77;go_upto_region 3 with fail;obtain⟨W2,hW2⟩:∃W2,(W.setCell ⟨q.C,6,none⟩ (.int .i64 ((aB:Int)+1))).alloc (.cells #[.int .i64 3, .int .i64 a] 78)=W2:=⟨_,rfl⟩;rw[hW2]at ed fw ⊢;obtain⟨sb,hsb⟩:∃sb,W.heap.size=sb:=⟨_,rfl⟩;rw[hsb]at fw ⊢;have s0:=fw.out.cell (j:=0) rfl;have s1:=fw.out.cell (j:=1) rfl;have uO:=fw.out.lt;have HM:=aa ed.out;clear c1 c6 f6 z0 z1 hW2 hsb ed jX;have htk:=(aN.out.qd Q).take;rw[HST.out.1,HST.out.2.1,show Hg.tk c.fs 3 a=1 by simp[Hg.tk]]at htk;have hlen:=aN.out.good.here;obtain⟨j,hj1⟩:∃j,pile.length=j+1:=⟨pile.length-1,by omega⟩;have HJ:=aa hj1;have qA:j<=20:=by{omega};clear htk hlen hj1 hpl;obtain⟨v,hv⟩:∃v,pile.getD j 0=v:=⟨_,rfl⟩;have HV:Hid (Mn.dx pile=v):=by{show _=_;rw[Mn.dP HJ.out];exact hv};have yI:Hid (Wd.ok v=true):=by{show _=_;rw[←hv];exact Mn.dB hG.wp j};have qF:=aa hv;clear hv;have hlo:=(aN.out.qd Q).loc (.inr (.inl HST.out.1));rw[HST.out.2.1]at hlo;have hnl:=Q.nl;have ha0:0<=a:=by{have:=HST.out.2.2;simp only[St.ok,aj,Wd.aX]at this;have h0:0<=St.least 3:=by{decide};omega};obtain⟨an,rfl⟩:=Int.eq_ofNat_of_zero_le ha0;have uP:an<q.nl:=by{omega};have hlZ:(an:Int)<(q.nl:Int):=by{omega};have hl6:q.nl<=6:=by{have:=Mn.gD Q.dE.val Q.lt;omega};clear hlo hnl ha0;go_wp2_with fail;obtain⟨AA,bH⟩:∃AA:Bool->World->Prop,AA=fun t x=>(if t=true then KM c q ((aB:Int)+1) (pile.take j) loc mem (c.L q.k aB) ((c.aI:Int)-n) x else KM c q ((aB:Int)+1) pile loc mem (c.L q.k aB) ((c.aI:Int)-n) x)/\bz x sb 78 [.int .i64 3, .int .i64 (an:Int)]:=⟨_,rfl⟩;have jT:AA false W2.drew:=by{rw[bH];exact⟨HM.out.kept (Below.refl _ _).drew,fw.out.kept (Below.refl _ _).drew⟩};have hAs:∀{t:Bool}{x:World},AA t x->x.cell? ⟨sb,1,none⟩=some (.int .i64 (an:Int)):=fun h=>by{rw[bH]at h;exact h.2.cell (j:=1) rfl};have lM:∀{x:World},AA false x->KM c q ((aB:Int)+1) pile loc mem (c.L q.k aB) ((c.aI:Int)-n) x/\bz x sb 78 [.int .i64 3, .int .i64 (an:Int)]:=fun h=>by{rw[bH]at h;exact h};have hAt:∀{x:World},AA true x->KM c q ((aB:Int)+1) (pile.take j) loc mem (c.L q.k aB) ((c.aI:Int)-n) x/\bz x sb 78 [.int .i64 3, .int .i64 (an:Int)]:=fun h=>by{rw[bH]at h;exact h};have oZ:∀{x x':World},AA false x->KM c q ((aB:Int)+1) (pile.take j) loc mem (c.L q.k aB) ((c.aI:Int)-n) x'->bL x x'->AA true x':=fun h1 h2 h3=>by{rw[bH]at h1 ⊢;exact⟨h2,h1.2.stays h3 (by decide) (by decide) (by decide) (by decide)⟩};have fB:∀{t:Bool}{x:World},AA t x->∃pl lo,KM c q ((aB:Int)+1) pl lo mem (c.L q.k aB) ((c.aI:Int)-n) x:=fun{t} {x} h=>by{rw[bH]at h;cases t;{exact⟨_,_,h.1⟩};exact⟨_,_,h.1⟩};have hAk:∀{t:Bool}{x x':World},AA t x->Below x.heap.size x x'->AA t x':=fun{t} {x} {x'} h hB=>by{rw[bH]at h ⊢;refine⟨?_,h.2.kept hB⟩;cases t;{exact KM.kept (show KM c q ((aB:Int)+1) pile loc mem (c.L q.k aB) ((c.aI:Int)-n) x from h.1) hB};exact KM.kept (show KM c q ((aB:Int)+1) (pile.take j) loc mem (c.L q.k aB) ((c.aI:Int)-n) x from h.1) hB};clear bH s0 s1;refine bC 8 [55,56,57,58,59,60,61,62] 7 AA (fun j y _=>y=[.pointer (some ⟨q.C,0,none⟩), .pointer (some ⟨q.C,0,none⟩), .pointer (some ⟨q.C,3,none⟩), .slice (some ⟨q.gl,0,none⟩) q.nl q.nl, .pointer (some ⟨sb,1,none⟩), .int .i64 (an:Int), .pointer (some ⟨q.C,0,none⟩), .int .u32 v].getD j undef) (by kernel_rfl) (by kernel_rfl) (by simp) jT ?_ ?_;{simp only[List.take_succ_cons,List.take_zero];refine⟨?_,?_,?_,?_,?_,?_,?_,?_,trivial⟩;(all_goals(intro t b x hA ht hm hfr hdf aD;replace hdf:=aa hdf));have e0:b.tmps[0]?.getD undef= .pointer (some ⟨q.C,0,none⟩):=aA (hfr 0 (by decide));rotate_left;have e55:b.tmps[55]?.getD undef= .pointer (some ⟨q.C,0,none⟩):=aA (aD 0 (by kernel_rfl));rotate_left;have e56:b.tmps[56]?.getD undef= .pointer (some ⟨q.C,0,none⟩):=aA (aD 1 (by kernel_rfl));rotate_left;have e57:b.tmps[57]?.getD undef= .pointer (some ⟨q.C,3,none⟩):=aA (aD 2 (by kernel_rfl));obtain⟨pl,lo,Em⟩:=fB hA;obtain⟨v4,u4,o5,-⟩:=Em.box;have l3:=o5.cell (j:=3) rfl;clear Em o5;rotate_left;have e3:b.tmps[3]?.getD undef= .pointer (some ⟨sb,0,none⟩):=aA (hfr 3 (by decide));rotate_left;have e59:b.tmps[59]?.getD undef= .pointer (some ⟨sb,1,none⟩):=aA (aD 4 (by kernel_rfl));have s1:=hAs hA;rotate_left;have e0:b.tmps[0]?.getD undef= .pointer (some ⟨q.C,0,none⟩):=aA (hfr 0 (by decide));rotate_left;{have e61:b.tmps[61]?.getD undef= .pointer (some ⟨q.C,0,none⟩):=aA (aD 6 (by kernel_rfl));unfold Oper.wp;generalize hK:(fun(b':Act) (x':World)=>∃y,_/\_)=K;simp only[execOp];go_simp;obtain rfl:=ht rfl;obtain⟨sV,hS0⟩:=lM hA;refine(gm HJ.out (by omega) sV).mono ?_;rintro e w' ⟨rfl,hK1,hS1⟩;rw[qF.out];rw[←hK];exact⟨_,rfl,fM (oZ hA hK1 hS1),rfl,fun i z h=>h⟩};all_goals(unfold Oper.wp;generalize hK:(fun(b':Act) (x':World)=>∃y,_/\_)=K;simp only[execOp];go_simp;rw[←hK];exact⟨_,rfl,bK hA,rfl,fun i z h=>h⟩)};intro b x hA hF hb;have e55:b.eval (.tmp 55)= .pointer (some ⟨q.C,0,none⟩):=hF 0 (by decide);have e56:b.eval (.tmp 56)= .pointer (some ⟨q.C,0,none⟩):=hF 1 (by decide);have e57:b.eval (.tmp 57)= .pointer (some ⟨q.C,3,none⟩):=hF 2 (by decide);have e58:b.eval (.tmp 58)= .slice (some ⟨q.gl,0,none⟩) q.nl q.nl:=hF 3 (by decide);have e59:b.eval (.tmp 59)= .pointer (some ⟨sb,1,none⟩):=hF 4 (by decide);have e60:b.eval (.tmp 60)= .int .i64 (an:Int):=hF 5 (by decide);have e61:b.eval (.tmp 61)= .pointer (some ⟨q.C,0,none⟩):=hF 6 (by decide);have e62:b.eval (.tmp 62)= .int .u32 v:=hF 7 (by decide);simp only[List.foldl,e55,e56,e57,e58,e59,e60,e61,e62]at hb;clear hF e55 e56 e57 e58 e59 e60 e61 e62;subst hb;simp only[List.drop_succ_cons,List.drop_zero];go_simp;have hA1:AA true x:=by{simpa using hA};clear hA;obtain⟨hK1,hS⟩:=hAt hA1;obtain⟨v4,u4,o5,-⟩:=hK1.box;have l4:=hK1.lr.cellAt an (by omega);rw[gK (by rw[hK1.ll];exact uP)]at l4;obtain⟨y0,hy0⟩:∃y0,wv (loc.getD an 0)=y0:=⟨_,rfl⟩;rw[hy0]at l4;have l5:=hK1.lr.frozenAt an;have Ju:=aa (hK1.Le an v);clear hK1 hS o5 hy0;clear hA1 lM hAt oZ hAs fB hAk;go_wp2;(try simp only[Exit.inBlock,Exit.then]);refine bodyPost_end (results_none rfl _ _ _) rfl ?_;exact aN.out.next Q ((Mn.st3 HST.out.1 HST.out.2.1).trans (by rw[az,HV.out,Mn.di HJ.out])) (a2:=aB+1) Ju.out.1 (iq Q hG.lt (by rw[HST.out.1];rfl) (by rw[HST.out.1];decide))
theorem Vf {c:PC}{W0:World}{q:KK}{R:Mn.Rs}{aB:Nat}{pile loc mem:List Int}{n:Nat}{W:World}{p a:Int}(Q:KQ c W0 q)(aN:Hid (KJ c q R aB pile loc mem n W))(HST:Hid (aG.op (Mn.fn c.fs q.k).b aB=p/\Hg.arg (Mn.fn c.fs q.k).b aB=a/\St.ok p a=true))(HP:Hid (p=4)):Calls Tryz.prog 77 #[.pointer (some ⟨q.C,0,none⟩)] W (SP c q R n):=by obtain rfl:=HP.out;have hG:=aN.out.good;have hat:aB<q.bl:=by{have:=hG.lt;have:=Q.len;omega};have dM:=Q.mR;have hpl:pile.length<=20:=by{have h1:=hG.here;have h2:=(Q.dE.val.acc q.k Q.lt).dx aB hG.lt;omega};have iF:(c.L q.k aB).length<=81:=by{have:=fT (c:=c) (q:=q) (aB:=aB);omega};obtain⟨v,u,hA,hv,hu⟩:=aN.out.km.box;have c1:=hA.cell (j:=1) rfl;have c6:=hA.cell (j:=6) rfl;have f6:=hA.frozen 6;have mY:=fU Q (Q.dI.trans aN.out.km.dI);obtain⟨-,-,hrow⟩:=mY;rcases hrow with h0|⟨bb,bo,eb,hbb,dL⟩;{omega};obtain⟨gq,gu⟩:q.bb=bb/\q.bo=bo:=by{simpa using eb};have z0:=(dL aB hat).1;have z1:=(dL aB hat).2;have e0:((Mn.fn c.fs q.k).b.getD aB (0,0)).1=4:=HST.out.1;have e1:((Mn.fn c.fs q.k).b.getD aB (0,0)).2=a:=HST.out.2.1;rw[e0,←gq,←gu]at z0;rw[e1,←gq,←gu]at z1;clear dL eb gq gu e0 e1 hbb hv hu;have gy:(aB:Int)<(q.bl:Int):=by{omega};have jX:=aN.out.km.yU;have hsz:(W.setCell ⟨q.C,6,none⟩ (.int .i64 ((aB:Int)+1))).heap.size=W.heap.size:=by{simp[World.setCell]};have ed:=aa ((aN.out.km.setAt ((aB:Int)+1) (df.of (Below.refl _ _) jX _)).1.kept (aC _ (.cells #[.int .i64 4, .int .i64 a] 78)));have fw:Hid (bz ((W.setCell ⟨q.C,6,none⟩ (.int .i64 ((aB:Int)+1))).alloc (.cells #[.int .i64 4, .int .i64 a] 78)) W.heap.size 78 [.int .i64 4, .int .i64 a]):=by{have:=heap_alloc_last (W.setCell ⟨q.C,6,none⟩ (.int .i64 ((aB:Int)+1))) (.cells #[.int .i64 4, .int .i64 a] 78);rw[hsz]at this;exact this};clear hsz hA;go_enter Tryz.func77,Tryz.ntmps77;go_upto_region 3 with fail;obtain⟨W2,hW2⟩:∃W2,(W.setCell ⟨q.C,6,none⟩ (.int .i64 ((aB:Int)+1))).alloc (.cells #[.int .i64 4, .int .i64 a] 78)=W2:=⟨_,rfl⟩;rw[hW2]at ed fw ⊢;obtain⟨sb,hsb⟩:∃sb,W.heap.size=sb:=⟨_,rfl⟩;rw[hsb]at fw ⊢;have s0:=fw.out.cell (j:=0) rfl;have s1:=fw.out.cell (j:=1) rfl;have uO:=fw.out.lt;have HM:=aa ed.out;clear c1 c6 f6 z0 z1 hW2 hsb ed jX;have htk:=(aN.out.qd Q).take;rw[HST.out.1,HST.out.2.1,show Hg.tk c.fs 4 a=1 by simp[Hg.tk]]at htk;have hlen:=aN.out.good.here;obtain⟨j,hj1⟩:∃j,pile.length=j+1:=⟨pile.length-1,by omega⟩;have HJ:=aa hj1;have qA:j<=20:=by{omega};clear htk hlen hj1 hpl;obtain⟨v,hv⟩:∃v,pile.getD j 0=v:=⟨_,rfl⟩;have HV:Hid (Mn.dx pile=v):=by{show _=_;rw[Mn.dP HJ.out];exact hv};have yI:Hid (Wd.ok v=true):=by{show _=_;rw[←hv];exact Mn.dB hG.wp j};have qF:=aa hv;clear hv;have hlo:=(aN.out.qd Q).loc (.inr (.inr HST.out.1));rw[HST.out.2.1]at hlo;have hnl:=Q.nl;have ha0:0<=a:=by{have:=HST.out.2.2;simp only[St.ok,aj,Wd.aX]at this;have h0:0<=St.least 4:=by{decide};omega};obtain⟨an,rfl⟩:=Int.eq_ofNat_of_zero_le ha0;have uP:an<q.nl:=by{omega};have hlZ:(an:Int)<(q.nl:Int):=by{omega};have hl6:q.nl<=6:=by{have:=Mn.gD Q.dE.val Q.lt;omega};clear hlo hnl ha0;go_wp2_with fail;obtain⟨AA,bH⟩:∃AA:Bool->World->Prop,AA=fun t x=>(if t=true then KM c q ((aB:Int)+1) pile (loc.set an v) mem (c.L q.k aB) ((c.aI:Int)-n) x else KM c q ((aB:Int)+1) pile loc mem (c.L q.k aB) ((c.aI:Int)-n) x)/\bz x sb 78 [.int .i64 4, .int .i64 (an:Int)]:=⟨_,rfl⟩;have jT:AA false W2.drew:=by{rw[bH];exact⟨HM.out.kept (Below.refl _ _).drew,fw.out.kept (Below.refl _ _).drew⟩};have hAs:∀{t:Bool}{x:World},AA t x->x.cell? ⟨sb,1,none⟩=some (.int .i64 (an:Int)):=fun h=>by{rw[bH]at h;exact h.2.cell (j:=1) rfl};have lM:∀{x:World},AA false x->KM c q ((aB:Int)+1) pile loc mem (c.L q.k aB) ((c.aI:Int)-n) x/\bz x sb 78 [.int .i64 4, .int .i64 (an:Int)]:=fun h=>by{rw[bH]at h;exact h};have hAt:∀{x:World},AA true x->KM c q ((aB:Int)+1) pile (loc.set an v) mem (c.L q.k aB) ((c.aI:Int)-n) x/\bz x sb 78 [.int .i64 4, .int .i64 (an:Int)]:=fun h=>by{rw[bH]at h;exact h};have oZ:∀{x x':World},AA false x->KM c q ((aB:Int)+1) pile (loc.set an v) mem (c.L q.k aB) ((c.aI:Int)-n) x'->bL x x'->AA true x':=fun h1 h2 h3=>by{rw[bH]at h1 ⊢;exact⟨h2,h1.2.stays h3 (by decide) (by decide) (by decide) (by decide)⟩};have fB:∀{t:Bool}{x:World},AA t x->∃pl lo,KM c q ((aB:Int)+1) pl lo mem (c.L q.k aB) ((c.aI:Int)-n) x:=fun{t} {x} h=>by{rw[bH]at h;cases t;{exact⟨_,_,h.1⟩};exact⟨_,_,h.1⟩};have hAk:∀{t:Bool}{x x':World},AA t x->Below x.heap.size x x'->AA t x':=fun{t} {x} {x'} h hB=>by{rw[bH]at h ⊢;refine⟨?_,h.2.kept hB⟩;cases t;{exact KM.kept (show KM c q ((aB:Int)+1) pile loc mem (c.L q.k aB) ((c.aI:Int)-n) x from h.1) hB};exact KM.kept (show KM c q ((aB:Int)+1) pile (loc.set an v) mem (c.L q.k aB) ((c.aI:Int)-n) x from h.1) hB};have hAp:∀{t:Bool}{x:World},AA t x->∃lo,KM c q ((aB:Int)+1) pile lo mem (c.L q.k aB) ((c.aI:Int)-n) x:=fun{t} {x} h=>by{rw[bH]at h;cases t;{exact⟨_,h.1⟩};exact⟨_,h.1⟩};clear bH s0 s1;refine nE [67,68,69,70,71,72,73,74,75,76,66,77,78,79,100000] 14 14 AA [.pointer (some ⟨q.C,0,none⟩), .pointer (some ⟨q.C,0,none⟩), .pointer (some ⟨q.C,3,none⟩), .slice (some ⟨q.gl,0,none⟩) q.nl q.nl, .pointer (some ⟨sb,1,none⟩), .int .i64 (an:Int), .pointer (some ⟨q.C,0,none⟩), .pointer (some ⟨q.C,0,none⟩), .pointer (some ⟨q.C,4,none⟩), .tuple #[.int .u32 v, .bool true], .tuple #[.int .u32 v, .bool true], .int .u32 v, .bool true, .pointer (some ⟨q.gl,an,none⟩),undef] (by kernel_rfl) (by kernel_rfl) rfl jT ?_ ?_;{refine⟨?_,?_,?_,?_,?_,?_,?_,?_,?_,?_,?_,?_,?_,?_,?_,trivial⟩;(all_goals(intro t b x hA ht hm hfr hdf aD;replace hdf:=aa hdf));have e0:b.tmps[0]?.getD undef= .pointer (some ⟨q.C,0,none⟩):=aA (hfr 0 (by decide));rotate_left;have Yo:b.tmps[67]?.getD undef= .pointer (some ⟨q.C,0,none⟩):=aA (aD 0 (by kernel_rfl));rotate_left;have Yp:b.tmps[68]?.getD undef= .pointer (some ⟨q.C,0,none⟩):=aA (aD 1 (by kernel_rfl));rotate_left;have e69:b.tmps[69]?.getD undef= .pointer (some ⟨q.C,3,none⟩):=aA (aD 2 (by kernel_rfl));obtain⟨pl,lo,Em⟩:=fB hA;obtain⟨v4,u4,o5,-⟩:=Em.box;have l3:=o5.cell (j:=3) rfl;clear Em o5;rotate_left;have e3:b.tmps[3]?.getD undef= .pointer (some ⟨sb,0,none⟩):=aA (hfr 3 (by decide));rotate_left;have e71:b.tmps[71]?.getD undef= .pointer (some ⟨sb,1,none⟩):=aA (aD 4 (by kernel_rfl));have s1:=hAs hA;rotate_left;have e0:b.tmps[0]?.getD undef= .pointer (some ⟨q.C,0,none⟩):=aA (hfr 0 (by decide));rotate_left;have e73:b.tmps[73]?.getD undef= .pointer (some ⟨q.C,0,none⟩):=aA (aD 6 (by kernel_rfl));rotate_left;have e74:b.tmps[74]?.getD undef= .pointer (some ⟨q.C,0,none⟩):=aA (aD 7 (by kernel_rfl));rotate_left;{have e75:b.tmps[75]?.getD undef= .pointer (some ⟨q.C,4,none⟩):=aA (aD 8 (by kernel_rfl));unfold Oper.wp;generalize hK:(fun(b':Act) (x':World)=>∃y,_/\_)=K;simp only[execOp];go_simp;obtain⟨lo,sV⟩:=hAp hA;refine(abh HJ.out (by omega) sV).mono ?_;rintro e w' ⟨rfl,hB1⟩;rw[qF.out];rw[←hK];exact⟨_,rfl,bK (hAk hA hB1),rfl,fun i z h=>h⟩};have e76:b.tmps[76]?.getD undef= .tuple #[.int .u32 v, .bool true]:=aA (aD 9 (by kernel_rfl));rotate_left;have WY:b.tmps[66]?.getD undef= .tuple #[.int .u32 v, .bool true]:=aA (aD 10 (by kernel_rfl));rotate_left;have WY:b.tmps[66]?.getD undef= .tuple #[.int .u32 v, .bool true]:=aA (aD 10 (by kernel_rfl));rotate_left;have e70:b.tmps[70]?.getD undef= .slice (some ⟨q.gl,0,none⟩) q.nl q.nl:=aA (aD 3 (by kernel_rfl));have e72:b.tmps[72]?.getD undef= .int .i64 (an:Int):=aA (aD 5 (by kernel_rfl));rotate_left;{have e79:b.tmps[79]?.getD undef= .pointer (some ⟨q.gl,an,none⟩):=aA (aD 13 (by kernel_rfl));have e77:b.tmps[77]?.getD undef= .int .u32 v:=aA (aD 11 (by kernel_rfl));obtain rfl:=ht rfl;obtain⟨hK1,hS⟩:=lM hA;have l4:=hK1.lr.cellAt an (by omega);rw[gK (by rw[hK1.ll];exact uP)]at l4;obtain⟨y0,hy0⟩:∃y0,wv (loc.getD an 0)=y0:=⟨_,rfl⟩;rw[hy0]at l4;have l5:=hK1.lr.frozenAt an;have Ju:=aa (hK1.Le an v);clear hK1 hS hy0;unfold Oper.wp;generalize hK:(fun(b':Act) (x':World)=>∃y,_/\_)=K;simp only[execOp];go_simp;rw[←hK];exact⟨undef,rfl,fM (oZ hA Ju.out.1 Ju.out.2),rfl,fun i z h=>h⟩};all_goals(unfold Oper.wp;generalize hK:(fun(b':Act) (x':World)=>∃y,_/\_)=K;simp only[execOp];go_simp;rw[←hK];exact⟨_,rfl,bK hA,rfl,fun i z h=>h⟩)};intro b x hA hF hb;have Yo:b.eval (.tmp 67)= .pointer (some ⟨q.C,0,none⟩):=hF 0 (by decide);have Yp:b.eval (.tmp 68)= .pointer (some ⟨q.C,0,none⟩):=hF 1 (by decide);have e69:b.eval (.tmp 69)= .pointer (some ⟨q.C,3,none⟩):=hF 2 (by decide);have e70:b.eval (.tmp 70)= .slice (some ⟨q.gl,0,none⟩) q.nl q.nl:=hF 3 (by decide);have e71:b.eval (.tmp 71)= .pointer (some ⟨sb,1,none⟩):=hF 4 (by decide);have e72:b.eval (.tmp 72)= .int .i64 (an:Int):=hF 5 (by decide);have e73:b.eval (.tmp 73)= .pointer (some ⟨q.C,0,none⟩):=hF 6 (by decide);have e74:b.eval (.tmp 74)= .pointer (some ⟨q.C,0,none⟩):=hF 7 (by decide);have e75:b.eval (.tmp 75)= .pointer (some ⟨q.C,4,none⟩):=hF 8 (by decide);have e76:b.eval (.tmp 76)= .tuple #[.int .u32 v, .bool true]:=hF 9 (by decide);have WY:b.eval (.tmp 66)= .tuple #[.int .u32 v, .bool true]:=hF 10 (by decide);have e77:b.eval (.tmp 77)= .int .u32 v:=hF 11 (by decide);have e78:b.eval (.tmp 78)= .bool true:=hF 12 (by decide);have e79:b.eval (.tmp 79)= .pointer (some ⟨q.gl,an,none⟩):=hF 13 (by decide);obtain⟨zz,je⟩:∃z,b.eval (.tmp 100000)=z:=⟨_,rfl⟩;simp only[List.foldl,Yo,Yp,e69,e70,e71,e72,e73,e74,e75,e76,WY,e77,e78,e79,je]at hb;clear hF Yo Yp e69 e70 e71 e72 e73 e74 e75 e76 WY e77 e78 e79 je;subst hb;go_simp;have hA1:AA true x:=by{simpa using hA};clear hA;obtain⟨hK1,hS⟩:=hAt hA1;have Ju:=aa hK1;clear hK1 hS;clear hA1 lM hAt oZ hAs fB hAk hAp;go_wp2;(try simp only[Exit.inBlock,Exit.then]);refine bodyPost_end (results_none rfl _ _ _) rfl ?_;exact aN.out.next Q ((Mn.st4 HST.out.1 HST.out.2.1).trans (by rw[az,HV.out])) (a2:=aB+1) Ju.out (iq Q hG.lt (by rw[HST.out.1];rfl) (by rw[HST.out.1];decide))
theorem Ul {c:PC}{W0:World}{q:KK}{R:Mn.Rs}{aB:Nat}{pile loc mem:List Int}{n:Nat}{W:World}{p a:Int}(Q:KQ c W0 q)(aN:Hid (KJ c q R aB pile loc mem n W))(HST:Hid (aG.op (Mn.fn c.fs q.k).b aB=p/\Hg.arg (Mn.fn c.fs q.k).b aB=a/\St.ok p a=true))(HP:Hid (p=5)):Calls Tryz.prog 77 #[.pointer (some ⟨q.C,0,none⟩)] W (SP c q R n):=by obtain rfl:=HP.out;have hG:=aN.out.good;have hat:aB<q.bl:=by{have:=hG.lt;have:=Q.len;omega};have dM:=Q.mR;have hpl:pile.length<=20:=by{have h1:=hG.here;have h2:=(Q.dE.val.acc q.k Q.lt).dx aB hG.lt;omega};have iF:(c.L q.k aB).length<=81:=by{have:=fT (c:=c) (q:=q) (aB:=aB);omega};obtain⟨v,u,hA,hv,hu⟩:=aN.out.km.box;have c1:=hA.cell (j:=1) rfl;have c6:=hA.cell (j:=6) rfl;have f6:=hA.frozen 6;have mY:=fU Q (Q.dI.trans aN.out.km.dI);obtain⟨-,-,hrow⟩:=mY;rcases hrow with h0|⟨bb,bo,eb,hbb,dL⟩;{omega};obtain⟨gq,gu⟩:q.bb=bb/\q.bo=bo:=by{simpa using eb};have z0:=(dL aB hat).1;have z1:=(dL aB hat).2;have e0:((Mn.fn c.fs q.k).b.getD aB (0,0)).1=5:=HST.out.1;have e1:((Mn.fn c.fs q.k).b.getD aB (0,0)).2=a:=HST.out.2.1;rw[e0,←gq,←gu]at z0;rw[e1,←gq,←gu]at z1;clear dL eb gq gu e0 e1 hbb hv hu;have gy:(aB:Int)<(q.bl:Int):=by{omega};have jX:=aN.out.km.yU;have hsz:(W.setCell ⟨q.C,6,none⟩ (.int .i64 ((aB:Int)+1))).heap.size=W.heap.size:=by{simp[World.setCell]};have ed:=aa ((aN.out.km.setAt ((aB:Int)+1) (df.of (Below.refl _ _) jX _)).1.kept (aC _ (.cells #[.int .i64 5, .int .i64 a] 78)));have fw:Hid (bz ((W.setCell ⟨q.C,6,none⟩ (.int .i64 ((aB:Int)+1))).alloc (.cells #[.int .i64 5, .int .i64 a] 78)) W.heap.size 78 [.int .i64 5, .int .i64 a]):=by{have:=heap_alloc_last (W.setCell ⟨q.C,6,none⟩ (.int .i64 ((aB:Int)+1))) (.cells #[.int .i64 5, .int .i64 a] 78);rw[hsz]at this;exact this};clear hsz hA;go_enter Tryz.func77,Tryz.ntmps77;go_upto_region 3 with fail;obtain⟨W2,hW2⟩:∃W2,(W.setCell ⟨q.C,6,none⟩ (.int .i64 ((aB:Int)+1))).alloc (.cells #[.int .i64 5, .int .i64 a] 78)=W2:=⟨_,rfl⟩;rw[hW2]at ed fw ⊢;obtain⟨sb,hsb⟩:∃sb,W.heap.size=sb:=⟨_,rfl⟩;rw[hsb]at fw ⊢;have s0:=fw.out.cell (j:=0) rfl;have s1:=fw.out.cell (j:=1) rfl;have uO:=fw.out.lt;have HM:=aa ed.out;clear c1 c6 f6 z0 z1 hW2 hsb ed jX;by_cases hn:Wd.dc a (Mn.under pile) (Mn.dx pile)=0;{have HN:=aa hn;clear hn;have ha0:1<=a/\a<=12:=by{have:=HST.out.2.2;simp only[St.ok,aj,Wd.aX]at this;have h0:St.least 5=1:=by{decide};have h1:St.bg 5=12:=by{decide};omega};obtain⟨ha1,ha2⟩:=ha0;have htk:=(aN.out.qd Q).take;rw[HST.out.1,HST.out.2.1,show Hg.tk c.fs 5 a=2 by simp[Hg.tk]]at htk;have hlen:=aN.out.good.here;obtain⟨j,hj1⟩:∃j,pile.length=j+2:=⟨pile.length-2,by omega⟩;have HJ:=aa hj1;have qA:j<=20:=by{omega};clear htk hlen hj1 hpl;obtain⟨v,hv⟩:∃v,pile.getD (j+1) 0=v:=⟨_,rfl⟩;obtain⟨u,hu⟩:∃u,pile.getD j 0=u:=⟨_,rfl⟩;have HV:Hid (Mn.dx pile=v):=by{show _=_;rw[Mn.dP (j:=j+1) HJ.out];exact hv};have HU:Hid (Mn.under pile=u):=by{show _=_;rw[Mn.jK HJ.out];exact hu};have yI:Hid (Wd.ok v=true):=by{show _=_;rw[←hv];exact Mn.dB hG.wp _};have Yq:Hid (Wd.ok u=true):=by{show _=_;rw[←hu];exact Mn.dB hG.wp _};have qF:=aa hv;obtain⟨pl,hpl⟩:∃pl,pile.take (j+1)=pl:=⟨_,rfl⟩;have WZ:Hid (pl.length=j+1):=by{show _=_;rw[←hpl,List.length_take,HJ.out];omega};have Yr:Hid (pl.getD j 0=u):=by{show _=_;rw[←hpl,←hu,af,af,List.getElem?_take_of_lt (by omega)]};have F9:Hid (pl.take j=pile.take j):=by{show _=_;rw[←hpl,List.take_take];congr 1;omega};have Gg:=aa hpl;clear hv hu hpl;go_wp2_with fail;refine(gm (j:=j+1) HJ.out (by omega) HM.out).mono ?_;rintro e W3 ⟨rfl,hK3,uF⟩;rw[qF.out];dsimp only;rw[Gg.out]at hK3;have gQ:=aa hK3;have mX:=aa (fw.out.stays uF (by decide) (by decide) (by decide) (by decide));have s0:=mX.out.cell (j:=0) rfl;have s1:=mX.out.cell (j:=1) rfl;clear hK3 uF;obtain⟨y0,hy0⟩:∃y0,Wd.dv a u v=y0:=⟨_,rfl⟩;have HY:=aa hy0;clear hy0;have HDC:Hid (Wd.dc a u v=0):=by{show _=_;rw[←HU.out,←HV.out];exact HN.out};go_wp2_with fail;obtain⟨AA,bH⟩:∃AA:Bool->World->Prop,AA=fun t x=>(if t=true then KM c q ((aB:Int)+1) (pl.take j) loc mem (c.L q.k aB) ((c.aI:Int)-n) x else KM c q ((aB:Int)+1) pl loc mem (c.L q.k aB) ((c.aI:Int)-n) x)/\bz x sb 78 [.int .i64 5, .int .i64 a]:=⟨_,rfl⟩;have jT:AA false W3.drew:=by{rw[bH];exact⟨gQ.out.kept (Below.refl _ _).drew,mX.out.kept (Below.refl _ _).drew⟩};have hAs:∀{t:Bool}{x:World},AA t x->x.cell? ⟨sb,1,none⟩=some (.int .i64 a):=fun h=>by{rw[bH]at h;exact h.2.cell (j:=1) rfl};have lM:∀{x:World},AA false x->KM c q ((aB:Int)+1) pl loc mem (c.L q.k aB) ((c.aI:Int)-n) x/\bz x sb 78 [.int .i64 5, .int .i64 a]:=fun h=>by{rw[bH]at h;exact h};have hAt:∀{x:World},AA true x->KM c q ((aB:Int)+1) (pl.take j) loc mem (c.L q.k aB) ((c.aI:Int)-n) x/\bz x sb 78 [.int .i64 5, .int .i64 a]:=fun h=>by{rw[bH]at h;exact h};have oZ:∀{x x':World},AA false x->KM c q ((aB:Int)+1) (pl.take j) loc mem (c.L q.k aB) ((c.aI:Int)-n) x'->bL x x'->AA true x':=fun h1 h2 h3=>by{rw[bH]at h1 ⊢;exact⟨h2,h1.2.stays h3 (by decide) (by decide) (by decide) (by decide)⟩};have fB:∀{t:Bool}{x:World},AA t x->∃pl lo,KM c q ((aB:Int)+1) pl lo mem (c.L q.k aB) ((c.aI:Int)-n) x:=fun{t} {x} h=>by{rw[bH]at h;cases t;{exact⟨_,_,h.1⟩};exact⟨_,_,h.1⟩};have hAk:∀{t:Bool}{x x':World},AA t x->Below x.heap.size x x'->AA t x':=fun{t} {x} {x'} h hB=>by{rw[bH]at h ⊢;refine⟨?_,h.2.kept hB⟩;cases t;{exact KM.kept (show KM c q ((aB:Int)+1) pl loc mem (c.L q.k aB) ((c.aI:Int)-n) x from h.1) hB};exact KM.kept (show KM c q ((aB:Int)+1) (pl.take j) loc mem (c.L q.k aB) ((c.aI:Int)-n) x from h.1) hB};clear bH s0 s1;refine bC 9 [84,85,86,87,88,89,90,91,92] 6 AA (fun j y _=>y=[.pointer (some ⟨q.C,0,none⟩), .pointer (some ⟨q.C,0,none⟩), .pointer (some ⟨q.C,4,none⟩), .pointer (some ⟨sb,1,none⟩), .int .i64 a, .pointer (some ⟨q.C,0,none⟩), .int .u32 u, .int .u32 v, .int .u32 y0].getD j undef) (by kernel_rfl) (by kernel_rfl) (by simp) jT ?_ ?_;{simp only[List.take_succ_cons,List.take_zero];refine⟨?_,?_,?_,?_,?_,?_,?_,?_,?_,trivial⟩;(all_goals(intro t b x hA ht hm hfr hdf aD;replace hdf:=aa hdf));have e0:b.tmps[0]?.getD undef= .pointer (some ⟨q.C,0,none⟩):=aA (hfr 0 (by decide));rotate_left;have e84:b.tmps[84]?.getD undef= .pointer (some ⟨q.C,0,none⟩):=aA (aD 0 (by kernel_rfl));rotate_left;have e85:b.tmps[85]?.getD undef= .pointer (some ⟨q.C,0,none⟩):=aA (aD 1 (by kernel_rfl));rotate_left;have e3:b.tmps[3]?.getD undef= .pointer (some ⟨sb,0,none⟩):=aA (hfr 3 (by decide));rotate_left;have e87:b.tmps[87]?.getD undef= .pointer (some ⟨sb,1,none⟩):=aA (aD 3 (by kernel_rfl));have s1:=hAs hA;rotate_left;have e0:b.tmps[0]?.getD undef= .pointer (some ⟨q.C,0,none⟩):=aA (hfr 0 (by decide));rotate_left;{have e89:b.tmps[89]?.getD undef= .pointer (some ⟨q.C,0,none⟩):=aA (aD 5 (by kernel_rfl));unfold Oper.wp;generalize hK:(fun(b':Act) (x':World)=>∃y,_/\_)=K;simp only[execOp];go_simp;obtain rfl:=ht rfl;obtain⟨sV,hS0⟩:=lM hA;refine(gm WZ.out (by omega) sV).mono ?_;rintro e w' ⟨rfl,hK1,hS1⟩;rw[Yr.out];rw[←hK];exact⟨_,rfl,fM (oZ hA hK1 hS1),rfl,fun i z h=>h⟩};have e4:b.tmps[4]?.getD undef= .int .u32 v:=aA (hfr 4 (by decide));rotate_left;{have e88:b.tmps[88]?.getD undef= .int .i64 a:=aA (aD 4 (by kernel_rfl));have e90:b.tmps[90]?.getD undef= .int .u32 u:=aA (aD 6 (by kernel_rfl));have e91:b.tmps[91]?.getD undef= .int .u32 v:=aA (aD 7 (by kernel_rfl));unfold Oper.wp;generalize hK:(fun(b':Act) (x':World)=>∃y,_/\_)=K;simp only[execOp];go_simp;have hcon:=rP a u v Yq.out yI.out HDC.out x;rw[HY.out]at hcon;refine hcon.mono ?_;rintro e w' ⟨rfl,hB1⟩;rw[←hK];exact⟨_,rfl,bK (hAk hA hB1),rfl,fun i z h=>h⟩};all_goals(unfold Oper.wp;generalize hK:(fun(b':Act) (x':World)=>∃y,_/\_)=K;simp only[execOp];go_simp;rw[←hK];exact⟨_,rfl,bK hA,rfl,fun i z h=>h⟩)};intro b x hA hF hb;have e84:b.eval (.tmp 84)= .pointer (some ⟨q.C,0,none⟩):=hF 0 (by decide);have e85:b.eval (.tmp 85)= .pointer (some ⟨q.C,0,none⟩):=hF 1 (by decide);have e86:b.eval (.tmp 86)= .pointer (some ⟨q.C,4,none⟩):=hF 2 (by decide);have e87:b.eval (.tmp 87)= .pointer (some ⟨sb,1,none⟩):=hF 3 (by decide);have e88:b.eval (.tmp 88)= .int .i64 a:=hF 4 (by decide);have e89:b.eval (.tmp 89)= .pointer (some ⟨q.C,0,none⟩):=hF 5 (by decide);have e90:b.eval (.tmp 90)= .int .u32 u:=hF 6 (by decide);have e91:b.eval (.tmp 91)= .int .u32 v:=hF 7 (by decide);have e92:b.eval (.tmp 92)= .int .u32 y0:=hF 8 (by decide);simp only[List.foldl,e84,e85,e86,e87,e88,e89,e90,e91,e92]at hb;clear hF e84 e85 e86 e87 e88 e89 e90 e91 e92;subst hb;simp only[List.drop_succ_cons,List.drop_zero];go_simp;have hA1:AA true x:=by{simpa using hA};clear hA;obtain⟨hK1,hS⟩:=hAt hA1;clear hA1 lM hAt oZ hAs fB hAk;go_wp2_with fail;refine(wH y0 (by rw[List.length_take,WZ.out];omega) hK1).mono ?_;rintro e w3 ⟨rfl,hK3,-⟩;dsimp only;rw[F9.out]at hK3;have sU:=aa hK3;clear hK1 hS hK3;go_wp2;(try simp only[Exit.inBlock,Exit.then]);refine bodyPost_end (results_none rfl _ _ _) rfl ?_;exact aN.out.next Q ((Mn.abG HST.out.1 HST.out.2.1 HN.out).trans (by rw[HV.out,HU.out,Mn.di HJ.out,HY.out])) (a2:=aB+1) sU.out (iq Q hG.lt (by rw[HST.out.1];rfl) (by rw[HST.out.1];decide))};have HN:=aa hn;clear hn;have ha0:1<=a/\a<=12:=by{have:=HST.out.2.2;simp only[St.ok,aj,Wd.aX]at this;have h0:St.least 5=1:=by{decide};have h1:St.bg 5=12:=by{decide};omega};obtain⟨ha1,ha2⟩:=ha0;have htk:=(aN.out.qd Q).take;rw[HST.out.1,HST.out.2.1,show Hg.tk c.fs 5 a=2 by simp[Hg.tk]]at htk;have hlen:=aN.out.good.here;obtain⟨j,hj1⟩:∃j,pile.length=j+2:=⟨pile.length-2,by omega⟩;have HJ:=aa hj1;have qA:j<=20:=by{omega};clear htk hlen hj1 hpl;obtain⟨v,hv⟩:∃v,pile.getD (j+1) 0=v:=⟨_,rfl⟩;obtain⟨u,hu⟩:∃u,pile.getD j 0=u:=⟨_,rfl⟩;have HV:Hid (Mn.dx pile=v):=by{show _=_;rw[Mn.dP (j:=j+1) HJ.out];exact hv};have HU:Hid (Mn.under pile=u):=by{show _=_;rw[Mn.jK HJ.out];exact hu};have yI:Hid (Wd.ok v=true):=by{show _=_;rw[←hv];exact Mn.dB hG.wp _};have Yq:Hid (Wd.ok u=true):=by{show _=_;rw[←hu];exact Mn.dB hG.wp _};have qF:=aa hv;obtain⟨pl,hpl⟩:∃pl,pile.take (j+1)=pl:=⟨_,rfl⟩;have WZ:Hid (pl.length=j+1):=by{show _=_;rw[←hpl,List.length_take,HJ.out];omega};have Yr:Hid (pl.getD j 0=u):=by{show _=_;rw[←hpl,←hu,af,af,List.getElem?_take_of_lt (by omega)]};have F9:Hid (pl.take j=pile.take j):=by{show _=_;rw[←hpl,List.take_take];congr 1;omega};have Gg:=aa hpl;clear hv hu hpl;go_wp2_with fail;refine(gm (j:=j+1) HJ.out (by omega) HM.out).mono ?_;rintro e W3 ⟨rfl,hK3,uF⟩;rw[qF.out];dsimp only;rw[Gg.out]at hK3;have gQ:=aa hK3;have mX:=aa (fw.out.stays uF (by decide) (by decide) (by decide) (by decide));have s0:=mX.out.cell (j:=0) rfl;have s1:=mX.out.cell (j:=1) rfl;clear hK3 uF;have HDC:Hid (¬Wd.dc a u v=0):=by{show¬_;rw[←HU.out,←HV.out];exact HN.out};go_wp2_with fail;obtain⟨AA,bH⟩:∃AA:Bool->World->Prop,AA=fun t x=>(if t=true then KM c q ((aB:Int)+1) (pl.take j) loc mem (c.L q.k aB) ((c.aI:Int)-n) x else KM c q ((aB:Int)+1) pl loc mem (c.L q.k aB) ((c.aI:Int)-n) x)/\bz x sb 78 [.int .i64 5, .int .i64 a]:=⟨_,rfl⟩;have jT:AA false W3.drew:=by{rw[bH];exact⟨gQ.out.kept (Below.refl _ _).drew,mX.out.kept (Below.refl _ _).drew⟩};have hAs:∀{t:Bool}{x:World},AA t x->x.cell? ⟨sb,1,none⟩=some (.int .i64 a):=fun h=>by{rw[bH]at h;exact h.2.cell (j:=1) rfl};have lM:∀{x:World},AA false x->KM c q ((aB:Int)+1) pl loc mem (c.L q.k aB) ((c.aI:Int)-n) x/\bz x sb 78 [.int .i64 5, .int .i64 a]:=fun h=>by{rw[bH]at h;exact h};have hAt:∀{x:World},AA true x->KM c q ((aB:Int)+1) (pl.take j) loc mem (c.L q.k aB) ((c.aI:Int)-n) x/\bz x sb 78 [.int .i64 5, .int .i64 a]:=fun h=>by{rw[bH]at h;exact h};have oZ:∀{x x':World},AA false x->KM c q ((aB:Int)+1) (pl.take j) loc mem (c.L q.k aB) ((c.aI:Int)-n) x'->bL x x'->AA true x':=fun h1 h2 h3=>by{rw[bH]at h1 ⊢;exact⟨h2,h1.2.stays h3 (by decide) (by decide) (by decide) (by decide)⟩};have fB:∀{t:Bool}{x:World},AA t x->∃pl lo,KM c q ((aB:Int)+1) pl lo mem (c.L q.k aB) ((c.aI:Int)-n) x:=fun{t} {x} h=>by{rw[bH]at h;cases t;{exact⟨_,_,h.1⟩};exact⟨_,_,h.1⟩};have hAk:∀{t:Bool}{x x':World},AA t x->Below x.heap.size x x'->AA t x':=fun{t} {x} {x'} h hB=>by{rw[bH]at h ⊢;refine⟨?_,h.2.kept hB⟩;cases t;{exact KM.kept (show KM c q ((aB:Int)+1) pl loc mem (c.L q.k aB) ((c.aI:Int)-n) x from h.1) hB};exact KM.kept (show KM c q ((aB:Int)+1) (pl.take j) loc mem (c.L q.k aB) ((c.aI:Int)-n) x from h.1) hB};clear bH s0 s1;refine bC 9 [84,85,86,87,88,89,90,91,92] 6 AA (fun j y _=>j≠8/\y=[.pointer (some ⟨q.C,0,none⟩), .pointer (some ⟨q.C,0,none⟩), .pointer (some ⟨q.C,4,none⟩), .pointer (some ⟨sb,1,none⟩), .int .i64 a, .pointer (some ⟨q.C,0,none⟩), .int .u32 u, .int .u32 v,undef].getD j undef) (by kernel_rfl) (by kernel_rfl) (by simp) jT ?_ ?_;{simp only[List.take_succ_cons,List.take_zero];refine⟨?_,?_,?_,?_,?_,?_,?_,?_,?_,trivial⟩;(all_goals(intro t b x hA ht hm hfr hdf aD;replace hdf:=aa hdf));have e0:b.tmps[0]?.getD undef= .pointer (some ⟨q.C,0,none⟩):=aA (hfr 0 (by decide));rotate_left;have e84:b.tmps[84]?.getD undef= .pointer (some ⟨q.C,0,none⟩):=by{simpa[Act.eval]using(aD 0 (by kernel_rfl)).2};rotate_left;have e85:b.tmps[85]?.getD undef= .pointer (some ⟨q.C,0,none⟩):=by{simpa[Act.eval]using(aD 1 (by kernel_rfl)).2};rotate_left;have e3:b.tmps[3]?.getD undef= .pointer (some ⟨sb,0,none⟩):=aA (hfr 3 (by decide));rotate_left;have e87:b.tmps[87]?.getD undef= .pointer (some ⟨sb,1,none⟩):=by{simpa[Act.eval]using(aD 3 (by kernel_rfl)).2};have s1:=hAs hA;rotate_left;have e0:b.tmps[0]?.getD undef= .pointer (some ⟨q.C,0,none⟩):=aA (hfr 0 (by decide));rotate_left;{have e89:b.tmps[89]?.getD undef= .pointer (some ⟨q.C,0,none⟩):=by{simpa[Act.eval]using(aD 5 (by kernel_rfl)).2};unfold Oper.wp;generalize hK:(fun(b':Act) (x':World)=>∃y,_/\_)=K;simp only[execOp];go_simp;obtain rfl:=ht rfl;obtain⟨sV,hS0⟩:=lM hA;refine(gm WZ.out (by omega) sV).mono ?_;rintro e w' ⟨rfl,hK1,hS1⟩;rw[Yr.out];rw[←hK];exact⟨_,rfl,fM (oZ hA hK1 hS1),⟨by decide,rfl⟩,fun i z h=>h⟩};have e4:b.tmps[4]?.getD undef= .int .u32 v:=aA (hfr 4 (by decide));rotate_left;{have e88:b.tmps[88]?.getD undef= .int .i64 a:=by{simpa[Act.eval]using(aD 4 (by kernel_rfl)).2};have e90:b.tmps[90]?.getD undef= .int .u32 u:=by{simpa[Act.eval]using(aD 6 (by kernel_rfl)).2};have e91:b.tmps[91]?.getD undef= .int .u32 v:=by{simpa[Act.eval]using(aD 7 (by kernel_rfl)).2};unfold Oper.wp;generalize hK:(fun(b':Act) (x':World)=>∃y,_/\_)=K;simp only[execOp];go_simp;obtain rfl:=hm (by kernel_rfl);obtain⟨sV,hS0⟩:=hAt hA;refine(zH a u v Yq.out yI.out HDC.out x).mono ?_;rintro e w' ⟨rfl,hB1⟩;exact⟨hdf.out,aN.out.halt ((Mn.abU HST.out.1 HST.out.2.1 HN.out).trans (by rw[HU.out,HV.out])) (sV.kept hB1)⟩};all_goals(unfold Oper.wp;generalize hK:(fun(b':Act) (x':World)=>∃y,_/\_)=K;simp only[execOp];go_simp;rw[←hK];exact⟨_,rfl,bK hA,⟨by decide,rfl⟩,fun i z h=>h⟩)};intro b x hA hF hb;exact absurd rfl (hF 8 (by decide)).1
end Go.Proofs.YthpdpoocigpccaaGreatDoor
