/-
  Own texts for a law: Low1 LinM Sp2
-/
import Derived.Test.YtlbkdlnalgkjeaaLB13
import Derived.Test.YtlbkdlnalgkjeaaLB14
namespace Go.Proofs.Ytlbkdlnalgkjeaa
open Go.RowKit Go.Shelf
set_option linter.all false
set_option maxRecDepth 100000
set_option maxHeartbeats 16000000
structure LX where
 B:Nat
 ha:Option Addr
 hc:Nat
 ea:Option Addr
 ec:Nat
 ba:Option Addr
 bc:Nat
 fs:List Fn
 f:Fn
 E:List Int
 O:List Int
 H:List Int
def LX.bS (c:LX)(v vg:Value):List Value:=
 [v,vg, .int .i64 (Lw.wd c.f), .slice c.ha c.f.b.length c.hc, .slice c.ea c.f.b.length c.ec, .slice c.ba c.f.b.length c.bc, .int .i64 c.f.g]
structure TX (c:LX)(W0:World):Prop where
 lt:W0.heap.size<=c.B
 hH:IL W0 c.ha c.f.b.length c.H
 hE:IL W0 c.ea c.f.b.length c.E
 hS:SL W0 c.ba c.f.b.length c.f.b
 acc:Hg.Acc c.fs c.f c.E c.O c.H
 ok:0<=c.f.a/\c.f.a<=3/\0<=c.f.l/\c.f.l<=3/\(c.f.g=0\/c.f.g=1)/\c.f.b.length<=80
 all:St.bV c.f.b=true
 val:Mn.xD c.fs
structure MK (c:LX)(W0 W:World)(v vg:Value)(out:List (Ln×Int))(P:Nat->Prop):Prop where
 jc:Below W0.heap.size W0 W
 box:bE W c.B (c.bS v vg)
 sz:c.B+1<=W.heap.size
 row:∃vs:List Lv,W.ownsRow (c.B+1) 45 6 v out.length (aN vs)/\vs.length=out.length/\bZ W (c.B+1) out.length vs (out.map (·.1))/\∀j,j<out.length->∀g,(vs.getD j dW).2.2.2.2.2.ownBlock=some g->vg.ownBlock≠some g/\P g
 Bz:OI W (c.B+1) vg (out.map (·.2))
structure FX (c:LX)(v vg v' wZ:Value)(W W':World):Prop where
 os:W'.os=W.os
 tape:W'.tape=W.tape
 out:W'.output=W.output
 size:W.heap.size<=W'.heap.size
 blk:∀i,i<W.heap.size->i≠c.B->v.ownBlock≠some i->vg.ownBlock≠some i->W'.heap[i]?=W.heap[i]?
 v1:v'.ownBlock=v.ownBlock\/∃g,v'.ownBlock=some g/\W.heap.size<=g
 g1:wZ.ownBlock=vg.ownBlock\/∃g,wZ.ownBlock=some g/\W.heap.size<=g
theorem FX.refl (c:LX)(v vg:Value)(W:World):FX c v vg v vg W W:=⟨rfl,rfl,rfl,Nat.le_refl _,fun _ _ _ _ _=>rfl, .inl rfl, .inl rfl⟩
theorem FX.trans {c:LX}{v vg v' wZ v2 CR:Value}{W W' W2:World}(h:FX c v vg v' wZ W W')(k:FX c v' wZ v2 CR W' W2):FX c v vg v2 CR W W2:=by refine⟨k.os.trans h.os,k.tape.trans h.tape,k.out.trans h.out,Nat.le_trans h.size k.size,fun i hi hB hv hg=>?_,?_,?_⟩;{refine(k.blk i (aj hi h.size) hB ?_ ?_).trans (h.blk i hi hB hv hg);{rcases h.v1 with e|⟨g,e,hge⟩;{rw[e];exact hv};rw[e];simp only[ne_eq,af];omega};rcases h.g1 with e|⟨g,e,hge⟩;{rw[e];exact hg};rw[e];simp only[ne_eq,af];omega};{rcases k.v1 with e|⟨g,e,hge⟩;{rw[e];exact h.v1};exact .inr ⟨g,e,Nat.le_trans h.size hge⟩};rcases k.g1 with e|⟨g,e,hge⟩;{rw[e];exact h.g1};exact .inr ⟨g,e,Nat.le_trans h.size hge⟩
theorem FX.below {c:LX}{v vg:Value}{W W':World}(h:Below W.heap.size W W'):FX c v vg v vg W W':=⟨h.os,h.tape,h.output,h.size,fun i hi _ _ _=>h.block i hi, .inl rfl, .inl rfl⟩
theorem FX.rows {c:LX}{v vg v' wZ:Value}{W W':World}(h:FX c v vg v' wZ W W'){n₀ e k n:Nat}{u:Value}{xs:List Value}(hr:W.ownsRow n₀ e k u n xs)(hn:∀g,u.ownBlock=some g->g≠c.B/\v.ownBlock≠some g/\vg.ownBlock≠some g):W'.ownsRow n₀ e k u n xs:=by refine⟨hr.1,?_⟩;rcases hr.2 with h'|⟨g',cap',cur,h',h1,h2,r⟩;{exact .inl h'};have hg:=hn g' (by rw[h'];rfl);exact .inr ⟨g',cap',cur,h',h1,(h.blk g' (Array.getElem?_eq_some_iff.1 h2).1 hg.1 hg.2.1 hg.2.2).trans h2,r⟩
theorem MK.kept {c:LX}{W0 W W':World}{v vg:Value}{out:List (Ln×Int)}{P:Nat->Prop}(h:MK c W0 W v vg out P)(hB:Below W.heap.size W W'):MK c W0 W' v vg out P:=by obtain⟨vs,h1,h2,h3,h4⟩:=h.row;exact⟨h.jc.trans (hB.mono h.jc.size),h.box.kept hB,Nat.le_trans h.sz hB.size,⟨vs,aF h1 hB,h2,h3.kept hB,h4⟩,h.Bz.kept hB⟩
theorem iU {W:World}{n₀ e k n:Nat}{v:Value}{xs:List Value}(h:W.ownsRow n₀ e k v n xs){g:Nat}(hg:v.ownBlock=some g):n₀<=g/\g<W.heap.size:=World.ownsRow.lt h g hg
theorem gK {W:World}{b0 b1 e0 e1 k0 k1 n0 n1:Nat}{u v:Value}{xs ys:List Value}(h0:W.ownsRow b0 e0 k0 u n0 xs)(h1:W.ownsRow b1 e1 k1 v n1 ys)(he:e0≠e1){g:Nat}(hg:u.ownBlock=some g):v.ownBlock≠some g:=by intro hv;rcases h0.2 with⟨rfl,-⟩|⟨g0,c0,Ew,rfl,-,hb0,-⟩;{cases hg};rcases h1.2 with⟨rfl,-⟩|⟨g1,c1,Ex,rfl,-,hb1,-⟩;{cases hv};simp only[Value.ownBlock,af]at hg hv;subst hg;subst hv;rw[hb0]at hb1;cases hb1;exact he rfl
theorem ed {W W':World}{n₀ e k n:Nat}{u:Value}{xs:List Value}{row:Option Nat}(h:W.ownsRow n₀ e k u n xs)(hg:W.grownBy W' row)(hne:∀g,u.ownBlock=some g->row≠some g):W'.ownsRow n₀ e k u n xs:=by refine⟨h.1,?_⟩;rcases h.2 with h'|⟨g',cap',cur,h',h1,h2,r⟩;{exact .inl h'};exact .inr ⟨g',cap',cur,h',h1,(hg.block g' (Array.getElem?_eq_some_iff.1 h2).1 (fun e=>hne g' (by rw[h'];rfl) e.symm)).trans h2,r⟩
theorem bZ.bM {W W':World}{n₀ k:Nat}{vs:List Lv}{fs:List Ln}{row:Option Nat}(h:bZ W n₀ k vs fs)(hg:W.grownBy W' row)(hne:∀j,j<k->∀g,(vs.getD j dW).2.2.2.2.2.ownBlock=some g->row≠some g):bZ W' n₀ k vs fs:=fun j hj=>by
 obtain⟨h0,h1,h2,h3,h4,h5⟩:=h j hj
 exact⟨h0,h1,h2,h3,h4,ed h5 hg (hne j hj)⟩
theorem gN {w w1 w2:World}{row:Option Nat}(h:Below w.heap.size w w1)(hg:w1.grownBy w2 row)(hr:∀g,row=some g->w.heap.size<=g):Below w.heap.size w w2:=
 ⟨hg.os.trans h.os,hg.tape.trans h.tape,hg.output.trans h.output,Nat.le_trans h.size hg.size,fun k hk=>(hg.block k (aj hk h.size) (fun e=>by have:=hr k e.symm;omega)).trans (h.block k hk)⟩
theorem kg (xs ys:List Lv):aN (xs++ys)=aN xs++aN ys:=by simp[aN]
theorem TX.il {c:LX}{W0 W:World}(T:TX c W0){v vg:Value}{out:List (Ln×Int)}{P:Nat->Prop}(K:MK c W0 W v vg out P):IL W c.ha c.f.b.length c.H/\IL W c.ea c.f.b.length c.E/\SL W c.ba c.f.b.length c.f.b:=
 ⟨T.hH.kept K.jc,T.hE.kept K.jc,T.hS.kept K.jc⟩
theorem MK.line {c:LX}{W0 W W1 W2:World}{v vg v':Value}{out:List (Ln×Int)}{P:Nat->Prop}(K:MK c W0 W v vg out P)(hW:W0.heap.size<=c.B)(hB1:Below W.heap.size W W1)(x:Ln)(la:Option Addr)(ln lc:Nat)(hx:OI W (c.B+1) (.slice la ln lc) x.l)(hap:∀g,(Value.slice la ln lc).ownBlock=some g->vg.ownBlock≠some g/\P g)(vs:List Lv)(hvs:W.ownsRow (c.B+1) 45 6 v out.length (aN vs)/\vs.length=out.length/\bZ W (c.B+1) out.length vs (out.map (·.1))/\∀j,j<out.length->∀g,(vs.getD j dW).2.2.2.2.2.ownBlock=some g->vg.ownBlock≠some g/\P g)(hrow:W2.ownsRow (c.B+1) 45 6 v' (out.length+1) (aN vs++[.int .i64 x.k, .int .i64 x.d, .int .i64 x.a, .int .i64 x.b, .int .i64 x.n, .slice la ln lc]))(hg:W1.grownBy W2 v.ownBlock)(hat:v'.ownBlock=v.ownBlock\/v'.ownBlock=some W1.heap.size)(tg:Int):Below W0.heap.size W0 (W2.setCell ⟨c.B,0,none⟩ v')/\bE (W2.setCell ⟨c.B,0,none⟩ v') c.B (c.bS v' vg)/\c.B+1<=(W2.setCell ⟨c.B,0,none⟩ v').heap.size/\(∃vs:List Lv,(W2.setCell ⟨c.B,0,none⟩ v').ownsRow (c.B+1) 45 6 v' (out++[(x,tg)]).length (aN vs)/\vs.length=(out++[(x,tg)]).length/\bZ (W2.setCell ⟨c.B,0,none⟩ v') (c.B+1) (out++[(x,tg)]).length vs ((out++[(x,tg)]).map (·.1))/\∀j,j<(out++[(x,tg)]).length->∀g,(vs.getD j dW).2.2.2.2.2.ownBlock=some g->vg.ownBlock≠some g/\P g)/\OI (W2.setCell ⟨c.B,0,none⟩ v') (c.B+1) vg (out.map (·.2))/\FX c v vg v' vg W (W2.setCell ⟨c.B,0,none⟩ v'):=by obtain⟨r1,r2,r3,r4⟩:=hvs;have vB:∀g,v.ownBlock=some g->c.B+1<=g:=fun g hg=>(iU r1 hg).1;have gs:=aA W2 ⟨c.B,0,none⟩ v';have bx1:=K.box.kept hB1;have Ey:=bx1.bM hg (fun e=>by have:=vB c.B e;omega);have Ez:=Ey.set 0 v';have hint:2≠45:=by{decide};have gB:∀g,vg.ownBlock=some g->c.B+1<=g:=fun g hg=>(iU K.Bz hg).1;have CS:OI W1 (c.B+1) vg (out.map (·.2)):=K.Bz.kept hB1;have r1':=aF r1 hB1;have EA:OI W2 (c.B+1) vg (out.map (·.2)):=ed CS hg (fun g e=>gK CS r1' hint e);have EB:OI (W2.setCell ⟨c.B,0,none⟩ v') (c.B+1) vg (out.map (·.2)):=ed EA gs (fun g e=>by have:=gB g e;simp only[ne_eq,af];omega);have t1:=r3.kept hB1;have t2:bZ W2 (c.B+1) out.length vs (out.map (·.1)):=t1.bM hg (fun j hj g e=>gK (t1 j hj).2.2.2.2.2 r1' hint e);have t3:bZ (W2.setCell ⟨c.B,0,none⟩ v') (c.B+1) out.length vs (out.map (·.1)):=t2.bM gs (fun j hj g e=>by have:=(iU (t2 j hj).2.2.2.2.2 e).1;simp only[ne_eq,af];omega);have x1:=hx.kept hB1;have x2:OI W2 (c.B+1) (.slice la ln lc) x.l:=ed x1 hg (fun g e=>gK x1 r1' hint e);have x3:OI (W2.setCell ⟨c.B,0,none⟩ v') (c.B+1) (.slice la ln lc) x.l:=ed x2 gs (fun g e=>by have:=(iU x2 e).1;simp only[ne_eq,af];omega);have hr3:=ed hrow gs (fun g e=>by have:=(iU hrow e).1;simp only[ne_eq,af];omega);have b1:=K.jc.trans (hB1.mono K.jc.size);have b2:=gN b1 hg (fun g e=>by have:=vB g e;omega);have b3:=gN b2 gs (fun g e=>by cases e;exact hW);refine⟨b3,Ez,?_,⟨vs++[(x.k,x.d,x.a,x.b,x.n, .slice la ln lc)],?_,?_,fun j hj=>?_,fun j hj g e=>?_⟩,EB,⟨(gs.os.trans hg.os).trans hB1.os,(gs.tape.trans hg.tape).trans hB1.tape,(gs.output.trans hg.output).trans hB1.output,Nat.le_trans hB1.size (Nat.le_trans hg.size gs.size),fun i hi hb hv hv2=>?_,?_, .inl rfl⟩⟩;{exact Nat.le_trans K.sz (Nat.le_trans hB1.size (Nat.le_trans hg.size gs.size))};{rw[kg,List.length_append,List.length_singleton];exact hr3};{rw[List.length_append,List.length_append,r2];rfl};{rw[List.length_append,List.length_singleton]at hj;by_cases hjl:j<out.length;{have e1:(vs++[(x.k,x.d,x.a,x.b,x.n,Value.slice la ln lc)]).getD j dW=vs.getD j dW:=by{rw[ah,List.getElem?_append_left (by omega),←ah]};have e2:((out++[(x,tg)]).map (·.1)).getD j .z=(out.map (·.1)).getD j .z:=by{rw[List.map_append,ah,List.getElem?_append_left (by simpa using hjl),←ah]};rw[e1,e2];exact t3 j hjl};have ej:j=out.length:=by{omega};have e1:(vs++[(x.k,x.d,x.a,x.b,x.n,Value.slice la ln lc)]).getD j dW=(x.k,x.d,x.a,x.b,x.n,Value.slice la ln lc):=by{rw[ah,List.getElem?_append_right (by omega),r2,ej];simp};have e2:((out++[(x,tg)]).map (·.1)).getD j .z=x:=by{rw[List.map_append,ah,List.getElem?_append_right (by simp;omega)];simp[ej]};rw[e1,e2];exact⟨rfl,rfl,rfl,rfl,rfl,x3⟩};{rw[List.length_append,List.length_singleton]at hj;by_cases hjl:j<out.length;{have e1:(vs++[(x.k,x.d,x.a,x.b,x.n,Value.slice la ln lc)]).getD j dW=vs.getD j dW:=by{rw[ah,List.getElem?_append_left (by omega),←ah]};rw[e1]at e;exact r4 j hjl g e};have ej:j=out.length:=by{omega};have e1:(vs++[(x.k,x.d,x.a,x.b,x.n,Value.slice la ln lc)]).getD j dW=(x.k,x.d,x.a,x.b,x.n,Value.slice la ln lc):=by{rw[ah,List.getElem?_append_right (by omega),r2,ej];simp};rw[e1]at e;exact hap g e};{exact(gs.block i (aj hi (Nat.le_trans hB1.size hg.size)) (by simpa using hb)).trans ((hg.block i (aj hi hB1.size) (fun e=>hv e.symm)).trans (hB1.block i hi))};rcases hat with e|e;{exact .inl e};exact .inr ⟨_,e,hB1.size⟩
def BM (vs:List Lv)(j:Nat):Value:=(vs.getD j dW).2.2.2.2.2
def ui (W:World)(n₀:Nat)(v:Value)(fs:List Ln)(vs:List Lv):Prop:=
 W.ownsRow n₀ 45 6 v fs.length (aN vs)/\vs.length=fs.length/\bZ W n₀ fs.length vs fs/\∀i j,i<j->j<fs.length->∀g,(BM vs i).ownBlock=some g->(BM vs j).ownBlock≠some g
theorem ui.kept {W W':World}{n₀:Nat}{v:Value}{fs:List Ln}{vs:List Lv}(h:ui W n₀ v fs vs)(hB:Below W.heap.size W W'):ui W' n₀ v fs vs:=⟨aF h.1 hB,h.2.1,h.2.2.1.kept hB,h.2.2.2⟩
theorem ui.mono {W:World}{n₀ n₁:Nat}{v:Value}{fs:List Ln}{vs:List Lv}(h:ui W n₁ v fs vs)(hn:n₀<=n₁):ui W n₀ v fs vs:=by refine⟨?_,h.2.1,h.2.2.1.mono hn,h.2.2.2⟩;refine⟨h.1.1,?_⟩;rcases h.1.2 with h'|⟨g',cap',cur,h',hb,r⟩;{exact .inl h'};exact .inr ⟨g',cap',cur,h',Nat.le_trans hn hb,r⟩
theorem ui.ll {W:World}{n₀ g n cap:Nat}{fs:List Ln}{vs:List Lv}(h:ui W n₀ (.slice (some ⟨g,0,none⟩) n cap) fs vs)(hn:fs.length=n):LL W (some ⟨g,0,none⟩) n fs:=by have h1:=h.1;have h3:=h.2.2.1;rw[hn]at h1 h3;exact jK h1 hn h3
theorem pu (x y:Sp.S)(w:World):Calls Try.prog 15 #[.agg #[.int .i64 x.b, .int .i64 x.f, .int .i64 x.t, .bool x.c], .agg #[.int .i64 y.b, .int .i64 y.f, .int .i64 y.t, .bool y.c]] w fun e w'=>e= .returned (.bool (Sp.bQ x y))/\Below w.heap.size w w':=by obtain⟨xb,xf,xt,xc⟩:=x;obtain⟨yb,yf,yt,yc⟩:=y;simp only;have hB1:=ay w (.cells #[.int .i64 xb, .int .i64 xf, .int .i64 xt, .bool xc] 36);have hB2:=hB1.trans ((ay (w.alloc (.cells #[.int .i64 xb, .int .i64 xf, .int .i64 xt, .bool xc] 36)) (.cells #[.int .i64 yb, .int .i64 yf, .int .i64 yt, .bool yc] 36)).mono hB1.size);have HB:=ae hB2;have fin:∀r:Bool,Hid (r=Sp.bQ ⟨xb,xf,xt,xc⟩ ⟨yb,yf,yt,yc⟩)->Value.bool r= .bool (Sp.bQ ⟨xb,xf,xt,xc⟩ ⟨yb,yf,yt,yc⟩):=fun r h=>by{rw[h.out]};have HF:=ae fin;clear hB1 hB2 fin;by_cases h1:xf<=yt;{by_cases h2:yf<=xt;{by_cases h3:xf<=xt;{by_cases h4:yf<=yt;{have HM:Hid (Sp.bQ ⟨xb,xf,xt,xc⟩ ⟨yb,yf,yt,yc⟩=true):=by{show _=_;simp[Sp.bQ,h1,h2,h3,h4]};go_enter Try.func15,Try.ntmps15;go_wp2;go_ret;exact⟨(by rw[HM.out];rfl),HB.out⟩};have HM:Hid (Sp.bQ ⟨xb,xf,xt,xc⟩ ⟨yb,yf,yt,yc⟩=false):=by{show _=_;simp[Sp.bQ,h4]};go_enter Try.func15,Try.ntmps15;go_wp2;go_ret;exact⟨(by rw[HM.out];rfl),HB.out⟩};have HM:Hid (Sp.bQ ⟨xb,xf,xt,xc⟩ ⟨yb,yf,yt,yc⟩=false):=by{show _=_;simp[Sp.bQ,h3]};go_enter Try.func15,Try.ntmps15;go_wp2;go_ret;exact⟨(by rw[HM.out];rfl),HB.out⟩};have HM:Hid (Sp.bQ ⟨xb,xf,xt,xc⟩ ⟨yb,yf,yt,yc⟩=false):=by{show _=_;simp[Sp.bQ,h2]};go_enter Try.func15,Try.ntmps15;go_wp2;go_ret;exact⟨(by rw[HM.out];rfl),HB.out⟩};have HM:Hid (Sp.bQ ⟨xb,xf,xt,xc⟩ ⟨yb,yf,yt,yc⟩=false):=by{show _=_;simp[Sp.bQ,h1]};go_enter Try.func15,Try.ntmps15;go_wp2;go_ret;exact⟨(by rw[HM.out];rfl),HB.out⟩
end Go.Proofs.Ytlbkdlnalgkjeaa
