/- Own text. -/
import Derived.Test.YthkjdjmjdlimnaaGreatKV11
import Derived.Test.YthkjdjmjdlimnaaGreatKV13
namespace Go.Proofs.YthkjdjmjdlimnaaGreat
open Go.RowKit Go.Shelf
set_option linter.all false
set_option maxRecDepth 100000
set_option maxHeartbeats 16000000
variable {E H O args l loc pile xs:List Int}{P:Nat->Prop}{Q:Exit->Act->World->Prop}{W W' W0 W1 W2 w w1 w2:World}{a b h:Int}{at' e g i j k n n₀ n₁:Nat}{f:Fn}{fs:List Fn}{o:Oper}{ops:Array Oper}{rest:List Oper}{row:Option Nat}{u v v' vg:Value}
def OG (W:World)(n₀ g n c:Nat)(xs:List Int):Prop:=xs.length=n/\W.ownsRow n₀ 2 1 (.slice (some ⟨g,0,none⟩) n c) n (xs.map iv)
theorem OG.oi{c:Nat}(h:OG W n₀ g n c xs):OI W n₀ (.slice (some ⟨g,0,none⟩) n c) xs:=by unfold OI;rw[h.1];exact h.2
theorem OG.lt {W:World}{n₀ g n c:Nat}{xs:List Int}(h:OG W n₀ g n c xs):n₀<=g/\g<W.heap.size:=Au h.2 g rfl
theorem OG.cap {W:World}{n₀ g n c:Nat}{xs:List Int}(h:OG W n₀ g n c xs):n<=c/\c<=maxLen:=by rcases h.2.2 with⟨e,-⟩|⟨g',cap,cur,e,hb,hc,hn,hm,-⟩;{cases e};cases e;exact⟨hn,hm⟩
theorem OG.cell {W:World}{n₀ g n c:Nat}{xs:List Int}(h:OG W n₀ g n c xs){j:Nat}(hj:j<n):W.cell? ⟨g,j,none⟩=some (.int .i64 (xs.getD j 0)):=by have hi:=(OI.il h.oi).2;obtain⟨-,-,h0|⟨b,o,e,hb,hx⟩⟩:=hi;{omega};simp only[af,Addr.mk.injEq,and_true]at e;obtain⟨rfl,rfl⟩:=e;have:=hx j hj;rwa [Nat.zero_add]at this
theorem OG.kept {W W':World}{n₀ g n c:Nat}{xs:List Int}(h:OG W n₀ g n c xs)(hB:Below W.heap.size W W'):OG W' n₀ g n c xs:=⟨h.1,aN h.2 hB⟩
theorem OG.dU{c b:Nat}(h:OG W n₀ g n c xs)(hg:W.grownBy W' (some b))(hne:g≠b):OG W' n₀ g n c xs:=by refine⟨h.1,aaZ h.2 hg (.inr ?_)⟩;simp only[Value.ownBlock,ne_eq,af];omega
theorem OG.mono {W:World}{n₀ n₁ g n c:Nat}{xs:List Int}(h:OG W n₁ g n c xs)(hn:n₀<=n₁):OG W n₀ g n c xs:=by have:=OI.mono h.oi hn;unfold OI at this;rw[h.1]at this;exact⟨h.1,this⟩
theorem OG.empty (W:World)(n₀:Nat)(hn:n₀<=W.heap.size):OG (W.alloc (.cells #[] 2)) n₀ W.heap.size 0 0 []:=⟨rfl,by simpa[OI]using OI.mono (OI.empty W) hn⟩
theorem OG.one (W:World)(n₀:Nat)(hn:n₀<=W.heap.size)(y:Int):OG (W.alloc (.cells #[.int .i64 y] 2)) n₀ W.heap.size 1 1 [y]:=
 ⟨rfl,rfl, .inr ⟨W.heap.size,1,#[.int .i64 y],rfl,hn,QD W _,bG _,by simp[maxLen],rfl,rfl⟩⟩
theorem wu{a:Act}(W:World)(hgd:o.guard=none)(s x:Operand)(ho:o.op= .call {callee:= .builtin .append,args:=#[s,x],argTypes:=#[27,27]})(n₀ g n c:Nat)(xs:List Int)(hs:a.eval s= .slice (some ⟨g,0,none⟩) n c)(hown:OG W n₀ g n c xs)(sb so m sc:Nat)(ys:List Int)(hx:a.eval x= .slice (some ⟨sb,so,none⟩) m sc)(hym:ys.length=m)(hy:∀j,j<m->W.cell? ⟨sb,so+j,none⟩=some (.int .i64 (ys.getD j 0)))(hsz:n+m<=1048576)(hbase:n₀<=W.heap.size)(h:∀g' c' N W',Hid (N=n+m)->OG W' n₀ g' N c' (xs++ys)->W.grownBy W' (some g)->wpList Tryz.prog ops Q rest (a.put o.dst (.slice (some ⟨g',0,none⟩) N c')) W'):wpList Tryz.prog ops Q (o::rest) a W:=by obtain⟨i0,hi,hz0,hz1,hz2⟩:=lW bQ;refine mW W hgd s x 27 ho n₀ 2 i0 (.int .i64 0) 1 8 Tryz.underlying27 hi hz0 hz1 hz2 rfl (by decide) _ n (xs.map iv) hs hown.2 ⟨sb,so,none⟩ m sc (ys.map iv) hx (by rw[iw,hym,Nat.mul_one]) (fun j u hu=>?_) ji (by simp only[maxLen];omega) (by omega) hbase (fun v' W' hown' hgrow hnn=>?_);{have hj:j<m:=by{have:=(List.getElem?_eq_some_iff.1 hu).1;rwa [iw,hym]at this};rw[iy (by rw[hym];exact hj)]at hu;cases hu;(have hadd:(⟨sb,so,none⟩:Addr).add j=⟨sb,so+j,none⟩:=by unfold Addr.add;split<;>simp_all);rw[hadd];exact hy j hj};rcases hown'.2 with⟨rfl,h0⟩|⟨g',cap',cur,rfl,r⟩;{exact eD (hnn.1 rfl).1 (fun e=>by cases e)};refine h g' cap' (n+m) W' rfl ⟨by rw[jw,hown.1,hym],?_⟩ hgrow;rw[oU];exact hown'
abbrev Lv:=Int×Int×Int×Int×Int×Value
def jk:Lv:=(0,0,0,0,0, .slice none 0 0)
def fF (xs:List Lv):List Value:=xs.flatMap fun x=>[.int .i64 x.1, .int .i64 x.2.1, .int .i64 x.2.2.1, .int .i64 x.2.2.2.1, .int .i64 x.2.2.2.2.1,x.2.2.2.2.2]
theorem jX (x:Lv)(xs:List Lv):fF (x::xs)= .int .i64 x.1:: .int .i64 x.2.1:: .int .i64 x.2.2.1:: .int .i64 x.2.2.2.1:: .int .i64 x.2.2.2.2.1::x.2.2.2.2.2::fF xs:=rfl
theorem De (xs:List Lv):(fF xs).length=xs.length*6:=by
 induction xs with
 |nil=>rfl
 |cons x xs ih=>rw[jX];simp only[oG,ih];omega
theorem p8:∀(xs:List Lv)(j:Nat),j<xs.length->(fF xs)[j*6]?=some (.int .i64 (xs.getD j jk).1)/\(fF xs)[j*6+1]?=some (.int .i64 (xs.getD j jk).2.1)/\(fF xs)[j*6+2]?=some (.int .i64 (xs.getD j jk).2.2.1)/\(fF xs)[j*6+3]?=some (.int .i64 (xs.getD j jk).2.2.2.1)/\(fF xs)[j*6+4]?=some (.int .i64 (xs.getD j jk).2.2.2.2.1)/\(fF xs)[j*6+5]?=some (xs.getD j jk).2.2.2.2.2
 |[],j,h=>by simp at h
 |x::xs,0,h=>⟨rfl,rfl,rfl,rfl,rfl,rfl⟩
 | x::xs,j+1,h=>by
   have ih:=p8 xs j (by simpa using h)
   have e:(x::xs).getD (j+1) jk=xs.getD j jk:=rfl
   rw[e,jX]
   refine⟨?_,?_,?_,?_,?_,?_⟩
   · rw[show(j+1)*6=j*6+1+1+1+1+1+1 by omega];simp only[List.getElem?_cons_succ];exact ih.1
   · rw[show(j+1)*6+1=j*6+1+1+1+1+1+1+1 by omega];simp only[List.getElem?_cons_succ];exact ih.2.1
   · rw[show(j+1)*6+2=j*6+2+1+1+1+1+1+1 by omega];simp only[List.getElem?_cons_succ];exact ih.2.2.1
   · rw[show(j+1)*6+3=j*6+3+1+1+1+1+1+1 by omega];simp only[List.getElem?_cons_succ];exact ih.2.2.2.1
   · rw[show(j+1)*6+4=j*6+4+1+1+1+1+1+1 by omega];simp only[List.getElem?_cons_succ];exact ih.2.2.2.2.1
   · rw[show(j+1)*6+5=j*6+5+1+1+1+1+1+1 by omega];simp only[List.getElem?_cons_succ];exact ih.2.2.2.2.2
theorem Bo:∀(xs:List Lv)(k:Nat)(x:Lv),fF (xs.set k x)=((((((fF xs).set (k*6) (.int .i64 x.1)).set (k*6+1) (.int .i64 x.2.1)).set (k*6+2) (.int .i64 x.2.2.1)).set (k*6+3) (.int .i64 x.2.2.2.1)).set (k*6+4) (.int .i64 x.2.2.2.2.1)).set (k*6+5) x.2.2.2.2.2
 |[],k,x=>rfl
 |y::xs,0,x=>rfl
 | y::xs,k+1,x=>by
   rw[List.set_cons_succ,jX,Bo xs k x,jX]
   rw[show(k+1)*6=k*6+1+1+1+1+1+1 by omega]
   simp only[List.set_cons_succ]
def kQ (W:World)(n₀ k:Nat)(vs:List Lv)(fs:List Ln):Prop:=
 ∀j,j<k->(vs.getD j jk).1=(fs.getD j .z).k/\(vs.getD j jk).2.1=(fs.getD j .z).d/\(vs.getD j jk).2.2.1=(fs.getD j .z).a/\(vs.getD j jk).2.2.2.1=(fs.getD j .z).b/\(vs.getD j jk).2.2.2.2.1=(fs.getD j .z).n/\OI W n₀ (vs.getD j jk).2.2.2.2.2 (fs.getD j .z).l
theorem kQ.kept {W W':World}{n₀ k:Nat}{vs:List Lv}{fs:List Ln}(h:kQ W n₀ k vs fs)(hB:Below W.heap.size W W'):kQ W' n₀ k vs fs:=fun j hj=>by
 obtain⟨h0,h1,h2,h3,h4,h5⟩:=h j hj
 exact⟨h0,h1,h2,h3,h4,h5.kept hB⟩
theorem kQ.other{b:Nat}{vs:List Lv}{fs:List Ln}(h:kQ W n₀ k vs fs)(hg:W.grownBy W' (some b))(hne:b<n₀):kQ W' n₀ k vs fs:=fun j hj=>by
 obtain⟨h0,h1,h2,h3,h4,h5⟩:=h j hj
 exact⟨h0,h1,h2,h3,h4,h5.dU hg (fun g hgg=>by have:=(Au h5 g hgg).1;omega)⟩
theorem kQ.mono {W:World}{n₀ n₁ k:Nat}{vs:List Lv}{fs:List Ln}(h:kQ W n₁ k vs fs)(hn:n₀<=n₁):kQ W n₀ k vs fs:=fun j hj=>by
 obtain⟨h0,h1,h2,h3,h4,h5⟩:=h j hj
 exact⟨h0,h1,h2,h3,h4,h5.mono hn⟩
theorem Bu{cap:Nat}{vs:List Lv}{fs:List Ln}(h:W.ownsRow n₀ 109 6 (.slice (some ⟨g,0,none⟩) n cap) n (fF vs))(hn:fs.length=n)(ht:kQ W n₁ n vs fs):LL W (some ⟨g,0,none⟩) n fs:=by have hv:n=vs.length:=by{have:=h.1;rw[De]at this;omega};have hlt:=Au h g rfl;have hmx:n<=maxLen:=by{rcases h.2 with⟨h',_⟩|⟨g',cap',cur,h',_,_,hc,hm,_⟩;{cases h'};cases h';exact fE hc hm};refine⟨hn,hmx, .inr ⟨g,0,rfl,hlt.2,fun j hj=>?_⟩⟩;obtain⟨g0,g1,g2,g3,g4,g5⟩:=p8 vs j (by omega);obtain⟨t0,t1,t2,t3,t4,t5⟩:=ht j hj;rw[Nat.zero_add];refine⟨(World.ownsRow.cellAt h (j*6) (by omega)).trans (by rw[g0,t0]),(World.ownsRow.cellAt h (j*6+1) (by omega)).trans (by rw[g1,t1]),(World.ownsRow.cellAt h (j*6+2) (by omega)).trans (by rw[g2,t2]),(World.ownsRow.cellAt h (j*6+3) (by omega)).trans (by rw[g3,t3]),(World.ownsRow.cellAt h (j*6+4) (by omega)).trans (by rw[g4,t4]),?_⟩;obtain⟨sa,sc,e,hs⟩:=t5.slice;exact⟨sa,_,sc,(World.ownsRow.cellAt h (j*6+5) (by omega)).trans (by rw[g5,e]),hs⟩
def sS (W:World)(n₀:Nat)(v:Value)(fs:List Ln):Prop:=
 ∃g cap vs,v= .slice (some ⟨g,0,none⟩) fs.length cap/\W.ownsRow n₀ 109 6 (.slice (some ⟨g,0,none⟩) fs.length cap) fs.length (fF vs)/\kQ W n₀ fs.length vs fs
theorem sS.LL {W:World}{n₀:Nat}{v:Value}{fs:List Ln}(h:sS W n₀ v fs):∃g cap,v= .slice (some ⟨g,0,none⟩) fs.length cap/\n₀<=g/\g<W.heap.size/\Go.Proofs.YthkjdjmjdlimnaaGreat.LL W (some ⟨g,0,none⟩) fs.length fs:=by obtain⟨g,cap,vs,rfl,hrow,ht⟩:=h;exact⟨g,cap,rfl,(Au hrow g rfl).1,(Au hrow g rfl).2,Bu hrow rfl ht⟩
theorem Ni:(Tryz.prog.info? 109).map (fun i=>(i.zero,i.size,i.bytes))=some (some (.agg #[.int .i64 0, .int .i64 0, .int .i64 0, .int .i64 0, .int .i64 0, .slice none 0 0]),6,64):=by kernel_rfl
structure LX where
 B:Nat
 ha:Option Addr
 hc:Nat
 ea:Option Addr
 ec:Nat
 ba:Option Addr
 bc:Nat
 fs:List Fn
 f:Fn
 E:List Int
 O:List Int
 H:List Int
def LX.dS (c:LX)(v vg:Value):List Value:=
 [v,vg, .int .i64 (Lw.wd c.f), .slice c.ha c.f.b.length c.hc, .slice c.ea c.f.b.length c.ec, .slice c.ba c.f.b.length c.bc, .int .i64 c.f.g]
structure TX (c:LX)(W0:World):Prop where
 lt:W0.heap.size<=c.B
 hH:IL W0 c.ha c.f.b.length c.H
 hE:IL W0 c.ea c.f.b.length c.E
 hS:SL W0 c.ba c.f.b.length c.f.b
 acc:Hg.Acc c.fs c.f c.E c.O c.H
 ok:0<=c.f.a/\c.f.a<=3/\0<=c.f.l/\c.f.l<=3/\(c.f.g=0\/c.f.g=1)/\c.f.b.length<=80
 all:St.cu c.f.b=true
 val:Mn.KE c.fs
structure MK (c:LX)(W0 W:World)(v vg:Value)(out:List (Ln×Int))(P:Nat->Prop):Prop where
 fM:Below W0.heap.size W0 W
 box:aV W c.B (c.dS v vg)
 sz:c.B+1<=W.heap.size
 row:∃vs:List Lv,W.ownsRow (c.B+1) 109 6 v out.length (fF vs)/\vs.length=out.length/\kQ W (c.B+1) out.length vs (out.map (·.1))/\∀j,j<out.length->∀g,(vs.getD j jk).2.2.2.2.2.ownBlock=some g->vg.ownBlock≠some g/\P g
 JF:OI W (c.B+1) vg (out.map (·.2))
structure FX (c:LX)(v vg v' qE:Value)(W W':World):Prop where
 os:W'.os=W.os
 tape:W'.tape=W.tape
 out:W'.output=W.output
 size:W.heap.size<=W'.heap.size
 blk:∀i,i<W.heap.size->i≠c.B->v.ownBlock≠some i->vg.ownBlock≠some i->W'.heap[i]?=W.heap[i]?
 v1:v'.ownBlock=v.ownBlock\/∃g,v'.ownBlock=some g/\W.heap.size<=g
 g1:qE.ownBlock=vg.ownBlock\/∃g,qE.ownBlock=some g/\W.heap.size<=g
theorem FX.refl (c:LX)(v vg:Value)(W:World):FX c v vg v vg W W:=⟨rfl,rfl,rfl,bG _,fun _ _ _ _ _=>rfl, .inl rfl, .inl rfl⟩
theorem FX.trans {c:LX}{v vg v' qE v2 Cg:Value}{W W' W2:World}(h:FX c v vg v' qE W W')(k:FX c v' qE v2 Cg W' W2):FX c v vg v2 Cg W W2:=by refine⟨k.os.trans h.os,k.tape.trans h.tape,k.out.trans h.out,fE h.size k.size,fun i hi hB hv hg=>?_,?_,?_⟩;{refine(k.blk i (aj hi h.size) hB ?_ ?_).trans (h.blk i hi hB hv hg);{rcases h.v1 with e|⟨g,e,hge⟩;{rw[e];exact hv};rw[e];simp only[ne_eq,af];omega};rcases h.g1 with e|⟨g,e,hge⟩;{rw[e];exact hg};rw[e];simp only[ne_eq,af];omega};{rcases k.v1 with e|⟨g,e,hge⟩;{rw[e];exact h.v1};exact .inr ⟨g,e,fE h.size hge⟩};rcases k.g1 with e|⟨g,e,hge⟩;{rw[e];exact h.g1};exact .inr ⟨g,e,fE h.size hge⟩
theorem FX.below{c:LX}(h:Below W.heap.size W W'):FX c v vg v vg W W':=⟨h.os,h.tape,h.output,h.size,fun i hi _ _ _=>h.block i hi, .inl rfl, .inl rfl⟩
theorem FX.rows{c:LX}{qE:Value}(h:FX c v vg v' qE W W'){xs:List Value}(hr:W.ownsRow n₀ e k u n xs)(hn:∀g,u.ownBlock=some g->g≠c.B/\v.ownBlock≠some g/\vg.ownBlock≠some g):W'.ownsRow n₀ e k u n xs:=by refine⟨hr.1,?_⟩;rcases hr.2 with h'|⟨g',cap',cur,h',h1,h2,r⟩;{exact .inl h'};have hg:=hn g' (by rw[h'];rfl);exact .inr ⟨g',cap',cur,h',h1,(h.blk g' (Array.getElem?_eq_some_iff.1 h2).1 hg.1 hg.2.1 hg.2.2).trans h2,r⟩
theorem MK.kept {c:LX}{W0 W W':World}{v vg:Value}{out:List (Ln×Int)}{P:Nat->Prop}(h:MK c W0 W v vg out P)(hB:Below W.heap.size W W'):MK c W0 W' v vg out P:=by obtain⟨vs,h1,h2,h3,h4⟩:=h.row;exact⟨h.fM.trans (hB.mono h.fM.size),h.box.kept hB,fE h.sz hB.size,⟨vs,aN h1 hB,h2,h3.kept hB,h4⟩,h.JF.kept hB⟩
theorem MK.jB{c:LX}{out:List (Ln×Int)}{P':Nat->Prop}(h:MK c W0 W v vg out P)(hP:∀g,P g->P' g):MK c W0 W v vg out P':=by obtain⟨vs,h1,h2,h3,h4⟩:=h.row;exact⟨h.fM,h.box,h.sz,⟨vs,h1,h2,h3,fun j hj g e=>⟨(h4 j hj g e).1,hP g (h4 j hj g e).2⟩⟩,h.JF⟩
theorem dJ{xs:List Value}(h:W.ownsRow n₀ e k v n xs)(hg:v.ownBlock=some g):n₀<=g/\g<W.heap.size:=Au h g hg
theorem gJ{b0 b1 e0 e1 k0 k1 n0 n1:Nat}{xs ys:List Value}(h0:W.ownsRow b0 e0 k0 u n0 xs)(h1:W.ownsRow b1 e1 k1 v n1 ys)(he:e0≠e1)(hg:u.ownBlock=some g):v.ownBlock≠some g:=by intro hv;rcases h0.2 with⟨rfl,-⟩|⟨g0,c0,aqy,rfl,-,hb0,-⟩;{cases hg};rcases h1.2 with⟨rfl,-⟩|⟨g1,c1,Xq,rfl,-,hb1,-⟩;{cases hv};simp only[Value.ownBlock,af]at hg hv;subst hg;subst hv;rw[hb0]at hb1;cases hb1;exact he rfl
theorem ek{xs:List Value}(h:W.ownsRow n₀ e k u n xs)(hg:W.grownBy W' row)(hne:∀g,u.ownBlock=some g->row≠some g):W'.ownsRow n₀ e k u n xs:=by refine⟨h.1,?_⟩;rcases h.2 with h'|⟨g',cap',cur,h',h1,h2,r⟩;{exact .inl h'};exact .inr ⟨g',cap',cur,h',h1,(hg.block g' (Array.getElem?_eq_some_iff.1 h2).1 (fun e=>hne g' (by rw[h'];rfl) e.symm)).trans h2,r⟩
theorem kQ.dU{vs:List Lv}{fs:List Ln}(h:kQ W n₀ k vs fs)(hg:W.grownBy W' row)(hne:∀j,j<k->∀g,(vs.getD j jk).2.2.2.2.2.ownBlock=some g->row≠some g):kQ W' n₀ k vs fs:=fun j hj=>by
 obtain⟨h0,h1,h2,h3,h4,h5⟩:=h j hj
 exact⟨h0,h1,h2,h3,h4,ek h5 hg (hne j hj)⟩
theorem eZ(h:Below w.heap.size w w1)(hg:w1.grownBy w2 row)(hr:∀g,row=some g->w.heap.size<=g):Below w.heap.size w w2:=
 ⟨hg.os.trans h.os,hg.tape.trans h.tape,hg.output.trans h.output,fE h.size hg.size,fun k hk=>(hg.block k (aj hk h.size) (fun e=>by have:=hr k e.symm;omega)).trans (h.block k hk)⟩
theorem sw (xs ys:List Lv):fF (xs++ys)=fF xs++fF ys:=by simp[fF]
theorem GV{a:Act}{K:Act->World->Prop}{E:Prop}(w:World)(hgd:o.guard=none)(s x:Operand)(t:TypeId)(ho:o.op= .call {callee:= .builtin .append,args:=#[s,x],argTypes:=#[t,t]})(base:Nat)(e:TypeId)(i:TypeInfo)(z:Value)(size bytes:Nat)(ht:Tryz.prog.underlying t=some (.slice e))(hi:Tryz.prog.info? e=some i)(hz:i.zero=some z)(hsize:i.size=size)(hby:i.bytes=bytes)(hzs:z.cells.size=size)(hsz:0<size)(v:Value)(n:Nat)(xs:List Value)(hs:a.eval s=v)(hown:w.ownsRow base e size v n xs)(ad:Addr)(m c:Nat)(news:List Value)(hx:a.eval x= .slice (some ad) m c)(hl:news.length=m*size)(hnews:∀j u,news[j]?=some u->w.cell? (ad.add j)=some u)(h1:∀u∈news,u.oneCell'=true)(h63:n+m<=maxLen)(hbytes:(n+m)*bytes<=140737488355328)(hbase:base<=w.heap.size)(h:∀v' w',w'.ownsRow base e size v' (n+m) (xs++news)->w.grownBy w' v.ownBlock->(v'= .slice none 0 0↔v= .slice none 0 0/\m=0)->(v'.ownBlock=v.ownBlock\/v'.ownBlock=some w.heap.size)->K (a.put o.dst v') w'):if Region.wanted o (yielded ops a.tmps)=true then Oper.wp Tryz.prog o a w K Q else E:=by have hw:Region.wanted o (yielded ops a.tmps)=true:=by{simp[Region.wanted,hgd]};rw[az hw];obtain⟨v',w',hr,h2,h3,h4,h5⟩:=run_append_own_at (P:=Tryz.prog) w base t o.type e i z size bytes ht hi hz hsize hby hzs hsz v n xs hown ad m c news hl hnews h1 h63 hbytes hbase;unfold Oper.wp execOp;simp only[ho,resolve,invoke,builtin,Sem.run_bind,Sem.run_pure,Result.andThen_ok,List.map_toArray,List.map_cons,List.map_nil,hs,hx,hr];exact h v' w' h2 h3 h4 h5
theorem Og (W W':World)(p q r s t u:Value)(ty:TypeId)(H:Nat)(hH:W.heap.size=H)(hc:∀i,W'.cell? ⟨H,i,none⟩=(W.alloc (.cells #[p,q,r,s,t,u] ty)).cell? ⟨H,i,none⟩):∀j y,[p,q,r,s,t,u][j]?=some y->W'.cell? ((⟨H,0,none⟩:Addr).add j)=some y:=by subst hH;intro j y hy;(have hadd:(⟨W.heap.size,0,none⟩:Addr).add j=⟨W.heap.size,j,none⟩:=by unfold Addr.add;split<;>simp_all);rw[hadd,hc,World.cell?_alloc_at _ _ _ _ rfl];simpa using hy
theorem TX.il{c:LX}(T:TX c W0){out:List (Ln×Int)}(K:MK c W0 W v vg out P):IL W c.ha c.f.b.length c.H/\IL W c.ea c.f.b.length c.E/\SL W c.ba c.f.b.length c.f.b:=
 ⟨T.hH.kept K.fM,T.hE.kept K.fM,T.hS.kept K.fM⟩
theorem MK.line{c:LX}{out:List (Ln×Int)}(K:MK c W0 W v vg out P)(hW:W0.heap.size<=c.B)(hB1:Below W.heap.size W W1)(x:Ln)(la:Option Addr)(ln lc:Nat)(hx:OI W (c.B+1) (.slice la ln lc) x.l)(hap:∀g,(Value.slice la ln lc).ownBlock=some g->vg.ownBlock≠some g/\P g)(vs:List Lv)(hvs:W.ownsRow (c.B+1) 109 6 v out.length (fF vs)/\vs.length=out.length/\kQ W (c.B+1) out.length vs (out.map (·.1))/\∀j,j<out.length->∀g,(vs.getD j jk).2.2.2.2.2.ownBlock=some g->vg.ownBlock≠some g/\P g)(hrow:W2.ownsRow (c.B+1) 109 6 v' (out.length+1) (fF vs++[.int .i64 x.k, .int .i64 x.d, .int .i64 x.a, .int .i64 x.b, .int .i64 x.n, .slice la ln lc]))(hg:W1.grownBy W2 v.ownBlock)(hat:v'.ownBlock=v.ownBlock\/v'.ownBlock=some W1.heap.size)(tg:Int):Below W0.heap.size W0 (W2.setCell ⟨c.B,0,none⟩ v')/\aV (W2.setCell ⟨c.B,0,none⟩ v') c.B (c.dS v' vg)/\c.B+1<=(W2.setCell ⟨c.B,0,none⟩ v').heap.size/\(∃vs:List Lv,(W2.setCell ⟨c.B,0,none⟩ v').ownsRow (c.B+1) 109 6 v' (out++[(x,tg)]).length (fF vs)/\vs.length=(out++[(x,tg)]).length/\kQ (W2.setCell ⟨c.B,0,none⟩ v') (c.B+1) (out++[(x,tg)]).length vs ((out++[(x,tg)]).map (·.1))/\∀j,j<(out++[(x,tg)]).length->∀g,(vs.getD j jk).2.2.2.2.2.ownBlock=some g->vg.ownBlock≠some g/\P g)/\OI (W2.setCell ⟨c.B,0,none⟩ v') (c.B+1) vg (out.map (·.2))/\FX c v vg v' vg W (W2.setCell ⟨c.B,0,none⟩ v'):=by obtain⟨r1,r2,r3,r4⟩:=hvs;have vB:∀g,v.ownBlock=some g->c.B+1<=g:=fun g hg=>(dJ r1 hg).1;have gs:=aC W2 ⟨c.B,0,none⟩ v';have bx1:=K.box.kept hB1;have bx2:=bx1.dU hg (fun e=>by have:=vB c.B e;omega);have bx3:=bx2.set 0 v';have hint:2≠109:=by{decide};have gB:∀g,vg.ownBlock=some g->c.B+1<=g:=fun g hg=>(dJ K.JF hg).1;have og1:OI W1 (c.B+1) vg (out.map (·.2)):=K.JF.kept hB1;have r1':=aN r1 hB1;have og2:OI W2 (c.B+1) vg (out.map (·.2)):=ek og1 hg (fun g e=>gJ og1 r1' hint e);have og3:OI (W2.setCell ⟨c.B,0,none⟩ v') (c.B+1) vg (out.map (·.2)):=ek og2 gs (fun g e=>by have:=gB g e;simp only[ne_eq,af];omega);have t1:=r3.kept hB1;have t2:kQ W2 (c.B+1) out.length vs (out.map (·.1)):=t1.dU hg (fun j hj g e=>gJ (t1 j hj).2.2.2.2.2 r1' hint e);have t3:kQ (W2.setCell ⟨c.B,0,none⟩ v') (c.B+1) out.length vs (out.map (·.1)):=t2.dU gs (fun j hj g e=>by have:=(dJ (t2 j hj).2.2.2.2.2 e).1;simp only[ne_eq,af];omega);have x1:=hx.kept hB1;have x2:OI W2 (c.B+1) (.slice la ln lc) x.l:=ek x1 hg (fun g e=>gJ x1 r1' hint e);have x3:OI (W2.setCell ⟨c.B,0,none⟩ v') (c.B+1) (.slice la ln lc) x.l:=ek x2 gs (fun g e=>by have:=(dJ x2 e).1;simp only[ne_eq,af];omega);have hr3:=ek hrow gs (fun g e=>by have:=(dJ hrow e).1;simp only[ne_eq,af];omega);have b1:=K.fM.trans (hB1.mono K.fM.size);have b2:=eZ b1 hg (fun g e=>by have:=vB g e;omega);have b3:=eZ b2 gs (fun g e=>by cases e;exact hW);refine⟨b3,bx3,?_,⟨vs++[(x.k,x.d,x.a,x.b,x.n, .slice la ln lc)],?_,?_,fun j hj=>?_,fun j hj g e=>?_⟩,og3,⟨(gs.os.trans hg.os).trans hB1.os,(gs.tape.trans hg.tape).trans hB1.tape,(gs.output.trans hg.output).trans hB1.output,fE hB1.size (fE hg.size gs.size),fun i hi hb hv hv2=>?_,?_, .inl rfl⟩⟩;{exact fE K.sz (fE hB1.size (fE hg.size gs.size))};{rw[sw,jw,Bb];exact hr3};{rw[jw,jw,r2];rfl};{rw[jw,Bb]at hj;by_cases hjl:j<out.length;{have e1:(vs++[(x.k,x.d,x.a,x.b,x.n,Value.slice la ln lc)]).getD j jk=vs.getD j jk:=by{rw[ah,uF (by omega),←ah]};have e2:((out++[(x,tg)]).map (·.1)).getD j .z=(out.map (·.1)).getD j .z:=by{rw[oU,ah,uF (by simpa using hjl),←ah]};rw[e1,e2];exact t3 j hjl};have ej:j=out.length:=by{omega};have e1:(vs++[(x.k,x.d,x.a,x.b,x.n,Value.slice la ln lc)]).getD j jk=(x.k,x.d,x.a,x.b,x.n,Value.slice la ln lc):=by{rw[ah,qU (by omega),r2,ej];simp};have e2:((out++[(x,tg)]).map (·.1)).getD j .z=x:=by{rw[oU,ah,qU (by simp;omega)];simp[ej]};rw[e1,e2];exact⟨rfl,rfl,rfl,rfl,rfl,x3⟩};{rw[jw,Bb]at hj;by_cases hjl:j<out.length;{have e1:(vs++[(x.k,x.d,x.a,x.b,x.n,Value.slice la ln lc)]).getD j jk=vs.getD j jk:=by{rw[ah,uF (by omega),←ah]};rw[e1]at e;exact r4 j hjl g e};have ej:j=out.length:=by{omega};have e1:(vs++[(x.k,x.d,x.a,x.b,x.n,Value.slice la ln lc)]).getD j jk=(x.k,x.d,x.a,x.b,x.n,Value.slice la ln lc):=by{rw[ah,qU (by omega),r2,ej];simp};rw[e1]at e;exact hap g e};{exact(gs.block i (aj hi (fE hB1.size hg.size)) (by simpa using hb)).trans ((hg.block i (aj hi hB1.size) (fun e=>hv e.symm)).trans (hB1.block i hi))};rcases hat with e|e;{exact .inl e};exact .inr ⟨_,e,hB1.size⟩
theorem MK.goal{c:LX}{qE:Value}{out:List (Ln×Int)}{x:Ln}{tg:Int}(hW:W0.heap.size<=c.B)(hb:Below W0.heap.size W0 W)(hbx:aV W c.B (c.dS v vg))(hsz:c.B+1<=W.heap.size)(hvs:∃vs:List Lv,W.ownsRow (c.B+1) 109 6 v (out++[(x,tg)]).length (fF vs)/\vs.length=(out++[(x,tg)]).length/\kQ W (c.B+1) (out++[(x,tg)]).length vs ((out++[(x,tg)]).map (·.1))/\∀j,j<(out++[(x,tg)]).length->∀g,(vs.getD j jk).2.2.2.2.2.ownBlock=some g->vg.ownBlock≠some g/\P g)(hgo:OI W (c.B+1) vg (out.map (·.2)))(hB1:Below W.heap.size W W1)(hrow:W2.ownsRow (c.B+1) 2 1 qE (out.length+1) ((out.map (·.2)).map iv++[.int .i64 tg]))(hg:W1.grownBy W2 vg.ownBlock)(hat:qE.ownBlock=vg.ownBlock\/qE.ownBlock=some W1.heap.size):MK c W0 (W2.setCell ⟨c.B,1,none⟩ qE) v qE (out++[(x,tg)]) P/\FX c v vg v qE W (W2.setCell ⟨c.B,1,none⟩ qE):=by obtain⟨vs,r1,r2,r3,r4⟩:=hvs;have gB:∀g,vg.ownBlock=some g->c.B+1<=g:=fun g hg=>(dJ hgo hg).1;have gs:=aC W2 ⟨c.B,1,none⟩ qE;have bx3:=((hbx.kept hB1).dU hg (fun e=>by have:=gB c.B e;omega)).set 1 qE;have hint:109≠2:=by{decide};have og1:OI W1 (c.B+1) vg (out.map (·.2)):=hgo.kept hB1;have s1:=aN r1 hB1;have s2:=ek s1 hg (fun g e=>gJ s1 og1 hint e);have s3:=ek s2 gs (fun g e=>by have:=(dJ s2 e).1;simp only[ne_eq,af];omega);have t1:=r3.kept hB1;have t2:=t1.dU hg (fun j hj g e=>(r4 j hj g e).1);have t3:=t2.dU gs (fun j hj g e=>by have:=(dJ (t2 j hj).2.2.2.2.2 e).1;simp only[ne_eq,af];omega);have hr3:=ek hrow gs (fun g e=>by have:=(dJ hrow e).1;simp only[ne_eq,af];omega);have b1:=hb.trans (hB1.mono hb.size);have b2:=eZ b1 hg (fun g e=>by have:=gB g e;omega);have b3:=eZ b2 gs (fun g e=>by cases e;exact hW);refine⟨⟨b3,bx3,fE hsz (fE hB1.size (fE hg.size gs.size)),⟨vs,s3,r2,t3,fun j hj g e=>?_⟩,?_⟩,⟨(gs.os.trans hg.os).trans hB1.os,(gs.tape.trans hg.tape).trans hB1.tape,(gs.output.trans hg.output).trans hB1.output,fE hB1.size (fE hg.size gs.size),fun i hi hb hv hv2=>?_, .inl rfl,?_⟩⟩;{rcases hat with e'|e';{rw[e'];exact r4 j hj g e};rw[e'];have:=(dJ (t1 j hj).2.2.2.2.2 e).2;refine⟨?_,(r4 j hj g e).2⟩;simp only[ne_eq,af];omega};{show World.ownsRow _ _ _ _ _ _ _;rw[oU,jw,oU,iw];exact hr3};{exact(gs.block i (aj hi (fE hB1.size hg.size)) (by simpa using hb)).trans ((hg.block i (aj hi hB1.size) (fun e=>hv2 e.symm)).trans (hB1.block i hi))};rcases hat with e|e;{exact .inl e};exact .inr ⟨_,e,hB1.size⟩
theorem aU (c:LX)(W0 W:World)(v vg:Value)(out:List (Ln×Int))(P:Nat->Prop)(hW:W0.heap.size<=c.B)(K:MK c W0 W v vg out P)(x:Ln)(la:Option Addr)(ln lc:Nat)(hx:OI W (c.B+1) (.slice la ln lc) x.l)(hap:∀g,(Value.slice la ln lc).ownBlock=some g->vg.ownBlock≠some g/\P g)(tg:Int)(hlen:out.length<=1000):Calls Tryz.prog 62 #[.pointer (some ⟨c.B,0,none⟩), .agg #[.int .i64 x.k, .int .i64 x.d, .int .i64 x.a, .int .i64 x.b, .int .i64 x.n, .slice la ln lc], .int .i64 tg] W fun e w'=>∃v' qE,e= .returned (.tuple #[])/\MK c W0 w' v' qE (out++[(x,tg)]) P/\FX c v vg v' qE W w':=by obtain⟨i0,hi,hz0,hz1,hz2⟩:=lW Ni;obtain⟨j0,hj,hy0,hy1,hy2⟩:=lW bQ;have hB1:=aB W (.cells #[.int .i64 x.k, .int .i64 x.d, .int .i64 x.a, .int .i64 x.b, .int .i64 x.n, .slice la ln lc] 109);have hB2:=hB1.trans ((aB _ (.cells #[.int .i64 x.k, .int .i64 x.d, .int .i64 x.a, .int .i64 x.b, .int .i64 x.n, .slice la ln lc] 109)).mono hB1.size);have hB3:=hB2.trans ((dZ _ _).drew.mono hB2.size);obtain⟨vs,hvs⟩:=K.row;obtain⟨av,cv,rfl⟩:=bK hvs.1;have hgo:W.ownsRow (c.B+1) 2 1 vg out.length ((out.map (·.2)).map iv):=by{have:=K.JF;unfold OI at this;rwa [iw]at this};obtain⟨ag,cg,rfl⟩:=bK hgo;have hr2:=aN (aN hvs.1 hB2) (dZ _ _).drew;have hb0:=K.box;have hb2:=(K.box.kept hB2).kept (dZ _ _).drew;have d0:=(hb0.2 0 _ rfl).1;have hvB:∀g,(Value.slice av out.length cv).ownBlock=some g->c.B+1<=g:=fun g hg=>(dJ hvs.1 hg).1;have HRW:=ae hr2;have HB:=ae hb2;have HK:=ae (ak K (ak hvs (ak hx (ak hap hB3))));have hsz:c.B<W.heap.size:=K.sz;clear hb0 hb2 hr2 hB1 hB2 hB3 hvs K hx hap hgo;go_enter Tryz.func62,Tryz.ntmps62;go_wp2;go_region_law (refine GV _ rfl (.tmp 10) (.tmp 12) 67 rfl (c.B+1) 109 i0 (.agg #[.int .i64 0, .int .i64 0, .int .i64 0, .int .i64 0, .int .i64 0, .slice none 0 0]) 6 64 Tryz.underlying67 hi hz0 hz1 hz2 rfl (by decide) (.slice av out.length cv) out.length (fF vs) (by simp[Act.eval]) HRW.out ⟨W.heap.size+1,0,none⟩ 1 1 [.int .i64 x.k, .int .i64 x.d, .int .i64 x.a, .int .i64 x.b, .int .i64 x.n, .slice la ln lc] (by simp[Act.eval]) rfl (Og (W.alloc (.cells #[.int .i64 x.k, .int .i64 x.d, .int .i64 x.a, .int .i64 x.b, .int .i64 x.n, .slice la ln lc] 109)) _ _ _ _ _ _ _ 109 _ (by simp) (fun i=>rfl)) (by simp[Value.oneCell']) (by simp only[maxLen];omega) (by omega) (by simp;omega) ?_;intro v' wA hown' hgrow _ hat;obtain⟨g',cap',rfl⟩:=qx hown';have pJ:=HB.out.dU hgrow (fun e=>by have:=hvB c.B e;omega);have cA:=(pJ.2 0 _ rfl).1;have fA:=(pJ.2 0 _ rfl).2;have pI:=ae (ak hown' (ak hgrow hat));have lA:=pJ.1;clear hown' hgrow pJ hat);all_goals have hM:=MK.line HK.out.1 hW HK.out.2.2.2.2 x la ln lc HK.out.2.2.1 HK.out.2.2.2.1 vs HK.out.2.1 pI.out.1 pI.out.2.1 pI.out.2.2 tg;clear pI HRW HB cA fA lA;generalize hW3:wA.setCell ⟨c.B,0,none⟩ (.slice (some ⟨g',0,none⟩) (out.length+1) cap')=W3 at hM;obtain⟨m1,m2,m3,m4,m5,m6⟩:=hM;have c1:=(m2.2 1 _ rfl).1;have f1:=(m2.2 1 _ rfl).2;have l3:c.B<W3.heap.size:=m3;have vk:=aB W3 (.cells #[.int .i64 tg] 2);have o4:(W3.alloc (.cells #[.int .i64 tg] 2)).ownsRow (c.B+1) 2 1 (.slice ag out.length cg) out.length ((out.map (·.2)).map iv):=by{have:=m5.kept vk;unfold OI at this;rwa [iw]at this};have hgB:∀g,(Value.slice ag out.length cg).ownBlock=some g->c.B+1<=g:=fun g hg=>(dJ o4 hg).1;have b4:=m2.kept vk;have HO4:=ae o4;have VU:=ae b4;have HM:=ae (ak m1 (ak m2 (ak m3 (ak m4 (ak m5 (ak m6 vk))))));clear m1 m2 m3 m4 m5 m6 o4 b4 vk;go_wp2_with(at_builtin;refine wpList_append_own_at _ rfl _ _ 27 rfl (c.B+1) 2 j0 (.int .i64 0) 1 8 Tryz.underlying27 hj hy0 hy1 hy2 rfl (by decide) (.slice ag out.length cg) out.length _ rfl HO4.out ⟨W3.heap.size,0,none⟩ 1 1 [.int .i64 tg] rfl rfl (cell_one_new _ _ _) (by simp[Value.oneCell']) (by simp only[maxLen];omega) (by omega) (by simp;omega) ?_;intro v2 wB hown2 hgrow2 _ Gz;obtain⟨g2,cap2,rfl⟩:=qx hown2;have hbB:=VU.out.dU hgrow2 (fun e=>by have:=hgB c.B e;omega);have cB:=(hbB.2 1 _ rfl).1;have fB:=(hbB.2 1 _ rfl).2;have oJ:=ae (ak hown2 (ak hgrow2 Gz));have lB:=hbB.1;clear hown2 hgrow2 hbB Gz);(try simp only[Exit.inBlock,Exit.then]);obtain⟨m1,m2,m3,m4,m5,m6,vk⟩:=HM.out;have hF:=MK.goal hW m1 m2 m3 m4 m5 vk oJ.out.1 oJ.out.2.1 oJ.out.2.2;refine fw (fe rfl _ _ _) rfl ⟨_,_,rfl,hF.1,m6.trans hF.2⟩
theorem mR{c:LX}{out:List (Ln×Int)}(T:TX c W0)(K:MK c W0 W v vg out P)(h:Int)(h1:-100<=h)(h2:h<=100):Calls Tryz.prog 96 #[.pointer (some ⟨c.B,0,none⟩), .int .i64 h] W fun e w'=>e= .returned (.int .i64 (Lw.bx c.f h))/\w'=W:=by have d2:=(K.box.2 2 _ rfl).1;have hok:=T.ok;have HW:Hid (Lw.bx c.f h=Lw.wd c.f+h):=rfl;have hw1:0<=Lw.wd c.f/\Lw.wd c.f<=6:=by{unfold Lw.wd;omega};generalize Lw.wd c.f=u at d2 HW hw1;clear T K hok;go_enter Tryz.func96,Tryz.ntmps96;go_wp2;go_ret;exact⟨by rw[HW.out]<;>rfl,rfl⟩
theorem Lw.sZ{dp:Int}{t:Nat}(hlt:dp.toNat<(aM.dG f.b E n n).length)(ht:(aM.dG f.b E n n).getD dp.toNat (-1)=(t:Int)):Lw.fG f E H n dp=if aM.op f.b t=9 then((t:Int)+1,0,0)else if aM.op f.b t=10 then(aM.aI E t,Lw.bx f (H.getD t 0-1),Hg.arg f.b t)else(aM.aI E t,Lw.bx f (H.getD t 0),Hg.arg f.b t):=by unfold Lw.fG;rw[az hlt,ht];rfl
theorem Lw.vG{dp:Int}(hlt:¬dp.toNat<(aM.dG f.b E n n).length):Lw.fG f E H n dp=((f.b.length:Int)-1,Lw.bx f 0,f.g):=by unfold Lw.fG;rw[ax hlt]
theorem bi{p:Addr}(hB:Below W.heap.size W W')(h:W.cell? p=some v):W'.cell? p=some v:=(hB.cell (p:=p) (World.block_lt_of_cell? _ _ h)).trans h
theorem aM.wH (xs:List (Int×Int))(E:List Int)(a:Int):∀k,(aM.dG xs E a k).length<=k
 |0=>bG _
 | k+1=>by
   have:=aM.wH xs E a k
   unfold aM.dG
   split
   · rw[oG];omega
   · omega
theorem mY{c:LX}{out:List (Ln×Int)}(T:TX c W0)(K:MK c W0 W v vg out P)(at':Nat)(hat:at'<c.f.b.length)(dp:Int)(h0:0<=dp)(h9:dp<=99)
   (hJ:∀t:Nat,dp.toNat<(aM.dG c.f.b c.E at' at').length->(aM.dG c.f.b c.E at' at').getD dp.toNat (-1)=(t:Int)->0<=c.H.getD t 0):
   Calls Tryz.prog 97 #[.pointer (some ⟨c.B,0,none⟩), .int .i64 at', .int .i64 dp] W fun e w'=>
     e= .returned (.tuple #[.int .i64 (Lw.fG c.f c.E c.H at' dp).1, .int .i64 (Lw.fG c.f c.E c.H at' dp).2.1, .int .i64 (Lw.fG c.f c.E c.H at' dp).2.2])/\Below W.heap.size W w':=by
 obtain⟨hH,hE,hS⟩:=T.il K
 have hLen:=T.ok.2.2.2.2.2
 have hall:=T.all
 have ahf:=T.acc.Lh
 have htop:=T.acc.dO
 obtain⟨bl,hbl⟩:∃n,c.f.b.length=n:=⟨_,rfl⟩
 have hbx:=K.box
 unfold LX.dS at hbx
 rw[hbl]at hH hE hS hLen hat htop hbx
 have d4:=(hbx.2 4 _ rfl).1
 have d5:=(hbx.2 5 _ rfl).1
 have Tc:=hbx.1
 have e4:∀p:bI W,p.to.cell? ⟨c.B,4,none⟩=some (.slice c.ea bl c.ec):=fun p=>(p.h.cell (p:=⟨c.B,4,none⟩) Tc).trans d4
 have e5:∀p:bI W,p.to.cell? ⟨c.B,5,none⟩=some (.slice c.ba bl c.bc):=fun p=>(p.h.cell (p:=⟨c.B,5,none⟩) Tc).trans d5
 have hne:=bI.any W
 have HT:=ae (ak T (ak K (ak hbl (ak hbx (ak htop ahf)))))
 have hcon:=fun(W':World) (hB:Below W.heap.size W W')=>qo c.ba bl c.bc c.f.b hLen hall c.ea c.ec c.E at' hat W' (hS.kept hB) (hE.kept hB)
 clear hbx htop ahf hall d4 d5
 have hal:=aM.wH c.f.b c.E at' at'
 obtain⟨A,hAr⟩:=aF (aM.dG c.f.b c.E at' at')
 have harm:=fun i hi=>aM.Cr (i:=i) HT.out.2.2.2.2.2 hAr hi
 have HLa:=ae (ak (fun(t:Nat) h1 h2=>Lw.sZ (f:=c.f) (E:=c.E) (H:=c.H) (n:=at') (dp:=dp) (t:=t) h1 h2) (fun h1=>Lw.vG (f:=c.f) (E:=c.E) (H:=c.H) (n:=at') (dp:=dp) h1))
 rw[hAr]at hal HLa
 simp only[hAr]at hJ hcon
 obtain⟨L,hL⟩:=aF (Lw.fG c.f c.E c.H at' dp)
 rw[hL]at HLa ⊢
 clear hL hAr
 go_enter Tryz.func97,Tryz.ntmps97
 go_wp2
 refine aS 9 (by kernel_rfl) (by kernel_rfl) ?_
 simp only[lL,jR,nD,nE]
 repeat(go_big_quiet_step (fail))
 refine ni ?_
 rintro _⟨pw,rfl⟩
 have hBp:=pw.h
 have gT:=hcon _ hBp
 obtain⟨W1,hW1⟩:=aF (pw.to)
 rw[hW1]at gT hBp ⊢
 clear hcon hW1 e4 e5 hne
 go_wp2_with fail
 refine gT.mono ?_
 rintro e w1⟨v1,rfl,hoi,hB1⟩
 dsimp only
 obtain⟨a1,c1,rfl,Ab⟩:=hoi.slice
 have hB2:=hBp.trans (hB1.mono hBp.size)
 have hK1:=HT.out.2.1.kept hB2
 have hbx:=hK1.box
 unfold LX.dS at hbx
 rw[HT.out.2.2.1]at hbx
 have d2:=(hbx.2 2 _ rfl).1
 have d3:=(hbx.2 3 _ rfl).1
 have d4:=(hbx.2 4 _ rfl).1
 have d5:=(hbx.2 5 _ rfl).1
 have d6:=(hbx.2 6 _ rfl).1
 have Tc:=hbx.1
 have hS1:=hS.kept hB2
 have hE1:=hE.kept hB2
 have hH1:=hH.kept hB2
 have HB:=ae hB2
 have bg:=ae (fun(p:bI w1) (h:Int) h1 h2=>mR HT.out.1 (hK1.kept p.h) h h1 h2)
 have hne:=bI.any w1
 clear hoi hbx gT hB1 hB2 hBp hS hE hH
 by_cases hlt:dp.toNat<A.length
 · obtain⟨t,et,htl,hEt,-⟩:=harm dp.toNat hlt
   have hge:¬((A.length:Int)<=dp):=by omega
   have htn:t<bl:=by omega
   have hxt:A.getD dp.toNat 0=(t:Int):=by
     rw[←et]
     unfold aM.aI
     rw[ah,ah,ai hlt]
     rfl
   have hdt:A.getD dp.toNat (-1)=(t:Int):=et
   have cA:∃ab ao,a1=some ⟨ab,ao,none⟩/\w1.cell? ⟨ab,ao+dp.toNat,none⟩=some (.int .i64 t):=by
     obtain⟨-,-,h3|⟨b,o,rfl,-,hh⟩⟩:=Ab
     · omega
     · exact⟨b,o,rfl,by rw[hh dp.toNat hlt,hxt]⟩
   obtain⟨ab,ao,rfl,cA⟩:=cA
   have cE:∃b o,c.ea=some ⟨b,o,none⟩/\b<w1.heap.size/\w1.cell? ⟨b,o+t,none⟩=some (.int .i64 (aM.aI c.E t)):=by
     obtain⟨hl,-,h3|⟨b,o,e,hb,hh⟩⟩:=hE1
     · omega
     · refine⟨b,o,e,hb,?_⟩
       rw[hh t htn]
       unfold aM.aI
       rw[ah,ah,ai (by omega)]
       rfl
   obtain⟨eb,eo,ee,lE,cE⟩:=cE
   have cH:∃b o,c.ha=some ⟨b,o,none⟩/\b<w1.heap.size/\w1.cell? ⟨b,o+t,none⟩=some (.int .i64 (c.H.getD t 0)):=by
     obtain⟨hl,-,h3|⟨b,o,e,hb,hh⟩⟩:=hH1
     · omega
     · exact⟨b,o,e,hb,hh t htn⟩
   obtain⟨hb',ho',eh,lH,cH⟩:=cH
   have cS:∃b o,c.ba=some ⟨b,o,none⟩/\b<w1.heap.size/\w1.cell? ⟨b,o+t*2,none⟩=some (.int .i64 (aM.op c.f.b t))/\w1.cell? ⟨b,o+t*2+1,none⟩=some (.int .i64 (Hg.arg c.f.b t)):=by
     obtain⟨hl,-,h3|⟨b,o,e,hb,hh⟩⟩:=hS1
     · omega
     · exact⟨b,o,e,hb,(hh t htn).1,(hh t htn).2⟩
   obtain⟨sb,so,es,lS,Li,cS2⟩:=cS
   have HL:Hid (L=if aM.op c.f.b t=9 then((t:Int)+1,0,0)else if aM.op c.f.b t=10 then(aM.aI c.E t,Lw.bx c.f (c.H.getD t 0-1),Hg.arg c.f.b t)else(aM.aI c.E t,Lw.bx c.f (c.H.getD t 0),Hg.arg c.f.b t)):=HLa.out.1 t hlt hdt
   have hHb:c.H.getD t 0<=20:=HT.out.2.2.2.2.1 t htn
   have hHl:0<=c.H.getD t 0:=hJ t hlt hdt
   obtain⟨p,hp⟩:=aF (aM.op c.f.b t)
   obtain⟨q,hq⟩:=aF (Hg.arg c.f.b t)
   obtain⟨u,hu⟩:=aF (c.H.getD t 0)
   obtain⟨z,hz⟩:=aF (aM.aI c.E t)
   rw[hp,hq,hu,hz]at HL
   rw[hp]at Li
   rw[hq]at cS2
   rw[hu]at cH hHb hHl
   rw[hz]at cE
   have HX1:=ae (fun(pz:bI w1)=>bg.out pz (u-1) (by omega) (by omega))
   have HX2:=ae (fun(pz:bI w1)=>bg.out pz u (by omega) (by omega))
   obtain⟨b1,hb1⟩:=aF (Lw.bx c.f (u-1))
   obtain⟨b2,hb2⟩:=aF (Lw.bx c.f u)
   rw[hb1]at HX1 HL
   rw[hb2]at HX2 HL
   obtain⟨dn,hdn⟩:=BQ h0
   subst hdn
   rw[aA]at cA hlt
   have hdZ:(dn:Int)<(A.length:Int):=by omega
   have htZ:(t:Int)<(bl:Int):=by omega
   rw[eh]at d3
   rw[ee]at d4
   rw[es]at d5
   have g3:∀p:bI w1,p.to.cell? ⟨c.B,3,none⟩=some (.slice (some ⟨hb',ho',none⟩) bl c.hc):=fun p=>(p.h.cell (p:=⟨c.B,3,none⟩) Tc).trans d3
   have g4:∀p:bI w1,p.to.cell? ⟨c.B,4,none⟩=some (.slice (some ⟨eb,eo,none⟩) bl c.ec):=fun p=>(p.h.cell (p:=⟨c.B,4,none⟩) Tc).trans d4
   have g5:∀p:bI w1,p.to.cell? ⟨c.B,5,none⟩=some (.slice (some ⟨sb,so,none⟩) bl c.bc):=fun p=>(p.h.cell (p:=⟨c.B,5,none⟩) Tc).trans d5
   have gE:∀p:bI w1,p.to.cell? ⟨eb,eo+t,none⟩=some (.int .i64 z):=fun p=>(p.h.cell (p:=⟨eb,eo+t,none⟩) lE).trans cE
   have gH:∀p:bI w1,p.to.cell? ⟨hb',ho'+t,none⟩=some (.int .i64 u):=fun p=>(p.h.cell (p:=⟨hb',ho'+t,none⟩) lH).trans cH
   have gS:∀pz:bI w1,pz.to.cell? ⟨sb,so+t*2+1,none⟩=some (.int .i64 q):=fun pz=>(pz.h.cell (p:=⟨sb,so+t*2+1,none⟩) lS).trans cS2
   obtain⟨al,Td⟩:=aF (A.length)
   rw[Td]at hdZ hlt hge hal ⊢
   clear harm Ab hS1 hE1 hH1 hxt hdt et hp hq hu hz hb1 hb2 Td hJ HLa ee eh es d2 d6
   by_cases h9':p=9
   · subst h9'
     clear g3 g4 g5 gE gH gS
     go_wp2
     go_ret3
     exact⟨by rw[HL.out];rfl,HB.out⟩
   · by_cases h10:p=10
     · subst h10
       go_wp2
       refine bT (by kernel_rfl) (by kernel_rfl) ?_
       repeat(go_big_quiet_step (first|exact lV (HX1.out _)))
       refine ni ?_
       rintro _⟨pz,rfl⟩
       have hBz:=pz.h
       clear g3 g4 g5 gE gH gS
       generalize pz.to=w7 at*
       go_wp2
       go_ret3
       exact⟨by rw[HL.out];rfl,HB.out.trans (hBz.mono HB.out.size)⟩
     · have e9:(p==9)=false:=by simpa using h9'
       have e10:(p==10)=false:=by simpa using h10
       go_wp2
       refine bT (by kernel_rfl) (by kernel_rfl) ?_
       repeat(go_big_quiet_step (first|exact lV (HX2.out _)))
       refine ni ?_
       rintro _⟨pz,rfl⟩
       have hBz:=pz.h
       clear g3 g4 g5 gE gH gS
       generalize pz.to=w7 at*
       go_wp2
       go_ret3
       exact⟨by rw[HL.out,ax h9',ax h10];rfl,HB.out.trans (hBz.mono HB.out.size)⟩
 · have hge:(A.length:Int)<=dp:=by omega
   have HL:Hid (L=((bl:Int)-1,Lw.bx c.f 0,c.f.g)):=by
     show _=_
     rw[HLa.out.2 hlt,HT.out.2.2.1]
   have HX0:=ae (fun(p:bI w1)=>bg.out p 0 (by omega) (by omega))
   have g5:∀p:bI w1,p.to.cell? ⟨c.B,5,none⟩=some (.slice c.ba bl c.bc):=fun p=>(p.h.cell (p:=⟨c.B,5,none⟩) Tc).trans d5
   have g6:∀p:bI w1,p.to.cell? ⟨c.B,6,none⟩=some (.int .i64 c.f.g):=fun p=>(p.h.cell (p:=⟨c.B,6,none⟩) Tc).trans d6
   obtain⟨bz,hbz⟩:=aF (Lw.bx c.f 0)
   rw[hbz]at HL HX0
   clear harm Ab hS1 hE1 hH1 hJ hal hbz d2 d3 d4 d5 d6
   go_wp2
   refine bT (by kernel_rfl) (by kernel_rfl) ?_
   repeat(go_big_quiet_step (first|exact lV (HX0.out _)))
   refine ni ?_
   rintro _⟨pz,rfl⟩
   have hBz:=pz.h
   generalize pz.to=w7 at*
   go_wp2
   go_ret3
   exact⟨by rw[HL.out];rfl,HB.out.trans (hBz.mono HB.out.size)⟩
theorem agi{c:LX}{out:List (Ln×Int)}(T:TX c W0)(K:MK c W0 W v vg out P)(fa:Option Addr)(fl fc:Nat)(d:ByteArray)(oa:Option Addr)(oc:Nat)(hF:FL W0 fa fl c.fs)(hO:IL W0 oa c.f.b.length c.O)(at':Nat)(hat:at'<c.f.b.length)(hr:0<=c.H.getD at' 0)(hlen:out.length<=900)(p:Int)(hp:aM.op c.f.b at'=p)(hk:p=7\/p=8\/p=9\/p=12\/p=20\/p=1\/p=2\/p=3\/p=4\/p=5\/p=6\/p=17\/p=18\/p=19):Calls Tryz.prog 63 #[.pointer (some ⟨c.B,0,none⟩), .agg #[.slice fa fl fc, .string d], .slice oa c.f.b.length oc, .int .i64 at'] W fun e w'=>∃v' qE,e= .returned (.tuple #[])/\MK c W0 w' v' qE (out++Lw.step c.fs c.f c.E c.O c.H at') (fun g=>P g\/W.heap.size<=g)/\FX c v vg v' qE W w':=by have hty:=T.acc.typ at' hat hr;obtain⟨hH,hE,hS⟩:=T.il K;have Te:=hO.kept K.fM;have hF1:=hF.kept K.fM;have hLen:=T.ok.2.2.2.2.2;have htop:=T.acc.dO at' hat;have hW:=T.lt;have hwd:0<=Lw.wd c.f/\Lw.wd c.f<=6:=by{have:=T.ok;unfold Lw.wd;omega};have HST:Hid (Lw.step c.fs c.f c.E c.O c.H at'=Lw.uX c.fs c.f c.E c.O c.H at' p (Hg.arg c.f.b at') (Lw.bx c.f (c.H.getD at' 0-1))):=by{show _=_;unfold Lw.step;rw[hp]};have hbx0:=K.box;unfold LX.dS at hbx0;obtain⟨bl,hbl⟩:∃n,c.f.b.length=n:=⟨_,rfl⟩;rw[hbl]at hH hE hS Te hLen hat hbx0 ⊢;have ny:(at':Int)<(bl:Int):=by{omega};have cS:∃b o,c.ba=some ⟨b,o,none⟩/\b<W.heap.size/\W.cell? ⟨b,o+at'*2,none⟩=some (.int .i64 (aM.op c.f.b at'))/\W.cell? ⟨b,o+at'*2+1,none⟩=some (.int .i64 (Hg.arg c.f.b at')):=by{obtain⟨hl,-,h3|⟨b,o,e,hb,hh⟩⟩:=hS;{omega};exact⟨b,o,e,hb,(hh at' hat).1,(hh at' hat).2⟩};obtain⟨sb,so,es,lS,Li,cS2⟩:=cS;have cH:∃b o,c.ha=some ⟨b,o,none⟩/\b<W.heap.size/\W.cell? ⟨b,o+at',none⟩=some (.int .i64 (c.H.getD at' 0)):=by{obtain⟨hl,-,h3|⟨b,o,e,hb,hh⟩⟩:=hH;{omega};exact⟨b,o,e,hb,hh at' hat⟩};obtain⟨hb',ho',eh,lH,cH⟩:=cH;have cE:∃b o,c.ea=some ⟨b,o,none⟩/\b<W.heap.size/\W.cell? ⟨b,o+at',none⟩=some (.int .i64 (aM.aI c.E at')):=by{obtain⟨hl,-,h3|⟨b,o,e,hb,hh⟩⟩:=hE;{omega};refine⟨b,o,e,hb,?_⟩;rw[hh at' hat];unfold aM.aI;rw[ah,ah,ai (by omega)];rfl};obtain⟨eb,eo,ee,lE,cE⟩:=cE;have cO:∃b o,oa=some ⟨b,o,none⟩/\b<W.heap.size/\W.cell? ⟨b,o+at',none⟩=some (.int .i64 (aM.aI c.O at')):=by{obtain⟨hl,-,h3|⟨b,o,e,hb,hh⟩⟩:=Te;{omega};refine⟨b,o,e,hb,?_⟩;rw[hh at' hat];unfold aM.aI;rw[ah,ah,ai (by omega)];rfl};obtain⟨ob,oo,rfl,lO,cO⟩:=cO;rw[hp]at Li;obtain⟨q,hq⟩:=aF (Hg.arg c.f.b at');obtain⟨u,hu⟩:=aF (c.H.getD at' 0);rw[hq]at cS2 HST;rw[hu]at cH htop hr HST;have d2:=(hbx0.2 2 _ rfl).1;have d3:=(hbx0.2 3 _ rfl).1;have d4:=(hbx0.2 4 _ rfl).1;have d5:=(hbx0.2 5 _ rfl).1;have Tc:=hbx0.1;rw[eh]at d3;rw[ee]at d4;rw[es]at d5;have hB1:=aB W (.cells #[.slice fa fl fc, .string d] 26);have hA1:dC (W.alloc (.cells #[.slice fa fl fc, .string d] 26)) W.heap.size 26 [.slice fa fl fc, .string d]:=heap_alloc_last W _;obtain⟨W1,hW1⟩:∃X,W.alloc (.cells #[.slice fa fl fc, .string d] 26)=X:=⟨_,rfl⟩;rw[hW1]at hB1 hA1;have hB2:=aB W1 (.cells #[.int .i64 (p), .int .i64 q] 95);have hA2:dC (W1.alloc (.cells #[.int .i64 (p), .int .i64 q] 95)) W1.heap.size 95 [.int .i64 (p), .int .i64 q]:=heap_alloc_last W1 _;obtain⟨W2,hW2⟩:∃X,W1.alloc (.cells #[.int .i64 (p), .int .i64 q] 95)=X:=⟨_,rfl⟩;rw[hW2]at hB2 hA2;have hB:=hB1.trans (hB2.mono hB1.size);have K2:=K.kept hB;have mH:=hA1.kept hB2;have hcon:=mR T K2 (u-1) (by omega) (by omega);have htt:-1<=Lw.bx c.f (u-1)/\Lw.bx c.f (u-1)<=26:=by{unfold Lw.bx;omega};obtain⟨tt,JG⟩:=aF (Lw.bx c.f (u-1));rw[JG]at hcon htt HST;have c3:=bi hB1 d3;have k3:=bi hB d3;have k4:=bi hB d4;have c5:=bi hB1 d5;have c6:=bi hB1 Li;have c7:=bi hB1 cS2;have c8:=bi hB cH;have Az:=bi hB cE;have AB:=bi hB cO;have k2:=bi hB d2;have s0:=hA2.cell (j:=0) rfl;have s1:=hA2.cell (j:=1) rfl;have m0:=mH.cell (j:=0) rfl;have F0:FX c v vg v vg W W2:=FX.below hB;have hF2:=hF1.kept hB;have HQ:=ae (ak hp (ak hq (ak hbl (ak hu hty))));clear hH hE hS hO Te hF hF1 d2 d3 d4 d5 Li cS2 cH cE cO hbx0 hA1 hB1 hB2 K hu JG hp hq hbl;go_enter Tryz.func63,Tryz.ntmps63;go_wp2_with fail;refine hcon.mono ?_;rintro e w3⟨rfl,dz⟩;subst w3;dsimp only;clear hcon;rcases hk with rfl|rfl|rfl|rfl|rfl|rfl|rfl|rfl|rfl|rfl|rfl|rfl|rfl|rfl;{replace HST:Hid (Lw.step c.fs c.f c.E c.O c.H at'=[]):=HST;clear c3 k3 k4 c5 c6 c7 c8 Az AB k2 m0 mH hA2 hW1 hW2 hty hF2;go_wp2;(try simp only[Exit.inBlock,Exit.then]);refine fw (fe rfl _ _ _) rfl ⟨v,vg,rfl,?_,F0⟩;rw[HST.out];refine MK.jB ?_ (fun g h=> .inl h);simpa[oI]using K2};{replace HST:Hid (Lw.step c.fs c.f c.E c.O c.H at'=[]):=HST;clear c3 k3 k4 c5 c6 c7 c8 Az AB k2 m0 mH hA2 hW1 hW2 hty hF2;go_wp2;(try simp only[Exit.inBlock,Exit.then]);refine fw (fe rfl _ _ _) rfl ⟨v,vg,rfl,?_,F0⟩;rw[HST.out];refine MK.jB ?_ (fun g h=> .inl h);simpa[oI]using K2};{replace HST:Hid (Lw.step c.fs c.f c.E c.O c.H at'=[]):=HST;clear c3 k3 k4 c5 c6 c7 c8 Az AB k2 m0 mH hA2 hW1 hW2 hty hF2;go_wp2;(try simp only[Exit.inBlock,Exit.then]);refine fw (fe rfl _ _ _) rfl ⟨v,vg,rfl,?_,F0⟩;rw[HST.out];refine MK.jB ?_ (fun g h=> .inl h);simpa[oI]using K2};{replace HST:Hid (Lw.step c.fs c.f c.E c.O c.H at'=[]):=HST;clear c3 k3 k4 c5 c6 c7 c8 Az AB k2 m0 mH hA2 hW1 hW2 hty hF2;go_wp2;(try simp only[Exit.inBlock,Exit.then]);refine fw (fe rfl _ _ _) rfl ⟨v,vg,rfl,?_,F0⟩;rw[HST.out];refine MK.jB ?_ (fun g h=> .inl h);simpa[oI]using K2};{replace HST:Hid (Lw.step c.fs c.f c.E c.O c.H at'=[]):=HST;clear c3 k3 k4 c5 c6 c7 c8 Az AB k2 m0 mH hA2 hW1 hW2 hty hF2;go_wp2;(try simp only[Exit.inBlock,Exit.then]);refine fw (fe rfl _ _ _) rfl ⟨v,vg,rfl,?_,F0⟩;rw[HST.out];refine MK.jB ?_ (fun g h=> .inl h);simpa[oI]using K2};{replace HST:Hid (Lw.step c.fs c.f c.E c.O c.H at'=[(⟨1,tt+1,0,0,q,[]⟩,-1)]):=HST;clear c3 k3 k4 c5 c6 c7 c8 Az AB k2 m0 mH hA2 hW1 hW2 hty hF2;go_wp2_with fail;refine(aU c W0 W2 v vg (out) P hW K2 ⟨1,tt+1,0,0,q,[]⟩ none 0 0 (OI.nil _ _) (fun g e=>by cases e) (-1) (by omega)).mono ?_;rintro e X1⟨v1,mE,rfl,K1,F1⟩;dsimp only;clear s0 s1;have G1:=F0.trans F1;clear K2 F1 F0;go_wp2;(try simp only[Exit.inBlock,Exit.then]);refine fw (fe rfl _ _ _) rfl ⟨v1,mE,rfl,?_,G1⟩;rw[HST.out];refine MK.jB ?_ (fun g h=> .inl h);simpa[oI]using K1};{replace HST:Hid (Lw.step c.fs c.f c.E c.O c.H at'=[(⟨2,tt+1,q,0,0,[]⟩,-1)]):=HST;clear c3 k3 k4 c5 c6 c7 c8 Az AB k2 m0 mH hA2 hW1 hW2 hty hF2;go_wp2_with fail;refine(aU c W0 W2 v vg (out) P hW K2 ⟨2,tt+1,q,0,0,[]⟩ none 0 0 (OI.nil _ _) (fun g e=>by cases e) (-1) (by omega)).mono ?_;rintro e X1⟨v1,mE,rfl,K1,F1⟩;dsimp only;clear s0 s1;have G1:=F0.trans F1;clear K2 F1 F0;go_wp2;(try simp only[Exit.inBlock,Exit.then]);refine fw (fe rfl _ _ _) rfl ⟨v1,mE,rfl,?_,G1⟩;rw[HST.out];refine MK.jB ?_ (fun g h=> .inl h);simpa[oI]using K1};{replace HST:Hid (Lw.step c.fs c.f c.E c.O c.H at'=[(⟨2,q,tt,0,0,[]⟩,-1)]):=HST;clear c3 k3 k4 c5 c6 c7 c8 Az AB k2 m0 mH hA2 hW1 hW2 hty hF2;go_wp2_with fail;refine(aU c W0 W2 v vg (out) P hW K2 ⟨2,q,tt,0,0,[]⟩ none 0 0 (OI.nil _ _) (fun g e=>by cases e) (-1) (by omega)).mono ?_;rintro e X1⟨v1,mE,rfl,K1,F1⟩;dsimp only;clear s0 s1;have G1:=F0.trans F1;clear K2 F1 F0;go_wp2;(try simp only[Exit.inBlock,Exit.then]);refine fw (fe rfl _ _ _) rfl ⟨v1,mE,rfl,?_,G1⟩;rw[HST.out];refine MK.jB ?_ (fun g h=> .inl h);simpa[oI]using K1};{replace HST:Hid (Lw.step c.fs c.f c.E c.O c.H at'=[(⟨2,q,tt,0,0,[]⟩,-1)]):=HST;clear c3 k3 k4 c5 c6 c7 c8 Az AB k2 m0 mH hA2 hW1 hW2 hty hF2;go_wp2_with fail;refine(aU c W0 W2 v vg (out) P hW K2 ⟨2,q,tt,0,0,[]⟩ none 0 0 (OI.nil _ _) (fun g e=>by cases e) (-1) (by omega)).mono ?_;rintro e X1⟨v1,mE,rfl,K1,F1⟩;dsimp only;clear s0 s1;have G1:=F0.trans F1;clear K2 F1 F0;go_wp2;(try simp only[Exit.inBlock,Exit.then]);refine fw (fe rfl _ _ _) rfl ⟨v1,mE,rfl,?_,G1⟩;rw[HST.out];refine MK.jB ?_ (fun g h=> .inl h);simpa[oI]using K1};{replace HST:Hid (Lw.step c.fs c.f c.E c.O c.H at'=[(⟨3,tt-1,tt-1,tt,q,[]⟩,-1)]):=HST;clear c3 k3 k4 c5 c6 c7 c8 Az AB k2 m0 mH hA2 hW1 hW2 hty hF2;go_wp2_with fail;refine(aU c W0 W2 v vg (out) P hW K2 ⟨3,tt-1,tt-1,tt,q,[]⟩ none 0 0 (OI.nil _ _) (fun g e=>by cases e) (-1) (by omega)).mono ?_;rintro e X1⟨v1,mE,rfl,K1,F1⟩;dsimp only;clear s0 s1;have G1:=F0.trans F1;clear K2 F1 F0;go_wp2;(try simp only[Exit.inBlock,Exit.then]);refine fw (fe rfl _ _ _) rfl ⟨v1,mE,rfl,?_,G1⟩;rw[HST.out];refine MK.jB ?_ (fun g h=> .inl h);simpa[oI]using K1};{replace HST:Hid (Lw.step c.fs c.f c.E c.O c.H at'=[(⟨4,tt,tt,0,0,[]⟩,-1)]):=HST;clear c3 k3 k4 c5 c6 c7 c8 Az AB k2 m0 mH hA2 hW1 hW2 hty hF2;go_wp2_with fail;refine(aU c W0 W2 v vg (out) P hW K2 ⟨4,tt,tt,0,0,[]⟩ none 0 0 (OI.nil _ _) (fun g e=>by cases e) (-1) (by omega)).mono ?_;rintro e X1⟨v1,mE,rfl,K1,F1⟩;dsimp only;clear s0 s1;have G1:=F0.trans F1;clear K2 F1 F0;go_wp2;(try simp only[Exit.inBlock,Exit.then]);refine fw (fe rfl _ _ _) rfl ⟨v1,mE,rfl,?_,G1⟩;rw[HST.out];refine MK.jB ?_ (fun g h=> .inl h);simpa[oI]using K1};{replace HST:Hid (Lw.step c.fs c.f c.E c.O c.H at'=[(⟨8,tt,tt,0,q,[]⟩,-1)]):=HST;clear c3 k3 k4 c5 c6 c7 c8 Az AB k2 m0 mH hA2 hW1 hW2 hty hF2;go_wp2_with fail;refine(aU c W0 W2 v vg (out) P hW K2 ⟨8,tt,tt,0,q,[]⟩ none 0 0 (OI.nil _ _) (fun g e=>by cases e) (-1) (by omega)).mono ?_;rintro e X1⟨v1,mE,rfl,K1,F1⟩;dsimp only;clear s0 s1;have G1:=F0.trans F1;clear K2 F1 F0;go_wp2;(try simp only[Exit.inBlock,Exit.then]);refine fw (fe rfl _ _ _) rfl ⟨v1,mE,rfl,?_,G1⟩;rw[HST.out];refine MK.jB ?_ (fun g h=> .inl h);simpa[oI]using K1};{replace HST:Hid (Lw.step c.fs c.f c.E c.O c.H at'=[(⟨9,0,tt-1,tt,q,[]⟩,-1)]):=HST;clear c3 k3 k4 c5 c6 c7 c8 Az AB k2 m0 mH hA2 hW1 hW2 hty hF2;go_wp2_with fail;refine(aU c W0 W2 v vg (out) P hW K2 ⟨9,0,tt-1,tt,q,[]⟩ none 0 0 (OI.nil _ _) (fun g e=>by cases e) (-1) (by omega)).mono ?_;rintro e X1⟨v1,mE,rfl,K1,F1⟩;dsimp only;clear s0 s1;have G1:=F0.trans F1;clear K2 F1 F0;go_wp2;(try simp only[Exit.inBlock,Exit.then]);refine fw (fe rfl _ _ _) rfl ⟨v1,mE,rfl,?_,G1⟩;rw[HST.out];refine MK.jB ?_ (fun g h=> .inl h);simpa[oI]using K1};replace HST:Hid (Lw.step c.fs c.f c.E c.O c.H at'=[(⟨11,0,0,0,0,[]⟩,-1)]):=HST;clear c3 k3 k4 c5 c6 c7 c8 Az AB k2 m0 mH hA2 hW1 hW2 hty hF2;go_wp2_with fail;refine(aU c W0 W2 v vg (out) P hW K2 ⟨11,0,0,0,0,[]⟩ none 0 0 (OI.nil _ _) (fun g e=>by cases e) (-1) (by omega)).mono ?_;rintro e X1⟨v1,mE,rfl,K1,F1⟩;dsimp only;clear s0 s1;have G1:=F0.trans F1;clear K2 F1 F0;go_wp2;(try simp only[Exit.inBlock,Exit.then]);refine fw (fe rfl _ _ _) rfl ⟨v1,mE,rfl,?_,G1⟩;rw[HST.out];refine MK.jB ?_ (fun g h=> .inl h);simpa[oI]using K1
theorem Lw.P9{c:LX}(T:TX c W0)(hat:at'<c.f.b.length)(h:aM.op c.f.b at'=13\/aM.op c.f.b at'=14):0<=Hg.arg c.f.b at'/\Hg.arg c.f.b at'<=9:=by have hok:St.ok (aM.op c.f.b at') (Hg.arg c.f.b at')=true:=St.aZ T.all hat;simp only[St.ok,au,Wd.aX]at hok;(have h1:St.least (aM.op c.f.b at')=0:=by rcases h with h|h<;>rw[h]<;>rfl);(have h2:St.cK (aM.op c.f.b at')=9:=by rcases h with h|h<;>rw[h]<;>rfl);omega
theorem Lw.low{hh:Int}(hJ:Hg.jK f E H j hh a):∀t:Nat,a.toNat<(aM.dG f.b E j j).length->(aM.dG f.b E j j).getD a.toNat (-1)=(t:Int)->0<=H.getD t 0:=fun t hlt ht=>by
 obtain⟨t',e',-,-,h0,-⟩:=hJ.1 hlt
 rw[ht]at e'
 have:t=t':=by omega
 rw[this]
 exact h0
theorem afn{c:LX}{out:List (Ln×Int)}(T:TX c W0)(K:MK c W0 W v vg out P)(fa:Option Addr)(fl fc:Nat)(d:ByteArray)(oa:Option Addr)(oc:Nat)(hF:FL W0 fa fl c.fs)(hO:IL W0 oa c.f.b.length c.O)(at':Nat)(hat:at'<c.f.b.length)(hr:0<=c.H.getD at' 0)(hlen:out.length<=900)(p:Int)(hp:aM.op c.f.b at'=p)(hk:p=10\/p=11\/p=13\/p=15\/p=14):Calls Tryz.prog 63 #[.pointer (some ⟨c.B,0,none⟩), .agg #[.slice fa fl fc, .string d], .slice oa c.f.b.length oc, .int .i64 at'] W fun e w'=>∃v' qE,e= .returned (.tuple #[])/\MK c W0 w' v' qE (out++Lw.step c.fs c.f c.E c.O c.H at') (fun g=>P g\/W.heap.size<=g)/\FX c v vg v' qE W w':=by have hty:=T.acc.typ at' hat hr;obtain⟨hH,hE,hS⟩:=T.il K;have Te:=hO.kept K.fM;have hF1:=hF.kept K.fM;have hLen:=T.ok.2.2.2.2.2;have htop:=T.acc.dO at' hat;have hW:=T.lt;have hwd:0<=Lw.wd c.f/\Lw.wd c.f<=6:=by{have:=T.ok;unfold Lw.wd;omega};have HST:Hid (Lw.step c.fs c.f c.E c.O c.H at'=Lw.uX c.fs c.f c.E c.O c.H at' p (Hg.arg c.f.b at') (Lw.bx c.f (c.H.getD at' 0-1))):=by{show _=_;unfold Lw.step;rw[hp]};have hbx0:=K.box;unfold LX.dS at hbx0;obtain⟨bl,hbl⟩:∃n,c.f.b.length=n:=⟨_,rfl⟩;rw[hbl]at hH hE hS Te hLen hat hbx0 ⊢;have ny:(at':Int)<(bl:Int):=by{omega};have cS:∃b o,c.ba=some ⟨b,o,none⟩/\b<W.heap.size/\W.cell? ⟨b,o+at'*2,none⟩=some (.int .i64 (aM.op c.f.b at'))/\W.cell? ⟨b,o+at'*2+1,none⟩=some (.int .i64 (Hg.arg c.f.b at')):=by{obtain⟨hl,-,h3|⟨b,o,e,hb,hh⟩⟩:=hS;{omega};exact⟨b,o,e,hb,(hh at' hat).1,(hh at' hat).2⟩};obtain⟨sb,so,es,lS,Li,cS2⟩:=cS;have cH:∃b o,c.ha=some ⟨b,o,none⟩/\b<W.heap.size/\W.cell? ⟨b,o+at',none⟩=some (.int .i64 (c.H.getD at' 0)):=by{obtain⟨hl,-,h3|⟨b,o,e,hb,hh⟩⟩:=hH;{omega};exact⟨b,o,e,hb,hh at' hat⟩};obtain⟨hb',ho',eh,lH,cH⟩:=cH;have cE:∃b o,c.ea=some ⟨b,o,none⟩/\b<W.heap.size/\W.cell? ⟨b,o+at',none⟩=some (.int .i64 (aM.aI c.E at')):=by{obtain⟨hl,-,h3|⟨b,o,e,hb,hh⟩⟩:=hE;{omega};refine⟨b,o,e,hb,?_⟩;rw[hh at' hat];unfold aM.aI;rw[ah,ah,ai (by omega)];rfl};obtain⟨eb,eo,ee,lE,cE⟩:=cE;have cO:∃b o,oa=some ⟨b,o,none⟩/\b<W.heap.size/\W.cell? ⟨b,o+at',none⟩=some (.int .i64 (aM.aI c.O at')):=by{obtain⟨hl,-,h3|⟨b,o,e,hb,hh⟩⟩:=Te;{omega};refine⟨b,o,e,hb,?_⟩;rw[hh at' hat];unfold aM.aI;rw[ah,ah,ai (by omega)];rfl};obtain⟨ob,oo,rfl,lO,cO⟩:=cO;rw[hp]at Li;obtain⟨q,hq⟩:=aF (Hg.arg c.f.b at');obtain⟨u,hu⟩:=aF (c.H.getD at' 0);rw[hq]at cS2 HST;rw[hu]at cH htop hr HST;have d2:=(hbx0.2 2 _ rfl).1;have d3:=(hbx0.2 3 _ rfl).1;have d4:=(hbx0.2 4 _ rfl).1;have d5:=(hbx0.2 5 _ rfl).1;have Tc:=hbx0.1;rw[eh]at d3;rw[ee]at d4;rw[es]at d5;have hB1:=aB W (.cells #[.slice fa fl fc, .string d] 26);have hA1:dC (W.alloc (.cells #[.slice fa fl fc, .string d] 26)) W.heap.size 26 [.slice fa fl fc, .string d]:=heap_alloc_last W _;obtain⟨W1,hW1⟩:∃X,W.alloc (.cells #[.slice fa fl fc, .string d] 26)=X:=⟨_,rfl⟩;rw[hW1]at hB1 hA1;have hB2:=aB W1 (.cells #[.int .i64 (p), .int .i64 q] 95);have hA2:dC (W1.alloc (.cells #[.int .i64 (p), .int .i64 q] 95)) W1.heap.size 95 [.int .i64 (p), .int .i64 q]:=heap_alloc_last W1 _;obtain⟨W2,hW2⟩:∃X,W1.alloc (.cells #[.int .i64 (p), .int .i64 q] 95)=X:=⟨_,rfl⟩;rw[hW2]at hB2 hA2;have hB:=hB1.trans (hB2.mono hB1.size);have K2:=K.kept hB;have mH:=hA1.kept hB2;have hcon:=mR T K2 (u-1) (by omega) (by omega);have htt:-1<=Lw.bx c.f (u-1)/\Lw.bx c.f (u-1)<=26:=by{unfold Lw.bx;omega};obtain⟨tt,JG⟩:=aF (Lw.bx c.f (u-1));rw[JG]at hcon htt HST;have c3:=bi hB1 d3;have k3:=bi hB d3;have k4:=bi hB d4;have c5:=bi hB1 d5;have c6:=bi hB1 Li;have c7:=bi hB1 cS2;have c8:=bi hB cH;have Az:=bi hB cE;have AB:=bi hB cO;have k2:=bi hB d2;have s0:=hA2.cell (j:=0) rfl;have s1:=hA2.cell (j:=1) rfl;have m0:=mH.cell (j:=0) rfl;have F0:FX c v vg v vg W W2:=FX.below hB;have hF2:=hF1.kept hB;have HQ:=ae (ak hp (ak hq (ak hbl (ak hu hty))));clear hH hE hS hO Te hF hF1 d2 d3 d4 d5 Li cS2 cH cE cO hbx0 hA1 hB1 hB2 K hu JG hp hq hbl;go_enter Tryz.func63,Tryz.ntmps63;go_wp2_with fail;refine hcon.mono ?_;rintro e w3⟨rfl,dz⟩;subst w3;dsimp only;clear hcon;rcases hk with rfl|rfl|rfl|rfl|rfl;{obtain⟨z,hz⟩:=aF (aM.aI c.E at');obtain⟨y,hy⟩:=aF (aM.aI c.O at');have abZ:0<=y->y<=80:=fun h0=>by{have f2:=T.acc.Lh.f2 at' (by rw[HQ.out.2.2.1];exact hat) (by rw[hy];exact h0);have f3:=T.acc.Lh.f3 at' (by rw[HQ.out.2.2.1];exact hat) (by omega);rw[HQ.out.2.2.1]at f3;omega};rw[hz]at Az;rw[hy]at AB;by_cases hy0:0<=y;{have hyb:=abZ hy0;replace HST:Hid (Lw.step c.fs c.f c.E c.O c.H at'=[(⟨4,tt,tt,0,0,[]⟩,-1),(⟨6,0,tt,0,0,[]⟩,y+1)]):=by{show _=_;rw[HST.out,←hy];show[_,(_,if 0<=aM.aI c.O at' then _ else _)]=_;rw[az (by rw[hy];exact hy0)]};clear abZ hz hy;clear c3 k3 c5 c6 c7 c8 k2 m0 mH hA2 hW1 hW2 hty hF2;go_wp2_with fail;refine(aU c W0 W2 v vg (out) P hW K2 ⟨4,tt,tt,0,0,[]⟩ none 0 0 (OI.nil _ _) (fun g e=>by cases e) (-1) (by omega)).mono ?_;rintro e X1⟨v1,mE,rfl,K1,F1⟩;dsimp only;clear s0 s1;have G1:=F0.trans F1;clear K2 F1 F0;go_wp2_with fail;refine(aU c W0 X1 v1 mE (out++[(⟨4,tt,tt,0,0,[]⟩,(-1))]) P hW K1 ⟨6,0,tt,0,0,[]⟩ none 0 0 (OI.nil _ _) (fun g e=>by cases e) (y+1) (by simp only[jw,Bb];omega)).mono ?_;rintro e X2⟨v2,Cg,rfl,K2,F2⟩;dsimp only;have G2:=G1.trans F2;clear K1 F2 G1;go_wp2;(try simp only[Exit.inBlock,Exit.then]);refine fw (fe rfl _ _ _) rfl ⟨v2,Cg,rfl,?_,G2⟩;rw[HST.out];refine MK.jB ?_ (fun g h=> .inl h);simpa[oI]using K2};replace HST:Hid (Lw.step c.fs c.f c.E c.O c.H at'=[(⟨4,tt,tt,0,0,[]⟩,-1),(⟨6,0,tt,0,0,[]⟩,z)]):=by{show _=_;rw[HST.out,←hz];show[_,(_,if 0<=aM.aI c.O at' then _ else _)]=_;rw[ax (by rw[hy];exact hy0)]};clear abZ hz hy;clear c3 k3 c5 c6 c7 c8 k2 m0 mH hA2 hW1 hW2 hty hF2;go_wp2_with fail;refine(aU c W0 W2 v vg (out) P hW K2 ⟨4,tt,tt,0,0,[]⟩ none 0 0 (OI.nil _ _) (fun g e=>by cases e) (-1) (by omega)).mono ?_;rintro e X1⟨v1,mE,rfl,K1,F1⟩;dsimp only;clear s0 s1;have G1:=F0.trans F1;clear K2 F1 F0;go_wp2_with fail;refine(aU c W0 X1 v1 mE (out++[(⟨4,tt,tt,0,0,[]⟩,(-1))]) P hW K1 ⟨6,0,tt,0,0,[]⟩ none 0 0 (OI.nil _ _) (fun g e=>by cases e) (z) (by simp only[jw,Bb];omega)).mono ?_;rintro e X2⟨v2,Cg,rfl,K2,F2⟩;dsimp only;have G2:=G1.trans F2;clear K1 F2 G1;go_wp2;(try simp only[Exit.inBlock,Exit.then]);refine fw (fe rfl _ _ _) rfl ⟨v2,Cg,rfl,?_,G2⟩;rw[HST.out];refine MK.jB ?_ (fun g h=> .inl h);simpa[oI]using K2};{obtain⟨z,hz⟩:=aF (aM.aI c.E at');rw[hz]at Az;replace HST:Hid (Lw.step c.fs c.f c.E c.O c.H at'=[(⟨5,0,0,0,0,[]⟩,z)]):=by{show _=_;rw[HST.out,←hz];rfl};clear hz;clear c3 k3 c5 c6 c7 c8 AB k2 m0 mH hA2 hW1 hW2 hty hF2;go_wp2_with fail;refine(aU c W0 W2 v vg (out) P hW K2 ⟨5,0,0,0,0,[]⟩ none 0 0 (OI.nil _ _) (fun g e=>by cases e) (z) (by omega)).mono ?_;rintro e X1⟨v1,mE,rfl,K1,F1⟩;dsimp only;clear s0 s1;have G1:=F0.trans F1;clear K2 F1 F0;go_wp2;(try simp only[Exit.inBlock,Exit.then]);refine fw (fe rfl _ _ _) rfl ⟨v1,mE,rfl,?_,G1⟩;rw[HST.out];refine MK.jB ?_ (fun g h=> .inl h);simpa[oI]using K1};{have hq9:0<=q/\q<=9:=by{have:=Lw.P9 T (at':=at') (by rw[HQ.out.2.2.1];exact hat) (by rw[HQ.out.1];omega);rw[HQ.out.2.1]at this;exact this};have hlow:=Lw.low (HQ.out.2.2.2.2.jump HQ.out.1);rw[HQ.out.2.1]at hlow;have hL:=mY T K2 at' (by rw[HQ.out.2.2.1];exact hat) q (by omega) (by omega) hlow;obtain⟨⟨l1,l2,l3⟩,hl⟩:∃l,Lw.fG c.f c.E c.H at' q=l:=⟨_,rfl⟩;rw[hl]at hL;replace HST:Hid (Lw.step c.fs c.f c.E c.O c.H at'=(if l3=1/\l2≠tt then[(⟨2,l2,tt,0,0,[]⟩,-1)]else[])++[(⟨5,0,0,0,0,[]⟩,l1)]):=by{show _=_;rw[HST.out];show(((if(Lw.fG c.f c.E c.H at' q).2.2=1/\(Lw.fG c.f c.E c.H at' q).2.1≠tt then[(⟨2,(Lw.fG c.f c.E c.H at' q).2.1,tt,0,0,[]⟩,-1)]else[])++[(⟨5,0,0,0,0,[]⟩,(Lw.fG c.f c.E c.H at' q).1)]):List (Ln×Int))=_;rw[hl]};clear c3 k3 k4 c5 c6 c7 c8 Az AB k2 m0 mH hA2 hW1 hW2 hty hF2;clear hl hlow;go_wp2_with fail;refine hL.mono ?_;rintro e X0⟨rfl,hBL⟩;dsimp only;have K0:=K2.kept hBL;have Ch:=F0.trans (FX.below (c:=c) (v:=v) (vg:=vg) hBL);clear hL K2 F0 hBL s0 s1;by_cases h3:l3=1;{subst h3;by_cases h2:l2=tt;{replace HST:Hid (Lw.step c.fs c.f c.E c.O c.H at'=[(⟨5,0,0,0,0,[]⟩,l1)]):=by{show _=_;rw[HST.out,ax (fun h=>h.2 h2)];rfl};subst h2;go_wp2_with fail;refine(aU c W0 X0 v vg (out) P hW K0 ⟨5,0,0,0,0,[]⟩ none 0 0 (OI.nil _ _) (fun g e=>by cases e) (l1) (by omega)).mono ?_;rintro e X1⟨v1,mE,rfl,K1,F1⟩;dsimp only;have G1:=Ch.trans F1;clear K0 F1 Ch;go_wp2;(try simp only[Exit.inBlock,Exit.then]);refine fw (fe rfl _ _ _) rfl ⟨v1,mE,rfl,?_,G1⟩;rw[HST.out];refine MK.jB ?_ (fun g h=> .inl h);simpa[oI]using K1};replace HST:Hid (Lw.step c.fs c.f c.E c.O c.H at'=[(⟨2,l2,tt,0,0,[]⟩,-1),(⟨5,0,0,0,0,[]⟩,l1)]):=by{show _=_;rw[HST.out,az ⟨rfl,h2⟩];rfl};go_wp2_with fail;refine(aU c W0 X0 v vg (out) P hW K0 ⟨2,l2,tt,0,0,[]⟩ none 0 0 (OI.nil _ _) (fun g e=>by cases e) (-1) (by omega)).mono ?_;rintro e X1⟨v1,mE,rfl,K1,F1⟩;dsimp only;have G1:=Ch.trans F1;clear K0 F1 Ch;go_wp2_with fail;refine(aU c W0 X1 v1 mE (out++[(⟨2,l2,tt,0,0,[]⟩,(-1))]) P hW K1 ⟨5,0,0,0,0,[]⟩ none 0 0 (OI.nil _ _) (fun g e=>by cases e) (l1) (by simp only[jw,Bb];omega)).mono ?_;rintro e X2⟨v2,Cg,rfl,K2,F2⟩;dsimp only;have G2:=G1.trans F2;clear K1 F2 G1;go_wp2;(try simp only[Exit.inBlock,Exit.then]);refine fw (fe rfl _ _ _) rfl ⟨v2,Cg,rfl,?_,G2⟩;rw[HST.out];refine MK.jB ?_ (fun g h=> .inl h);simpa[oI]using K2};replace HST:Hid (Lw.step c.fs c.f c.E c.O c.H at'=[(⟨5,0,0,0,0,[]⟩,l1)]):=by{show _=_;rw[HST.out,ax (fun h=>h3 h.1)];rfl};have h3e:(l3==1)=false:=by{simpa using h3};go_wp2_with fail;refine(aU c W0 X0 v vg (out) P hW K0 ⟨5,0,0,0,0,[]⟩ none 0 0 (OI.nil _ _) (fun g e=>by cases e) (l1) (by omega)).mono ?_;rintro e X1⟨v1,mE,rfl,K1,F1⟩;dsimp only;have G1:=Ch.trans F1;clear K0 F1 Ch;go_wp2;(try simp only[Exit.inBlock,Exit.then]);refine fw (fe rfl _ _ _) rfl ⟨v1,mE,rfl,?_,G1⟩;rw[HST.out];refine MK.jB ?_ (fun g h=> .inl h);simpa[oI]using K1};{have hlow:∀t:Nat,(99:Int).toNat<(aM.dG c.f.b c.E at' at').length->(aM.dG c.f.b c.E at' at').getD (99:Int).toNat (-1)=(t:Int)->0<=c.H.getD t 0:=fun t h=>by{have:=aM.wH c.f.b c.E at' at';have e:(99:Int).toNat=99:=rfl;omega};have hL:=mY T K2 at' (by rw[HQ.out.2.2.1];exact hat) 99 (by omega) (by omega) hlow;obtain⟨⟨l1,l2,l3⟩,hl⟩:∃l,Lw.fG c.f c.E c.H at' 99=l:=⟨_,rfl⟩;rw[hl]at hL;replace HST:Hid (Lw.step c.fs c.f c.E c.O c.H at'=(if l3=1/\l2≠tt then[(⟨2,l2,tt,0,0,[]⟩,-1)]else[])++[(⟨5,0,0,0,0,[]⟩,l1)]):=by{show _=_;rw[HST.out];show(((if(Lw.fG c.f c.E c.H at' 99).2.2=1/\(Lw.fG c.f c.E c.H at' 99).2.1≠tt then[(⟨2,(Lw.fG c.f c.E c.H at' 99).2.1,tt,0,0,[]⟩,-1)]else[])++[(⟨5,0,0,0,0,[]⟩,(Lw.fG c.f c.E c.H at' 99).1)]):List (Ln×Int))=_;rw[hl]};clear c3 k3 k4 c5 c6 c7 c8 Az AB k2 m0 mH hA2 hW1 hW2 hty hF2;clear hl hlow;go_wp2_with fail;refine hL.mono ?_;rintro e X0⟨rfl,hBL⟩;dsimp only;have K0:=K2.kept hBL;have Ch:=F0.trans (FX.below (c:=c) (v:=v) (vg:=vg) hBL);clear hL K2 F0 hBL s0 s1;by_cases h3:l3=1;{subst h3;by_cases h2:l2=tt;{replace HST:Hid (Lw.step c.fs c.f c.E c.O c.H at'=[(⟨5,0,0,0,0,[]⟩,l1)]):=by{show _=_;rw[HST.out,ax (fun h=>h.2 h2)];rfl};subst h2;go_wp2_with fail;refine(aU c W0 X0 v vg (out) P hW K0 ⟨5,0,0,0,0,[]⟩ none 0 0 (OI.nil _ _) (fun g e=>by cases e) (l1) (by omega)).mono ?_;rintro e X1⟨v1,mE,rfl,K1,F1⟩;dsimp only;have G1:=Ch.trans F1;clear K0 F1 Ch;go_wp2;(try simp only[Exit.inBlock,Exit.then]);refine fw (fe rfl _ _ _) rfl ⟨v1,mE,rfl,?_,G1⟩;rw[HST.out];refine MK.jB ?_ (fun g h=> .inl h);simpa[oI]using K1};replace HST:Hid (Lw.step c.fs c.f c.E c.O c.H at'=[(⟨2,l2,tt,0,0,[]⟩,-1),(⟨5,0,0,0,0,[]⟩,l1)]):=by{show _=_;rw[HST.out,az ⟨rfl,h2⟩];rfl};go_wp2_with fail;refine(aU c W0 X0 v vg (out) P hW K0 ⟨2,l2,tt,0,0,[]⟩ none 0 0 (OI.nil _ _) (fun g e=>by cases e) (-1) (by omega)).mono ?_;rintro e X1⟨v1,mE,rfl,K1,F1⟩;dsimp only;have G1:=Ch.trans F1;clear K0 F1 Ch;go_wp2_with fail;refine(aU c W0 X1 v1 mE (out++[(⟨2,l2,tt,0,0,[]⟩,(-1))]) P hW K1 ⟨5,0,0,0,0,[]⟩ none 0 0 (OI.nil _ _) (fun g e=>by cases e) (l1) (by simp only[jw,Bb];omega)).mono ?_;rintro e X2⟨v2,Cg,rfl,K2,F2⟩;dsimp only;have G2:=G1.trans F2;clear K1 F2 G1;go_wp2;(try simp only[Exit.inBlock,Exit.then]);refine fw (fe rfl _ _ _) rfl ⟨v2,Cg,rfl,?_,G2⟩;rw[HST.out];refine MK.jB ?_ (fun g h=> .inl h);simpa[oI]using K2};replace HST:Hid (Lw.step c.fs c.f c.E c.O c.H at'=[(⟨5,0,0,0,0,[]⟩,l1)]):=by{show _=_;rw[HST.out,ax (fun h=>h3 h.1)];rfl};have h3e:(l3==1)=false:=by{simpa using h3};go_wp2_with fail;refine(aU c W0 X0 v vg (out) P hW K0 ⟨5,0,0,0,0,[]⟩ none 0 0 (OI.nil _ _) (fun g e=>by cases e) (l1) (by omega)).mono ?_;rintro e X1⟨v1,mE,rfl,K1,F1⟩;dsimp only;have G1:=Ch.trans F1;clear K0 F1 Ch;go_wp2;(try simp only[Exit.inBlock,Exit.then]);refine fw (fe rfl _ _ _) rfl ⟨v1,mE,rfl,?_,G1⟩;rw[HST.out];refine MK.jB ?_ (fun g h=> .inl h);simpa[oI]using K1};have hq9:0<=q/\q<=9:=by{have:=Lw.P9 T (at':=at') (by rw[HQ.out.2.2.1];exact hat) (by rw[HQ.out.1];omega);rw[HQ.out.2.1]at this;exact this};have hlow:=Lw.low (HQ.out.2.2.2.2.jif HQ.out.1);rw[HQ.out.2.1]at hlow;have hL:=mY T K2 at' (by rw[HQ.out.2.2.1];exact hat) q (by omega) (by omega) hlow;obtain⟨⟨l1,l2,l3⟩,hl⟩:∃l,Lw.fG c.f c.E c.H at' q=l:=⟨_,rfl⟩;rw[hl]at hL;replace HST:Hid (Lw.step c.fs c.f c.E c.O c.H at'=if l3=1/\l2≠tt-1 then[(⟨4,tt,tt,0,0,[]⟩,-1),(⟨6,0,tt,0,0,[]⟩,(at':Int)+1),(⟨2,l2,tt-1,0,0,[]⟩,-1),(⟨5,0,0,0,0,[]⟩,l1)]else[(⟨6,0,tt,0,0,[]⟩,l1)]):=by{show _=_;rw[HST.out];show((if(Lw.fG c.f c.E c.H at' q).2.2=1/\(Lw.fG c.f c.E c.H at' q).2.1≠tt-1 then[(⟨4,tt,tt,0,0,[]⟩,-1),(⟨6,0,tt,0,0,[]⟩,(at':Int)+1),(⟨2,(Lw.fG c.f c.E c.H at' q).2.1,tt-1,0,0,[]⟩,-1),(⟨5,0,0,0,0,[]⟩,(Lw.fG c.f c.E c.H at' q).1)]else[(⟨6,0,tt,0,0,[]⟩,(Lw.fG c.f c.E c.H at' q).1)]):List (Ln×Int))=_;rw[hl]};clear c3 k3 k4 c5 c6 c7 c8 Az AB k2 m0 mH hA2 hW1 hW2 hty hF2;clear hl hlow;go_wp2_with fail;refine hL.mono ?_;rintro e X0⟨rfl,hBL⟩;dsimp only;have K0:=K2.kept hBL;have Ch:=F0.trans (FX.below (c:=c) (v:=v) (vg:=vg) hBL);clear hL K2 F0 hBL s0 s1;by_cases h3:l3=1;{subst h3;by_cases h2:l2=tt-1;{replace HST:Hid (Lw.step c.fs c.f c.E c.O c.H at'=[(⟨6,0,tt,0,0,[]⟩,l1)]):=by{show _=_;rw[HST.out,ax (fun h=>h.2 h2)]};subst h2;go_wp2_with fail;refine(aU c W0 X0 v vg (out) P hW K0 ⟨6,0,tt,0,0,[]⟩ none 0 0 (OI.nil _ _) (fun g e=>by cases e) (l1) (by omega)).mono ?_;rintro e X1⟨v1,mE,rfl,K1,F1⟩;dsimp only;have G1:=Ch.trans F1;clear K0 F1 Ch;go_wp2;(try simp only[Exit.inBlock,Exit.then]);refine fw (fe rfl _ _ _) rfl ⟨v1,mE,rfl,?_,G1⟩;rw[HST.out];refine MK.jB ?_ (fun g h=> .inl h);simpa[oI]using K1};replace HST:Hid (Lw.step c.fs c.f c.E c.O c.H at'=[(⟨4,tt,tt,0,0,[]⟩,-1),(⟨6,0,tt,0,0,[]⟩,(at':Int)+1),(⟨2,l2,tt-1,0,0,[]⟩,-1),(⟨5,0,0,0,0,[]⟩,l1)]):=by{show _=_;rw[HST.out,az ⟨rfl,h2⟩]};go_wp2_with fail;refine(aU c W0 X0 v vg (out) P hW K0 ⟨4,tt,tt,0,0,[]⟩ none 0 0 (OI.nil _ _) (fun g e=>by cases e) (-1) (by omega)).mono ?_;rintro e X1⟨v1,mE,rfl,K1,F1⟩;dsimp only;have G1:=Ch.trans F1;clear K0 F1 Ch;go_wp2_with fail;refine(aU c W0 X1 v1 mE (out++[(⟨4,tt,tt,0,0,[]⟩,(-1))]) P hW K1 ⟨6,0,tt,0,0,[]⟩ none 0 0 (OI.nil _ _) (fun g e=>by cases e) ((at':Int)+1) (by simp only[jw,Bb];omega)).mono ?_;rintro e X2⟨v2,Cg,rfl,K2,F2⟩;dsimp only;have G2:=G1.trans F2;clear K1 F2 G1;go_wp2_with fail;refine(aU c W0 X2 v2 Cg (out++[(⟨4,tt,tt,0,0,[]⟩,(-1))]++[(⟨6,0,tt,0,0,[]⟩,((at':Int)+1))]) P hW K2 ⟨2,l2,tt-1,0,0,[]⟩ none 0 0 (OI.nil _ _) (fun g e=>by cases e) (-1) (by simp only[jw,Bb];omega)).mono ?_;rintro e X3⟨v3,vg3,rfl,K3,F3⟩;dsimp only;have G3:=G2.trans F3;clear K2 F3 G2;go_wp2_with fail;refine(aU c W0 X3 v3 vg3 (out++[(⟨4,tt,tt,0,0,[]⟩,(-1))]++[(⟨6,0,tt,0,0,[]⟩,((at':Int)+1))]++[(⟨2,l2,tt-1,0,0,[]⟩,(-1))]) P hW K3 ⟨5,0,0,0,0,[]⟩ none 0 0 (OI.nil _ _) (fun g e=>by cases e) (l1) (by simp only[jw,Bb];omega)).mono ?_;rintro e X4⟨v4,vg4,rfl,K4,F4⟩;dsimp only;have G4:=G3.trans F4;clear K3 F4 G3;go_wp2;(try simp only[Exit.inBlock,Exit.then]);refine ib (fe rfl _ _ _) rfl ⟨v4,vg4,rfl,?_,G4⟩;rw[HST.out];refine MK.jB ?_ (fun g h=> .inl h);simpa[oI]using K4};replace HST:Hid (Lw.step c.fs c.f c.E c.O c.H at'=[(⟨6,0,tt,0,0,[]⟩,l1)]):=by{show _=_;rw[HST.out,ax (fun h=>h3 h.1)]};have h3e:(l3==1)=false:=by{simpa using h3};go_wp2_with fail;refine(aU c W0 X0 v vg (out) P hW K0 ⟨6,0,tt,0,0,[]⟩ none 0 0 (OI.nil _ _) (fun g e=>by cases e) (l1) (by omega)).mono ?_;rintro e X1⟨v1,mE,rfl,K1,F1⟩;dsimp only;have G1:=Ch.trans F1;clear K0 F1 Ch;go_wp2;(try simp only[Exit.inBlock,Exit.then]);refine fw (fe rfl _ _ _) rfl ⟨v1,mE,rfl,?_,G1⟩;rw[HST.out];refine MK.jB ?_ (fun g h=> .inl h);simpa[oI]using K1
theorem Lw.Qn{c:LX}(T:TX c W0)(hat:at'<c.f.b.length)(h:aM.op c.f.b at'=16):0<=Hg.arg c.f.b at':=by have hok:St.ok (aM.op c.f.b at') (Hg.arg c.f.b at')=true:=St.aZ T.all hat;simp only[St.ok,au,Wd.aX]at hok;have h1:St.least (aM.op c.f.b at')=0:=by{rw[h];rfl};omega
def Lw.kN (t n:Int)(k:Nat):List Int:=(List.range k).map fun(i:Nat)=>t-n+1+(i:Int)
theorem Lw.Ie (t n:Int)(k:Nat):Lw.kN t n (k+1)=Lw.kN t n k++[t-n+1+(k:Int)]:=by unfold Lw.kN;rw[List.range_succ,oU];rfl
theorem Z9{a:Option Addr}(h:FL W a n fs)(hk:k<n):∃b off,a=some ⟨b,off,none⟩/\b<W.heap.size/\∃ba bl bc,W.cell? ⟨b,off+k*4,none⟩=some (.int .i64 (fs.getD k .z).a)/\W.cell? ⟨b,off+k*4+1,none⟩=some (.int .i64 (fs.getD k .z).l)/\W.cell? ⟨b,off+k*4+2,none⟩=some (.int .i64 (fs.getD k .z).g)/\W.cell? ⟨b,off+k*4+3,none⟩=some (.slice ba bl bc):=by obtain⟨hl,hm,h0|⟨b,off,e,hb,hx⟩⟩:=h;{omega};obtain⟨x0,x1,x2,ba,bl,bc,x3,-⟩:=hx k hk;exact⟨b,off,e,hb,ba,bl,bc,x0,x1,x2,x3⟩
theorem afh{c:LX}{out:List (Ln×Int)}(T:TX c W0)(K:MK c W0 W v vg out P)(fa:Option Addr)(fl fc:Nat)(d:ByteArray)(oa:Option Addr)(oc:Nat)(hF:FL W0 fa fl c.fs)(hO:IL W0 oa c.f.b.length c.O)(at':Nat)(hat:at'<c.f.b.length)(hr:0<=c.H.getD at' 0)(hlen:out.length<=900)(p:Int)(hp:aM.op c.f.b at'=p)(hk:Hid (p=16)):Calls Tryz.prog 63 #[.pointer (some ⟨c.B,0,none⟩), .agg #[.slice fa fl fc, .string d], .slice oa c.f.b.length oc, .int .i64 at'] W fun e w'=>∃v' qE,e= .returned (.tuple #[])/\MK c W0 w' v' qE (out++Lw.step c.fs c.f c.E c.O c.H at') (fun g=>P g\/W.heap.size<=g)/\FX c v vg v' qE W w':=by
 have hty:=T.acc.typ at' hat hr
 obtain⟨hH,hE,hS⟩:=T.il K
 have Te:=hO.kept K.fM
 have hF1:=hF.kept K.fM
 have hLen:=T.ok.2.2.2.2.2
 have htop:=T.acc.dO at' hat
 have hW:=T.lt
 have hwd:0<=Lw.wd c.f/\Lw.wd c.f<=6:=by have:=T.ok;unfold Lw.wd;omega
 have HST:Hid (Lw.step c.fs c.f c.E c.O c.H at'=Lw.uX c.fs c.f c.E c.O c.H at' p (Hg.arg c.f.b at') (Lw.bx c.f (c.H.getD at' 0-1))):=by show _=_;unfold Lw.step;rw[hp]
 have hbx0:=K.box
 unfold LX.dS at hbx0
 obtain⟨bl,hbl⟩:∃n,c.f.b.length=n:=⟨_,rfl⟩
 rw[hbl]at hH hE hS Te hLen hat hbx0 ⊢
 have ny:(at':Int)<(bl:Int):=by omega
 have cS:∃b o,c.ba=some ⟨b,o,none⟩/\b<W.heap.size/\W.cell? ⟨b,o+at'*2,none⟩=some (.int .i64 (aM.op c.f.b at'))/\W.cell? ⟨b,o+at'*2+1,none⟩=some (.int .i64 (Hg.arg c.f.b at')):=by obtain⟨hl,-,h3|⟨b,o,e,hb,hh⟩⟩:=hS;{omega};exact⟨b,o,e,hb,(hh at' hat).1,(hh at' hat).2⟩
 obtain⟨sb,so,es,lS,Li,cS2⟩:=cS
 have cH:∃b o,c.ha=some ⟨b,o,none⟩/\b<W.heap.size/\W.cell? ⟨b,o+at',none⟩=some (.int .i64 (c.H.getD at' 0)):=by obtain⟨hl,-,h3|⟨b,o,e,hb,hh⟩⟩:=hH;{omega};exact⟨b,o,e,hb,hh at' hat⟩
 obtain⟨hb',ho',eh,lH,cH⟩:=cH
 have cE:∃b o,c.ea=some ⟨b,o,none⟩/\b<W.heap.size/\W.cell? ⟨b,o+at',none⟩=some (.int .i64 (aM.aI c.E at')):=by obtain⟨hl,-,h3|⟨b,o,e,hb,hh⟩⟩:=hE;{omega};refine⟨b,o,e,hb,?_⟩;rw[hh at' hat];unfold aM.aI;rw[ah,ah,ai (by omega)];rfl
 obtain⟨eb,eo,ee,lE,cE⟩:=cE
 have cO:∃b o,oa=some ⟨b,o,none⟩/\b<W.heap.size/\W.cell? ⟨b,o+at',none⟩=some (.int .i64 (aM.aI c.O at')):=by obtain⟨hl,-,h3|⟨b,o,e,hb,hh⟩⟩:=Te;{omega};refine⟨b,o,e,hb,?_⟩;rw[hh at' hat];unfold aM.aI;rw[ah,ah,ai (by omega)];rfl
 obtain⟨ob,oo,rfl,lO,cO⟩:=cO
 rw[hp]at Li
 obtain⟨q,hq⟩:=aF (Hg.arg c.f.b at')
 obtain⟨u,hu⟩:=aF (c.H.getD at' 0)
 rw[hq]at cS2 HST
 rw[hu]at cH htop hr HST
 have d2:=(hbx0.2 2 _ rfl).1
 have d3:=(hbx0.2 3 _ rfl).1
 have d4:=(hbx0.2 4 _ rfl).1
 have d5:=(hbx0.2 5 _ rfl).1
 have Tc:=hbx0.1
 rw[eh]at d3
 rw[ee]at d4
 rw[es]at d5
 have hB1:=aB W (.cells #[.slice fa fl fc, .string d] 26)
 have hA1:dC (W.alloc (.cells #[.slice fa fl fc, .string d] 26)) W.heap.size 26 [.slice fa fl fc, .string d]:=heap_alloc_last W _
 obtain⟨W1,hW1⟩:∃X,W.alloc (.cells #[.slice fa fl fc, .string d] 26)=X:=⟨_,rfl⟩
 rw[hW1]at hB1 hA1
 have hB2:=aB W1 (.cells #[.int .i64 (p), .int .i64 q] 95)
 have hA2:dC (W1.alloc (.cells #[.int .i64 (p), .int .i64 q] 95)) W1.heap.size 95 [.int .i64 (p), .int .i64 q]:=heap_alloc_last W1 _
 obtain⟨W2,hW2⟩:∃X,W1.alloc (.cells #[.int .i64 (p), .int .i64 q] 95)=X:=⟨_,rfl⟩
 rw[hW2]at hB2 hA2
 have hB:=hB1.trans (hB2.mono hB1.size)
 have K2:=K.kept hB
 have mH:=hA1.kept hB2
 have hcon:=mR T K2 (u-1) (by omega) (by omega)
 have htt:-1<=Lw.bx c.f (u-1)/\Lw.bx c.f (u-1)<=26:=by unfold Lw.bx;omega
 obtain⟨tt,JG⟩:=aF (Lw.bx c.f (u-1))
 rw[JG]at hcon htt HST
 have c3:=bi hB1 d3
 have k3:=bi hB d3
 have k4:=bi hB d4
 have c5:=bi hB1 d5
 have c6:=bi hB1 Li
 have c7:=bi hB1 cS2
 have c8:=bi hB cH
 have Az:=bi hB cE
 have AB:=bi hB cO
 have k2:=bi hB d2
 have s0:=hA2.cell (j:=0) rfl
 have s1:=hA2.cell (j:=1) rfl
 have m0:=mH.cell (j:=0) rfl
 have F0:FX c v vg v vg W W2:=FX.below hB
 have hF2:=hF1.kept hB
 have HQ:=ae (ak hp (ak hq (ak hbl (ak hu hty))))
 clear hH hE hS hO Te hF hF1 d2 d3 d4 d5 Li cS2 cH cE cO hbx0 hA1 hB1 hB2 K hu JG hp hq hbl
 go_enter Tryz.func63,Tryz.ntmps63
 go_wp2_with fail
 refine hcon.mono ?_
 rintro e w3⟨rfl,dz⟩
 subst w3
 dsimp only
 clear hcon
 obtain rfl:=hk.out
 have hq0:0<=q:=by have:=Lw.Qn T (at':=at') (by rw[HQ.out.2.2.1];exact hat) HQ.out.1;rw[HQ.out.2.1]at this;exact this
 have hq1:q<c.fs.length:=by have:=HQ.out.2.2.2.2.call HQ.out.1;rw[HQ.out.2.1]at this;exact this
 have hfl:c.fs.length=fl:=hF2.1
 obtain⟨qn,rfl⟩:=BQ hq0
 have hqn:qn<fl:=by omega
 have hqZ:(qn:Int)<(fl:Int):=by omega
 obtain⟨fb,fo,rfl,lF,gba,gbl,gbc,y0,y1,y2,y3⟩:=Z9 hF2 hqn
 have Tf:=Mn.iT T.val (k:=qn) (by omega)
 have Ym:fl<=4:=by have:=T.val.len.2;omega
 unfold Mn.fn at Tf
 obtain⟨G,hG⟩:=aF (c.fs.getD qn .z)
 rw[hG]at Tf y0 y1 y2
 replace HST:Hid (Lw.step c.fs c.f c.E c.O c.H at'=[(⟨7,if G.g=1 then tt-G.a+1 else Lw.wd c.f+20,0,0,qn,Lw.args tt G.a⟩,-1)]):=by show _=_;rw[HST.out];show[((⟨7,if(c.fs.getD (qn:Int).toNat .z).g=1 then _ else _,0,0,_,Lw.args tt (c.fs.getD (qn:Int).toNat .z).a⟩:Ln),(-1:Int))]=_;rw[aA,hG]
 obtain⟨ga,hga⟩:∃ga:Nat,G.a=(ga:Int):=BQ Tf.1
 have aqD:ga<=3:=by omega
 obtain⟨gg,hgg⟩:=aF (G.g)
 have Lj:gg=0\/gg=1:=by rw[←hgg];exact Tf.2.2.2.2.1
 obtain⟨gl,hgl⟩:=aF (G.l)
 have HAR:Hid (Lw.args tt G.a=Lw.kN tt ga ga):=by show _=_;rw[hga];rfl
 rw[hga]at y0 HST HAR
 rw[hgg]at y2 HST
 rw[hgl]at y1
 obtain⟨wd0,ahn⟩:=aF (Lw.wd c.f)
 rw[ahn]at k2 hwd HST
 have hBG:=aB W2 (.cells #[.int .i64 (ga:Int), .int .i64 gl, .int .i64 gg, .slice gba gbl gbc] 93)
 have hAG:dC (W2.alloc (.cells #[.int .i64 (ga:Int), .int .i64 gl, .int .i64 gg, .slice gba gbl gbc] 93)) W2.heap.size 93 [.int .i64 (ga:Int), .int .i64 gl, .int .i64 gg, .slice gba gbl gbc]:=heap_alloc_last W2 _
 obtain⟨W3,hW3⟩:∃X,W2.alloc (.cells #[.int .i64 (ga:Int), .int .i64 gl, .int .i64 gg, .slice gba gbl gbc] 93)=X:=⟨_,rfl⟩
 rw[hW3]at hBG hAG
 have j2:=bi hBG k2
 have t1:=bi hBG s1
 have hlB:c.B<W3.heap.size:=aj K2.sz hBG.size
 have hlS:=(hA2.kept hBG).lt
 have HKK:=ae (ak (K2.kept hBG) (ak (F0.trans (FX.below (c:=c) (v:=v) (vg:=vg) hBG)) hAG))
 clear c3 k3 k4 c5 c6 c7 c8 Az AB mH hW1 hW2 hty hF2 hG hga hgg hgl ahn Tf hfl K2 F0 hB hA2
 go_wp2
 go_region
 all_goals
  clear j2 t1 y0 y1 y2 y3 k2 s0 s1 m0
  have ab0:=aB W3 (.cells #[.int .i64 7, .int .i64 (wd0+20), .int .i64 0, .int .i64 0, .int .i64 qn, .slice none 0 0] 109)
  have hBL:=ab0.trans ((dZ _ _).drew.mono ab0.size)
  have hAL:dC (W3.alloc (.cells #[.int .i64 7, .int .i64 (wd0+20), .int .i64 0, .int .i64 0, .int .i64 qn, .slice none 0 0] 109)).drew W3.heap.size 109 [.int .i64 7, .int .i64 (wd0+20), .int .i64 0, .int .i64 0, .int .i64 qn, .slice none 0 0]:=heap_alloc_last W3 _
  obtain⟨i0,hi,hz0,hz1,hz2⟩:=lW bQ
  have HS:=ae (ak hAL hBL)
  clear ab0 hAL hBL hW3
  go_wp2
  go_loopw [20] (fun vi wr=>∃(k:Nat)(lv:Value),vi= .int .i64 k/\k<=ga/\dC wr W3.heap.size 109 [.int .i64 7, .int .i64 (wd0+20), .int .i64 0, .int .i64 0, .int .i64 qn,lv]/\OI wr (W3.heap.size+1) lv (Lw.kN tt ga k)/\Below W3.heap.size W3 wr) (fun i _=>ga-(intOf i).toNat)
  case atStart=>exact⟨0,_,rfl,jP _,HS.out.1,OI.nil _ _,HS.out.2⟩
  case round=>
   obtain⟨k,lv,rfl,hk,hAr,hol,hBr⟩:=hrel
   clear HS
   have hG9:=HKK.out.2.2.kept hBr
   have g0:=hG9.cell (j:=0) rfl
   have g2:=hG9.cell (j:=2) rfl
   have hll:(Lw.kN tt ga k).length=k:=by unfold Lw.kN;simp
   have OA:wr.ownsRow (W3.heap.size+1) 2 1 lv k ((Lw.kN tt ga k).map iv):=by unfold OI at hol;rwa [hll]at hol
   obtain⟨la,lc,rfl⟩:=bK OA
   have OB:∀g,(Value.slice la k lc).ownBlock=some g->W3.heap.size+1<=g:=fun g hg=>(dJ OA hg).1
   have a5:=hAr.cell (j:=5) rfl
   have al:=hAr.lt
   by_cases hlt:k<ga
   · have gu:(k:Int)<(ga:Int):=by{omega};obtain⟨y,hy⟩:=aF (tt-(ga:Int)+1+(k:Int));have HY:=ae hy;clear hy;have vk:=aB wr (.cells #[.int .i64 (tt-(ga:Int)+1+(k:Int))] 2);have HO:=ae (aN OA vk);have HA:=ae (hAr.kept vk);have HBr:=ae (hBr.trans (vk.mono hBr.size));have Yn:=hBr.size;clear vk hol OA hAr hBr hG9 hll;go_wp2_with(at_builtin;refine mW _ rfl _ _ 27 rfl (W3.heap.size+1) 2 i0 (.int .i64 0) 1 8 Tryz.underlying27 hi hz0 hz1 hz2 rfl (by decide) (.slice la k lc) k _ rfl HO.out ⟨wr.heap.size,0,none⟩ 1 1 [.int .i64 (tt-(ga:Int)+1+(k:Int))] rfl rfl (cell_one_new _ _ _) (by simp[Value.oneCell']) (by simp only[maxLen];omega) (by omega) (by simp;omega) ?_;intro v2 wB hown2 hgrow2 _;obtain⟨g2',cap2,rfl⟩:=qx hown2;have hA3:=HA.out.dU hgrow2 (fun e=>by have:=OB W3.heap.size e.symm;omega);have b5:=hA3.cell (j:=5) rfl;have f5:=hA3.frozen 5;have l5:=hA3.lt;have pI:=ae (ak hown2 (ak hgrow2 hA3));clear hown2 hgrow2 hA3);go_roundw;(case rel=>obtain⟨o1,o2,o3⟩:=pI.out;have gs:=aC wB ⟨W3.heap.size,5,none⟩ (.slice (some ⟨g2',0,none⟩) (k+1) cap2);refine⟨k+1,_,by simp,hlt,o3.set 5 _,?_,?_⟩;{show World.ownsRow _ _ _ _ _ _ _;rw[Lw.Ie,oU,jw,Bb,show(Lw.kN tt ga k).length=k by unfold Lw.kN;simp];exact ek o1 gs (fun g e=>by have:=(dJ o1 e).1;simp only[ne_eq,af];omega)};exact eZ (eZ HBr.out o2 (fun g e=>by have:=OB g e;omega)) gs (fun g e=>by cases e;exact bG _));case measure=>simp[intOf];omega
   · have hke:k=ga:=by omega
     subst hke
     have gu:¬(k:Int)<(k:Int):=by omega
     have HX:=ae (ak (HKK.out.1.kept hBr) (HKK.out.2.1.trans (FX.below (c:=c) (v:=v) (vg:=vg) hBr)))
     have HBr:=ae hBr
     have HOl:=ae OA
     have HAr:=ae hAr
     have a0:=hAr.cell (j:=0) rfl
     have a1:=hAr.cell (j:=1) rfl
     have a2:=hAr.cell (j:=2) rfl
     have a3:=hAr.cell (j:=3) rfl
     have a4:=hAr.cell (j:=4) rfl
     have q1:=hAr.frozen 1
     have hKs:=HKK.out.1.JF
     have aho:∀g,vg.ownBlock=some g->g<W3.heap.size:=fun g e=>(dJ hKs e).2
     have hB3:c.B+1<=W3.heap.size:=HKK.out.1.sz
     have hWW:=HKK.out.2.1.size
     clear hol OA hAr hBr hG9 hKs
     rcases Lj with rfl|rfl
     · have hadd:=aU c W0 wr v vg out (fun g=>P g\/W.heap.size<=g) hW (HX.out.1.jB (fun g h=> .inl h)) ⟨7,wd0+20,0,0,qn,Lw.kN tt k k⟩ la k lc (by
        show World.ownsRow _ _ _ _ _ _ _
        rw[hll]
        refine⟨HOl.out.1,?_⟩
        rcases HOl.out.2 with h'|⟨g',cap',cur,h',hb,r⟩
        · exact .inl h'
        · exact .inr ⟨g',cap',cur,h',by omega,r⟩) (fun g e=>⟨fun e2=>by have:=OB g e;have:=aho g e2;omega, .inr (by have:=OB g e;omega)⟩) (-1) (by omega)
       go_wp2_with fail
       refine hadd.mono ?_
       rintro e X1⟨v1,mE,rfl,K1,F1⟩
       dsimp only
       have G1:=HX.out.2.trans F1
       clear hadd a0 a1 a2 a3 a4 a5 g0 g2
       go_wp2
       (try simp only[Exit.inBlock,Exit.then])
       refine fw (fe rfl _ _ _) rfl ⟨v1,mE,rfl,?_,G1⟩
       rw[HST.out,HAR.out]
       exact K1
     · have gs:=aC wr ⟨W3.heap.size,1,none⟩ (.int .i64 (tt-(k:Int)+1))
       have hAs:=HAr.out.set 1 (.int .i64 (tt-(k:Int)+1))
       have hBs:=eZ HBr.out gs (fun g e=>by cases e;exact bG _)
       have hos:=ek HOl.out gs (fun g e=>by have:=(dJ HOl.out e).1;simp only[ne_eq,af];omega)
       obtain⟨ws,hws⟩:=aF (wr.setCell ⟨W3.heap.size,1,none⟩ (.int .i64 (tt-(k:Int)+1)))
       rw[hws]at hAs hBs hos
       have b0:=hAs.cell (j:=0) rfl
       have b1:=hAs.cell (j:=1) rfl
       have b2:=hAs.cell (j:=2) rfl
       have b3:=hAs.cell (j:=3) rfl
       have b4:=hAs.cell (j:=4) rfl
       have b5:=hAs.cell (j:=5) rfl
       have hKx:=HKK.out.1.kept hBs
       have Be:=HKK.out.2.1.trans (FX.below (c:=c) (v:=v) (vg:=vg) hBs)
       have hadd:=aU c W0 ws v vg out (fun g=>P g\/W.heap.size<=g) hW (hKx.jB (fun g h=> .inl h)) ⟨7,tt-(k:Int)+1,0,0,qn,Lw.kN tt k k⟩ la k lc (by
        show World.ownsRow _ _ _ _ _ _ _
        rw[hll]
        refine⟨hos.1,?_⟩
        rcases hos.2 with h'|⟨g',cap',cur,h',hb,r⟩
        · exact .inl h'
        · exact .inr ⟨g',cap',cur,h',by omega,r⟩) (fun g e=>⟨fun e2=>by have:=OB g e;have:=aho g e2;omega, .inr (by have:=OB g e;omega)⟩) (-1) (by omega)
       go_wp2_with fail
       refine hadd.mono ?_
       rintro e X1⟨v1,mE,rfl,K1,F1⟩
       dsimp only
       have G1:=Be.trans F1
       clear hadd a0 a1 a2 a3 a4 a5 g0 g2 b0 b1 b2 b3 b4 b5 hws
       go_wp2
       (try simp only[Exit.inBlock,Exit.then])
       refine fw (fe rfl _ _ _) rfl ⟨v1,mE,rfl,?_,G1⟩
       rw[HST.out,HAR.out]
       exact K1
theorem Di{c:LX}{out:List (Ln×Int)}(T:TX c W0)(K:MK c W0 W v vg out P)(fa:Option Addr)(fl fc:Nat)(d:ByteArray)(oa:Option Addr)(oc:Nat)(hF:FL W0 fa fl c.fs)(hO:IL W0 oa c.f.b.length c.O)(at':Nat)(hat:at'<c.f.b.length)(hr:0<=c.H.getD at' 0)(hlen:out.length<=900):Calls Tryz.prog 63 #[.pointer (some ⟨c.B,0,none⟩), .agg #[.slice fa fl fc, .string d], .slice oa c.f.b.length oc, .int .i64 at'] W fun e w'=>∃v' qE,e= .returned (.tuple #[])/\MK c W0 w' v' qE (out++Lw.step c.fs c.f c.E c.O c.H at') (fun g=>P g\/W.heap.size<=g)/\FX c v vg v' qE W w':=by have hok:St.ok (aM.op c.f.b at') (Hg.arg c.f.b at')=true:=St.aZ T.all hat;simp only[St.ok,au,Wd.aX]at hok;obtain⟨p,hp⟩:=aF (aM.op c.f.b at');rw[hp]at hok;have h3:(p=7\/p=8\/p=9\/p=12\/p=20\/p=1\/p=2\/p=3\/p=4\/p=5\/p=6\/p=17\/p=18\/p=19)\/(p=10\/p=11\/p=13\/p=15\/p=14)\/p=16:=by{omega};rcases h3 with h|h|h;{exact agi T K fa fl fc d oa oc hF hO at' hat hr hlen p hp h};{exact afn T K fa fl fc d oa oc hF hO at' hat hr hlen p hp h};exact afh T K fa fl fc d oa oc hF hO at' hat hr hlen p hp h
namespace Lw
open Hg (arg)
theorem nI(hA:Hg.Acc fs f E O H)(hn:n<f.b.length)(dp:Int):0<=(fG f E H n dp).1/\(fG f E H n dp).1<f.b.length:=by by_cases hlt:dp.toNat<(aM.dG f.b E n n).length;{obtain⟨t,et,htl,hEt,-⟩:=aM.Cr hA.Lh rfl hlt;rw[sZ hlt (t:=t) et];have f3:=hA.Lh.f3 t (by omega) (by omega);split;{exact⟨by simp only;omega,by simp only;omega⟩};split;{exact⟨by simp only;omega,by simp only;omega⟩};exact⟨by simp only;omega,by simp only;omega⟩};rw[vG hlt];have:=hA.pos;exact⟨by simp only;omega,by simp only;omega⟩
theorem BX(hA:Hg.Acc fs f E O H)(hn:n<f.b.length)(hr:0<=H.getD n 0):∀x∈step fs f E O H n,-1<=x.2/\x.2<f.b.length:=by have hty:=hA.typ n hn hr;have hpos:=hA.pos;have one:∀(l:Ln)(x:Ln×Int),x∈[(l,(-1:Int))]->-1<=x.2/\x.2<f.b.length:=fun l x hx=>by{rw[sN]at hx;rw[hx];exact⟨Int.le_refl _,by simp only;omega⟩};intro x hx;unfold step uX at hx;obtain⟨p,hp⟩:=aF (aM.op f.b n);rw[hp]at hx;by_cases h1:p=1;{rw[az h1]at hx;exact one _ x hx};rw[ax h1]at hx;by_cases h2:p=2;{rw[az h2]at hx;exact one _ x hx};rw[ax h2]at hx;by_cases h3:p=3\/p=4;{rw[az h3]at hx;exact one _ x hx};rw[ax h3]at hx;by_cases h5:p=5;{rw[az h5]at hx;exact one _ x hx};rw[ax h5]at hx;by_cases h6:p=6;{rw[az h6]at hx;exact one _ x hx};rw[ax h6]at hx;by_cases h10:p=10;{rw[az h10]at hx;have hi:=hty.iff (by rw[hp];exact h10);rcases List.mem_cons.1 hx with rfl|hx;{exact⟨Int.le_refl _,by simp only;omega⟩};rw[sN]at hx;rw[hx];simp only;split;{rcases hi with⟨-,a,-⟩|⟨a,-⟩;{omega};omega};rcases hi with⟨a,-⟩|⟨-,a,b,-⟩;{omega};omega};rw[ax h10]at hx;by_cases h11:p=11;{rw[az h11]at hx;have hi:=hty.Ny (by rw[hp];exact h11);rw[sN]at hx;rw[hx];simp only;omega};rw[ax h11]at hx;by_cases Av:p=13\/p=15;{rw[az Av]at hx;have hg:=nI hA hn (if p=15 then 99 else arg f.b n);generalize fG f E H n (if p=15 then 99 else arg f.b n)=L at hx hg;simp only[List.mem_append,sN]at hx;rcases hx with hx|hx;{by_cases hc:L.2.2=1/\L.2.1≠bx f (H.getD n 0-1);{rw[az hc]at hx;exact one _ x hx};rw[ax hc]at hx;cases hx};rw[hx];simp only;omega};rw[ax Av]at hx;by_cases Bc:p=14;{rw[az Bc]at hx;have hg:=nI hA hn (arg f.b n);have hnx:=hty.next (by omega) (by omega) (by omega) (by omega) (by omega);generalize fG f E H n (arg f.b n)=L at hx hg;simp only at hx;by_cases hc:L.2.2=1/\L.2.1≠bx f (H.getD n 0-1)-1;{rw[az hc]at hx;rcases List.mem_cons.1 hx with rfl|hx;{exact⟨Int.le_refl _,by simp only;omega⟩};rcases List.mem_cons.1 hx with rfl|hx;{exact⟨by simp only;omega,by simp only;omega⟩};rcases List.mem_cons.1 hx with rfl|hx;{exact⟨Int.le_refl _,by simp only;omega⟩};rw[sN]at hx;rw[hx];simp only;omega};rw[ax hc,sN]at hx;rw[hx];simp only;omega};rw[ax Bc]at hx;by_cases h16:p=16;{rw[az h16]at hx;exact one _ x hx};rw[ax h16]at hx;by_cases Dy:p=17;{rw[az Dy]at hx;exact one _ x hx};rw[ax Dy]at hx;by_cases h18:p=18;{rw[az h18]at hx;exact one _ x hx};rw[ax h18]at hx;by_cases h19:p=19;{rw[az h19]at hx;exact one _ x hx};rw[ax h19]at hx;cases hx
theorem BD {fs:List Fn}{f:Fn}{E O H:List Int}(hA:Hg.Acc fs f E O H):∀n,n<=f.b.length->∀x∈(dN fs f E O H n).1,-1<=x.2/\x.2<f.b.length
 | 0,_,x,hx=>by
   unfold dN first at hx
   simp only[List.mem_map]at hx
   obtain⟨i,-,rfl⟩:=hx
   have:=hA.pos
   exact⟨Int.le_refl _,by simp only;omega⟩
 | n +1,hn,x,hx=>by
   unfold dN at hx
   simp only[List.mem_append]at hx
   rcases hx with hx|hx
   · exact BD hA n (by omega) x hx
   · split at hx
     · exact BX hA (by omega) (by assumption) x hx
     · cases hx
theorem Ih(hA:Hg.Acc fs f E O H):∀x∈raw fs f E O H,-1<=x.2/\x.2<f.b.length:=fun x hx=>by
 unfold raw at hx
 rcases List.mem_append.1 hx with hx|hx
 · exact BD hA _ (bG _) x hx
 · have:=hA.pos
   unfold last at hx
   split at hx
   · rcases List.mem_cons.1 hx with rfl|hx
     · exact⟨Int.le_refl _,by simp only;omega⟩
     · rw[sN]at hx
       rw[hx]
       exact⟨Int.le_refl _,by simp only;omega⟩
   · rw[sN]at hx
     rw[hx]
     exact⟨Int.le_refl _,by simp only;omega⟩
end Lw
theorem vV:∀(xs:List Lv)(k:Nat)(y:Int),k<xs.length->fF (xs.set k ((xs.getD k jk).1,(xs.getD k jk).2.1,(xs.getD k jk).2.2.1,(xs.getD k jk).2.2.2.1,y,(xs.getD k jk).2.2.2.2.2))=(fF xs).set (k*6+4) (.int .i64 y)
 |[],k,y,h=>by simp at h
 |x::xs,0,y,h=>rfl
 | x::xs,k+1,y,h=>by
   have ih:=vV xs k y (by simpa using h)
   have e:(x::xs).getD (k+1) jk=xs.getD k jk:=rfl
   rw[e,List.set_cons_succ,jX,ih,jX,show(k+1)*6+4=k*6+4+1+1+1+1+1+1 by omega]
   simp only[List.set_cons_succ]
namespace Lw
open Hg (arg)
structure jW (fs:List Fn)(f:Fn)(x:Ln×Int):Prop where
 ok:∀N:Int,0<=N->N<=299->Ln.ok (if 0<=x.2 then{x.1 with n:=N}else x.1)=true
 kY:x.1.k=5\/x.1.k=6->0<=x.2
 st:Ln.st x.1<=wd f+20
 us:∀y∈Ln.us x.1,y<=wd f+20
 call:x.1.k=7->x.2<0/\0<=x.1.n/\x.1.n<fs.length/\(x.1.l.length:Int)=(fs.getD x.1.n.toNat .z).a
theorem mU{m:Int}(h0:0<=b)(h1:b<=m)(hm:m<=39):Ln.bx b=true:=Ln.eU.2 ⟨h0,by omega⟩
variable {fs : List Fn} {f : Fn}
theorem Qw (hw:0<=wd f/\wd f<=6){d n:Int}(hd:0<=d/\d<=wd f+20)(hn:Wd.ok n=true):jW fs f (⟨1,d,0,0,n,[]⟩,-1):=by refine⟨fun N h0 h1=>?_,fun h=>by simp at h,by simp[Ln.st];omega,fun y hy=>by simp[Ln.us,Ln.kL]at hy,fun h=>by simp at h⟩;rw[ax (by show¬(0:Int)<=-1;omega)];simp[Ln.ok,Ln.asks,Ln.q0,mU hd.1 hd.2 (by omega),hn]
theorem qL(hw:0<=wd f/\wd f<=6){k d:Int}(hk:k=2\/k=4)(hd:0<=d/\d<=wd f+20)(ha:0<=a/\a<=wd f+20):jW fs f (⟨k,d,a,0,0,[]⟩,-1):=by refine⟨fun N h0 h1=>?_,fun h=>by simp at h;omega,?_,fun y hy=>?_,fun h=>by simp at h;omega⟩;{rw[ax (by show¬(0:Int)<=-1;omega)];rcases hk with rfl|rfl<;>simp[Ln.ok,Ln.asks,Ln.q0,mU hd.1 hd.2 (by omega),mU ha.1 ha.2 (by omega)]};{rcases hk with rfl|rfl<;>simp[Ln.st]<;>omega};rcases hk with rfl|rfl<;>simp[Ln.us]at hy<;>omega
theorem agf(hw:0<=wd f/\wd f<=6){d n:Int}(hd:0<=d/\d<=wd f+20)(ha:0<=a/\a<=wd f+20)(hb:0<=b/\b<=wd f+20)(hn:1<=n/\n<=12):jW fs f (⟨3,d,a,b,n,[]⟩,-1):=by refine⟨fun N h0 h1=>?_,fun h=>by simp at h,by simp[Ln.st];omega,fun y hy=>?_,fun h=>by simp at h⟩;{rw[ax (by show¬(0:Int)<=-1;omega)];simp[Ln.ok,Ln.asks,mU hd.1 hd.2 (by omega),mU ha.1 ha.2 (by omega),mU hb.1 hb.2 (by omega),Wd.lU hn.1 hn.2]};have:y∈Ln.put [a] b:=by{simpa[Ln.us]using hy};rcases Ln.rH this with rfl|h;{omega};simp at h;omega
theorem Px (hw:0<=wd f/\wd f<=6){t:Int}(ht:0<=t):jW fs f (⟨5,0,0,0,0,[]⟩,t):=by refine⟨fun N h0 h1=>?_,fun _=>ht,by simp[Ln.st];omega,fun y hy=>by simp[Ln.us,Ln.kL]at hy,fun h=>by simp at h⟩;rw[az ht];simp[Ln.ok,Ln.asks,Ln.q0,Wd.lU h0 h1]
theorem Q8(hw:0<=wd f/\wd f<=6){t:Int}(ha:0<=a/\a<=wd f+20)(ht:0<=t):jW fs f (⟨6,0,a,0,0,[]⟩,t):=by refine⟨fun N h0 h1=>?_,fun _=>ht,by simp[Ln.st];omega,fun y hy=>by simp[Ln.us]at hy;omega,fun h=>by simp at h⟩;rw[az ht];simp[Ln.ok,Ln.asks,Ln.q0,Wd.lU h0 h1,mU ha.1 ha.2 (by omega)]
theorem af4(hw:0<=wd f/\wd f<=6){d n:Int}(hd:0<=d/\d<=wd f+20)(hn:0<=n/\n<=3/\n<fs.length)(hl:∀y∈l,0<=y/\y<=wd f+20)(hl3:l.length<=3)(ha:(l.length:Int)=(fs.getD n.toNat .z).a):jW fs f (⟨7,d,0,0,n,l⟩,-1):=by refine⟨fun N h0 h1=>?_,fun h=>by simp at h,by simp[Ln.st];omega,fun y hy=>?_,fun h=>⟨by simp,hn.1,hn.2.2,ha⟩⟩;{rw[ax (by show¬(0:Int)<=-1;omega)];have:∀y∈l,Ln.bx y=true:=fun y hy=>mU (hl y hy).1 (hl y hy).2 (by omega);simp[Ln.ok,Ln.asks,Ln.q0,mU hd.1 hd.2 (by omega),Wd.lU hn.1 hn.2.1,hl3];exact this};have:y∈Ln.kL l:=by{simpa[Ln.us]using hy};rcases Ln.Hw l [] this with h|h;{exact(hl y h).2};cases h
theorem afg(hw:0<=wd f/\wd f<=6){d n:Int}(hd:0<=d/\d<=wd f+20)(ha:0<=a/\a<=wd f+20)(hn:0<=n/\n<=255):jW fs f (⟨8,d,a,0,n,[]⟩,-1):=by refine⟨fun N h0 h1=>?_,fun h=>by simp at h,by simp[Ln.st];omega,fun y hy=>by simp[Ln.us]at hy;omega,fun h=>by simp at h⟩;rw[ax (by show¬(0:Int)<=-1;omega)];simp[Ln.ok,Ln.asks,Ln.q0,mU hd.1 hd.2 (by omega),mU ha.1 ha.2 (by omega),Wd.lU hn.1 hn.2]
theorem afk(hw:0<=wd f/\wd f<=6){n:Int}(ha:0<=a/\a<=wd f+20)(hb:0<=b/\b<=wd f+20)(hn:0<=n/\n<=255):jW fs f (⟨9,0,a,b,n,[]⟩,-1):=by refine⟨fun N h0 h1=>?_,fun h=>by simp at h,by simp[Ln.st];omega,fun y hy=>?_,fun h=>by simp at h⟩;{rw[ax (by show¬(0:Int)<=-1;omega)];simp[Ln.ok,Ln.asks,Ln.q0,mU ha.1 ha.2 (by omega),mU hb.1 hb.2 (by omega),Wd.lU hn.1 hn.2]};have:y∈Ln.put [a] b:=by{simpa[Ln.us]using hy};rcases Ln.rH this with rfl|h;{omega};simp at h;omega
theorem Pz(hw:0<=wd f/\wd f<=6)(ha:0<=a/\a<=wd f+20):jW fs f (⟨10,0,a,0,0,[]⟩,-1):=by refine⟨fun N h0 h1=>?_,fun h=>by simp at h,by simp[Ln.st];omega,fun y hy=>by simp[Ln.us]at hy;omega,fun h=>by simp at h⟩;rw[ax (by show¬(0:Int)<=-1;omega)];simp[Ln.ok,Ln.asks,Ln.q0,mU ha.1 ha.2 (by omega)]
theorem abr (hw:0<=wd f/\wd f<=6):jW fs f (⟨11,0,0,0,0,[]⟩,-1):=by refine⟨fun N h0 h1=>?_,fun h=>by simp at h,by simp[Ln.st];omega,fun y hy=>by simp[Ln.us,Ln.kL]at hy,fun h=>by simp at h⟩;rw[ax (by show¬(0:Int)<=-1;omega)];simp[Ln.ok,Ln.asks,Ln.q0]
theorem pG (xs:List (Int×Int))(E:List Int)(n:Nat):∀k,(aM.dG xs E n k).length<=k
 |0=>by simp[aM.dG]
 | k+1=>by
   rw[aM.tT]
   have:=pG xs E n k
   split
   · simp only[oG];omega
   · omega
theorem II(hA:Hg.Acc fs f E O H)(hf:f.g=0\/f.g=1)(hJ:Hg.jK f E H n h a)(h1:(fG f E H n a).2.2=1):wd f<=(fG f E H n a).2.1/\(fG f E H n a).2.1<=wd f+20/\1<=h:=by by_cases hlt:a.toNat<(aM.dG f.b E n n).length;{obtain⟨t,et,htn,hop,hH0,hst,hle,hae,-⟩:=hJ.1 hlt;rw[sZ hlt (t:=t) et]at h1 ⊢;have htl:t<f.b.length:=by{rcases Nat.lt_or_ge t f.b.length with h|h;{exact h};exfalso;have:H.getD t 0=0:=by{rw[ah,List.getElem?_eq_none (by rw[hA.lH];omega)];rfl};have he:aM.op f.b t=0:=by{unfold aM.op;rw[ah,List.getElem?_eq_none (by omega)];rfl};rw[he]at hop;simp[St.opens]at hop};have htop:=hA.dO t htl;unfold Hg.kK at hst hle;rw[az hH0]at hst hle;unfold bx;by_cases h9:aM.op f.b t=9;{rw[az h9]at h1;simp at h1};rw[ax h9]at h1 ⊢;by_cases h10:aM.op f.b t=10;{rw[az h10]at h1 ⊢ hst hle;simp only at h1 ⊢;omega};rw[ax h10]at h1 ⊢ hst hle;simp only at h1 ⊢;omega};have:=hJ.2 hlt;rw[vG hlt]at h1 ⊢;simp only[bx]at h1 ⊢;omega
theorem eT(hA:Hg.Acc fs f E O H)(hf:0<=f.a/\f.a<=3/\0<=f.l/\f.l<=3/\(f.g=0\/f.g=1)/\f.b.length<=80)(hfs:∀k,k<fs.length->0<=(fs.getD k .z).a/\(fs.getD k .z).a<=3)(hst:St.cu f.b=true)(hn:n<f.b.length)(hr:0<=H.getD n 0):∀x∈step fs f E O H n,jW fs f x:=by have hty:=hA.typ n hn hr;have MN:=BX hA hn hr;have htop:=hA.dO n hn;have hw:0<=wd f/\wd f<=6:=by{unfold wd;omega};have hok:St.ok (aM.op f.b n) (arg f.b n)=true:=St.aZ hst hn;have htake:=hty.take;obtain⟨p,hp⟩:=aF (aM.op f.b n);have ebx:bx f (H.getD n 0-1)=wd f+(H.getD n 0-1):=rfl;intro x hx;have hgx:=MN x hx;unfold step uX at hx;rw[hp]at hx hok htake;rw[ebx]at hx;simp only[St.ok,au,Wd.aX]at hok;have hag:St.least p<=arg f.b n:=hok.2.1;have hal:arg f.b n<=St.cK p:=hok.2.2;by_cases h1:p=1;{subst h1;rw[az rfl,sN]at hx;rw[hx];have e1:St.least 1=0:=by{decide};have e2:St.cK 1=4294967295:=by{decide};rw[e1]at hag;rw[e2]at hal;exact Qw hw (by omega) (Wd.lU hag hal)};rw[ax h1]at hx;by_cases h2:p=2;{subst h2;have:=hty.loc (.inl hp);have e1:St.least 2=0:=by{decide};rw[az rfl,sN]at hx;rw[hx];exact qL hw (.inl rfl) (by omega) (by unfold wd;omega)};rw[ax h2]at hx;by_cases h3:p=3\/p=4;{have:=hty.loc (.inr (by rw[hp];exact h3));have e1:St.least p=0:=by{unfold St.least;rw[ax (by omega)]};have e2:Hg.tk fs p (arg f.b n)=1:=by{unfold Hg.tk;rcases h3 with rfl|rfl;{rfl};rfl};rw[az h3,sN]at hx;rw[hx];exact qL hw (.inl rfl) (by unfold wd;omega) (by omega)};rw[ax h3]at hx;by_cases h5:p=5;{subst h5;have e1:St.least 5=1:=by{decide};have e2:St.cK 5=12:=by{decide};have e3:Hg.tk fs 5 (arg f.b n)=2:=rfl;rw[az rfl,sN]at hx;rw[hx];exact agf hw (by omega) (by omega) (by omega) (by omega)};rw[ax h5]at hx;by_cases h6:p=6;{subst h6;have e3:Hg.tk fs 6 (arg f.b n)=1:=rfl;rw[az rfl,sN]at hx;rw[hx];exact qL hw (.inr rfl) (by omega) (by omega)};rw[ax h6]at hx;by_cases h10:p=10;{subst h10;have e3:Hg.tk fs 10 (arg f.b n)=1:=rfl;rw[az rfl]at hx;have hi:=hty.iff hp;rcases List.mem_cons.1 hx with rfl|hx;{exact qL hw (.inr rfl) (by omega) (by omega)};rw[sN]at hx;rw[hx];refine Q8 hw (by omega) ?_;split;{omega};rcases hi with⟨a,-⟩|⟨-,a,b,-⟩;{omega};omega};rw[ax h10]at hx;by_cases h11:p=11;{subst h11;rw[az rfl]at hx;have hi:=hty.Ny hp;rw[sN]at hx;rw[hx];exact Px hw hi.1};rw[ax h11]at hx;by_cases Av:p=13\/p=15;{rw[az Av]at hx;have hg:=nI hA hn (if p=15 then 99 else arg f.b n);have hJ:Hg.jK f E H n (H.getD n 0) (if p=15 then 99 else arg f.b n):=by{by_cases uO:p=15;{rw[az uO];have hlen:=pG f.b E n n;exact⟨fun h=>by exfalso;simp at h;omega,fun _=>hty.ret (by rw[hp];exact uO)⟩};rw[ax uO];exact hty.jump (by rw[hp];omega)};have hlf:=II hA hf.2.2.2.2.1 hJ;generalize fG f E H n (if p=15 then 99 else arg f.b n)=L at hx hg hlf;simp only[List.mem_append,sN]at hx;rcases hx with hx|hx;{by_cases hc:L.2.2=1/\L.2.1≠wd f+(H.getD n 0-1);{rw[az hc,sN]at hx;have:=hlf hc.1;rw[hx];exact qL hw (.inl rfl) (by omega) (by omega)};rw[ax hc]at hx;cases hx};rw[hx];exact Px hw hg.1};rw[ax Av]at hx;by_cases Bc:p=14;{subst Bc;have e3:Hg.tk fs 14 (arg f.b n)=1:=rfl;rw[az rfl]at hx;have hg:=nI hA hn (arg f.b n);have hlf:=II hA hf.2.2.2.2.1 (hty.jif hp);generalize fG f E H n (arg f.b n)=L at hx hg hlf;simp only at hx;by_cases hc:L.2.2=1/\L.2.1≠wd f+(H.getD n 0-1)-1;{rw[az hc]at hx;have hl2:=hlf hc.1;rcases List.mem_cons.1 hx with rfl|hx;{exact qL hw (.inr rfl) (by omega) (by omega)};rcases List.mem_cons.1 hx with rfl|hx;{exact Q8 hw (by omega) (by omega)};rcases List.mem_cons.1 hx with rfl|hx;{exact qL hw (.inl rfl) (by omega) (by omega)};rw[sN]at hx;rw[hx];exact Px hw hg.1};rw[ax hc,sN]at hx;rw[hx];exact Q8 hw (by omega) hg.1};rw[ax Bc]at hx;by_cases h16:p=16;{subst h16;have e1:St.least 16=0:=by{decide};have e2:St.cK 16=3:=by{decide};have e3:Hg.tk fs 16 (arg f.b n)=(fs.getD (arg f.b n).toNat .z).a:=rfl;have hc:=hty.call hp;have ha:=hfs (arg f.b n).toNat (by omega);rw[az rfl,sN]at hx;rw[hx];have hle:((args (wd f+(H.getD n 0-1)) (fs.getD (arg f.b n).toNat .z).a).length:Int)=(fs.getD (arg f.b n).toNat .z).a:=by{unfold args;simp only[iw,List.length_range];omega};refine af4 hw ?_ (by omega) ?_ (by omega) hle;{split<;>omega};intro y hy;unfold args at hy;simp only[List.mem_map,List.mem_range]at hy;obtain⟨i,hi,rfl⟩:=hy;omega};rw[ax h16]at hx;by_cases Dy:p=17;{subst Dy;have e1:St.least 17=0:=by{decide};have e2:St.cK 17=255:=by{decide};have e3:Hg.tk fs 17 (arg f.b n)=1:=rfl;rw[az rfl,sN]at hx;rw[hx];exact afg hw (by omega) (by omega) (by omega)};rw[ax Dy]at hx;by_cases h18:p=18;{subst h18;have e1:St.least 18=0:=by{decide};have e2:St.cK 18=255:=by{decide};have e3:Hg.tk fs 18 (arg f.b n)=2:=rfl;rw[az rfl,sN]at hx;rw[hx];exact afk hw (by omega) (by omega) (by omega)};rw[ax h18]at hx;by_cases h19:p=19;{rw[az h19,sN]at hx;rw[hx];exact abr hw};rw[ax h19]at hx;cases hx
theorem BN {E O H:List Int}(hA:Hg.Acc fs f E O H)(hf:0<=f.a/\f.a<=3/\0<=f.l/\f.l<=3/\(f.g=0\/f.g=1)/\f.b.length<=80)(hfs:∀k,k<fs.length->0<=(fs.getD k .z).a/\(fs.getD k .z).a<=3)(hst:St.cu f.b=true):∀n,n<=f.b.length->∀x∈(dN fs f E O H n).1,jW fs f x
 | 0,_,x,hx=>by
   unfold dN first at hx
   simp only[List.mem_map,List.mem_range]at hx
   obtain⟨i,hi,rfl⟩:=hx
   exact Qw (by unfold wd;omega) (by unfold wd;omega) (by decide)
 | n +1,hn,x,hx=>by
   unfold dN at hx
   simp only[List.mem_append]at hx
   rcases hx with hx|hx
   · exact BN hA hf hfs hst n (by omega) x hx
   · split at hx
     · exact eT hA hf hfs hst (by omega) (by assumption) x hx
     · cases hx
theorem Qv(hA:Hg.Acc fs f E O H)(hf:0<=f.a/\f.a<=3/\0<=f.l/\f.l<=3/\(f.g=0\/f.g=1)/\f.b.length<=80)(hfs:∀k,k<fs.length->0<=(fs.getD k .z).a/\(fs.getD k .z).a<=3)(hst:St.cu f.b=true):∀x∈raw fs f E O H,jW fs f x:=fun x hx=>by
 unfold raw at hx
 have hw:0<=wd f/\wd f<=6:=by unfold wd;omega
 rcases List.mem_append.1 hx with hx|hx
 · exact BN hA hf hfs hst _ (bG _) x hx
 · unfold last at hx
   split at hx
   · rcases List.mem_cons.1 hx with rfl|hx
     · exact Qw hw (by omega) (by decide)
     · rw[sN]at hx
       rw[hx]
       exact Pz hw (by omega)
   · rw[sN]at hx
     rw[hx]
     exact Pz hw (by omega)
theorem uN (fs:List Fn)(f:Fn)(E O H:List Int):∀n j,j<n->0<=(dN fs f E O H n).2.getD j 0/\(dN fs f E O H n).2.getD j 0<=((dN fs f E O H n).1.length:Int)
 |0,j,h=>by omega
 | n +1,j,h=>by
   have hl:=(nN fs f E O H n).2
   unfold dN
   simp only[jw]
   by_cases e:j=n
   · subst e
     rw[ah,qU (by omega),hl,Nat.sub_self]
     simp only[List.getElem?_cons_zero,Option.getD_some]
     omega
   · have ih:=uN fs f E O H n j (by omega)
     rw[ah,uF (by omega),←ah]
     omega
theorem Dg (fs:List Fn)(f:Fn)(E O H:List Int):(dN fs f E O H f.b.length).1.length<(raw fs f E O H).length/\(raw fs f E O H).length<=f.l.toNat+4*f.b.length+2:=by have h:=(nN fs f E O H f.b.length).1;unfold raw last;rw[jw];split;{simp only[oG,List.length_nil];omega};simp only[oG,List.length_nil];omega
theorem M6(fs:List Fn)(f:Fn)(E O H:List Int)(h:j<f.b.length):0<=(dE fs f E O H).getD j 0/\(dE fs f E O H).getD j 0<((raw fs f E O H).length:Int):=by have h1:=uN fs f E O H f.b.length j h;have h2:=(Dg fs f E O H).1;unfold dE;omega
theorem QE(h3:(raw fs f E O H).length<=300){x:Ln×Int}(hF:jW fs f x)(hg:-1<=x.2/\x.2<f.b.length):Ln.jT (raw fs f E O H).length (p9 (dE fs f E O H) x)=true/\Ln.st (p9 (dE fs f E O H) x)<=wd f+20/\(∀y∈Ln.us (p9 (dE fs f E O H) x),y<=wd f+20)/\((p9 (dE fs f E O H) x).k=7->0<=(p9 (dE fs f E O H) x).n/\(p9 (dE fs f E O H) x).n<fs.length/\((p9 (dE fs f E O H) x).l.length:Int)=(fs.getD (p9 (dE fs f E O H) x).n.toNat .z).a)/\(p9 (dE fs f E O H) x).k=x.1.k:=by unfold p9;by_cases h0:0<=x.2;{have hs:=M6 fs f E O H (j:=x.2.toNat) (by omega);have ho:=hF.ok ((dE fs f E O H).getD x.2.toNat 0) hs.1 (by omega);rw[az h0]at ho ⊢;refine⟨?_,hF.st,hF.us,fun h=>by have:=(hF.call h).1;omega,rfl⟩;unfold Ln.jT;rw[ho];have hs2:=hs;rw[ah]at hs2;simp;omega};have ho:=hF.ok 0 (by omega) (by omega);rw[ax h0]at ho ⊢;refine⟨?_,hF.st,hF.us,fun h=>(hF.call h).2,rfl⟩;unfold Ln.jT;rw[ho];have:=hF.kY;simp;omega
theorem NF(hA:Hg.Acc fs f E O H)(hf:0<=f.a/\f.a<=3/\0<=f.l/\f.l<=3/\(f.g=0\/f.g=1)/\f.b.length<=80)(hfs:∀k,k<fs.length->0<=(fs.getD k .z).a/\(fs.getD k .z).a<=3)(hst:St.cu f.b=true):(f.b.length<=50->func fs f E O H≠[])/\(func fs f E O H≠[]->Ln.isOk (func fs f E O H)=true/\((func fs f E O H).getD ((func fs f E O H).length-1) .z).k=10/\Ln.boxes (func fs f E O H)<=wd f+21/\∀y∈func fs f E O H,y.k=7->0<=y.n/\y.n<fs.length/\(y.l.length:Int)=(fs.getD y.n.toNat .z).a):=by
 have hrl:=Dg fs f E O H
 have hne:raw fs f E O H≠[]:=fun e=>by rw[e]at hrl;simp at hrl
 refine⟨fun h5=>?_,fun h=>?_⟩
 · unfold func;rw[az (by omega)];intro e;exact hne (by simpa using e)
 · have h3:(raw fs f E O H).length<=300:=by rcases Nat.lt_or_ge 300 (raw fs f E O H).length with h'|h';{exfalso;apply h;unfold func;rw[ax (by omega)]};exact h'
   have e:func fs f E O H=(raw fs f E O H).map (p9 (dE fs f E O H)):=by unfold func;rw[az h3]
   rw[e]
   have hall:∀y∈(raw fs f E O H).map (p9 (dE fs f E O H)),Ln.jT (raw fs f E O H).length y=true/\Ln.st y<=wd f+20/\(∀z∈Ln.us y,z<=wd f+20)/\(y.k=7->0<=y.n/\y.n<fs.length/\(y.l.length:Int)=(fs.getD y.n.toNat .z).a):=fun y hy=>by obtain⟨x,hx,rfl⟩:=List.mem_map.1 hy;have:=QE h3 (Qv hA hf hfs hst x hx) (Ih hA x hx);exact⟨this.1,this.2.1,this.2.2.1,this.2.2.2.1⟩
   have hlast:(((raw fs f E O H).map (p9 (dE fs f E O H))).getD (((raw fs f E O H).map (p9 (dE fs f E O H))).length-1) .z).k=10:=by rw[iw,ah,J2];have hl:(raw fs f E O H)[(raw fs f E O H).length-1]?=(last f)[(last f).length-1]?:=by{(have hp:0<(last f).length:=by unfold last;split<;>simp);have e2:(raw fs f E O H).length=(dN fs f E O H f.b.length).1.length+(last f).length:=by{unfold raw;rw[jw]};rw[e2];unfold raw;rw[qU (by omega)];congr 1;omega};rw[hl];unfold last;split;{rfl};rfl
   refine⟨?_,hlast,?_,fun y hy=>(hall y hy).2.2.2⟩
   · unfold Ln.isOk Ln.ng;rw[hlast];simp only[iw,au,mK,rq];exact⟨⟨by omega,h3⟩,fun y hy=>(hall y hy).1,by decide⟩
   · unfold Ln.boxes
     split
     · unfold Ln.Mi
       have hmx:∀a b c:Int,a<=c->b<=c->Ln.mx a b<=c:=fun a b c h1 h2=>by unfold Ln.mx;split<;>assumption
       have ahp:∀(l:List Int)(m:Int),m<=wd f+21->(∀z∈l,z<=wd f+20)->l.foldl (fun n y=>Ln.mx n (y+1)) m<=wd f+21:=by
        intro l
        induction l with
        |nil=>intro m hm _;exact hm
        |cons z r ih=>
         intro m hm hz
         exact ih _ (hmx _ _ _ hm (by have:=hz z (by simp);omega)) (fun y hy=>hz y (by simp[hy]))
       have ab1:∀(l:List Ln)(m:Int),m<=wd f+21->(∀y∈l,Ln.st y<=wd f+20/\∀z∈Ln.us y,z<=wd f+20)->l.foldl Ln.most m<=wd f+21:=by
        intro l
        induction l with
        |nil=>intro m hm _;exact hm
        |cons z r ih=>
         intro m hm hz
         refine ih _ ?_ (fun y hy=>hz y (by simp[hy]))
         unfold Ln.most
         have:=hz z (by simp)
         exact ahp _ _ (hmx _ _ _ hm (by omega)) this.2
       exact ab1 _ 0 (by unfold wd;omega) (fun y hy=>⟨(hall y hy).2.1,(hall y hy).2.2.1⟩)
     · unfold wd;omega
end Lw
namespace Sm
open Mn (Rs words)
open Lw (wd dN raw dE p9 func)
open Hg (arg)
def R (cs:List (List Ln))(N d k at':Nat)(B mem:List Int):Rs:=Rl.run cs (N+1) N d k at' B mem
variable {cs : List (List Ln)} {N d k at' : Nat} {B mem : List Int}
theorem QR {a:Nat}{b m:List Int}(h:Rl.aQ cs k at' B mem= .next a b m):R cs (N+1) d k at' B mem=R cs N d k a b m:=Rl.fU h
theorem PG {v:Int}(h:Rl.aQ cs k at' B mem= .qP v):R cs (N+1) d k at' B mem= .done v mem N:=Rl.lX h
theorem ZV {c:Int}(h:Rl.aQ cs k at' B mem= .halt c):R cs (N+1) d k at' B mem= .stop c mem N:=Rl.run_halt h
theorem abD{x q:Nat}(h:Rl.aQ cs k at' B mem= .call x q args)(hd:12<=d+1):R cs (N+1) d k at' B mem= .stop 6 mem N:=Rl.fV h hd
theorem abj{x q l:Nat}{c:Int}{m:List Int}(h:Rl.aQ cs k at' B mem= .call x q args)(hd:¬12<=d+1)(hr:R cs N (d+1) q 0 (Rl.kI args) mem= .stop c m l):R cs (N+1) d k at' B mem= .stop c m l:=Rl.fP h hd hr
theorem Z5{x q l:Nat}{v:Int}{m:List Int}(h:Rl.aQ cs k at' B mem= .call x q args)(hd:¬12<=d+1)(hr:R cs N (d+1) q 0 (Rl.kI args) mem= .done v m l):R cs (N+1) d k at' B mem=R cs l d k (at'+1) (B.set x v) m:=by have hl:=(Rl.fI (cs:=cs) (N+1) N (d+1) q 0 (Rl.kI args) mem).1;have e:=Rl.fQ h hd hr;unfold R at hr ⊢;rw[hr]at hl;simp only[Rs.left]at hl;rw[e];exact Rl.jL _ _ _ _ _ _ _ _ (by omega) (by omega)
def iI (cs:List (List Ln))(k at':Nat)(B mem:List Int)(u a:Nat)(b m:List Int):Prop:=∀d N,R cs (N+u) d k at' B mem=R cs N d k a b m
theorem iI.refl (cs:List (List Ln))(k at':Nat)(B mem:List Int):iI cs k at' B mem 0 at' B mem:=fun _ _=>rfl
theorem iI.one {a:Nat}{b m:List Int}(h:Rl.aQ cs k at' B mem= .next a b m):iI cs k at' B mem 1 a b m:=fun _ _=>QR h
theorem iI.andThen {u v a a':Nat}{b m b' m':List Int}(h:iI cs k at' B mem u a b m)(h':iI cs k a b m v a' b' m'):iI cs k at' B mem (u+v) a' b' m':=fun d N=>by
 rw[show N+(u+v)=N+v+u by omega,h d (N+v),h' d N]
structure Rel (pile loc B:List Int):Prop where
 lB:B.length=40
 lo:∀i,i<loc.length->B.getD i 0=loc.getD i 0
 pi:∀j,j<pile.length->B.getD (loc.length+j) 0=pile.getD j 0
theorem getD_take{q:Nat}(h:j<q):(l.take q).getD j 0=l.getD j 0:=by rw[ah,ah,List.getElem?_take,az h]
theorem N8{m:List Int}(h:j<l.length):(l++m).getD j 0=l.getD j 0:=by rw[ah,ah,uF h]
theorem ND{v:Int}(h:j=l.length):(l++[v]).getD j 0=v:=by rw[ah,qU (by omega),h,Nat.sub_self];rfl
theorem Rel.put(h:Rel pile loc B){q:Nat}(hq:q<=pile.length)(hl:loc.length+q<40)(v:Int):Rel (pile.take q++[v]) loc (B.set (loc.length+q) v):=by have hlt:(pile.take q).length=q:=by{rw[oQ];omega};refine⟨by rw[uY];exact h.lB,fun i hi=>?_,fun j hj=>?_⟩;{rw[Mm.iq (by rw[h.lB];omega),ax (by omega)];exact h.lo i hi};rw[jw,hlt,Bb]at hj;rw[Mm.iq (by rw[h.lB];omega)];by_cases e:j=q;{rw[az (by omega),ND (by omega)]};rw[ax (by omega),N8 (by omega),getD_take (by omega)];exact h.pi j (by omega)
theorem Rel.take {pile loc:List Int}(h:Rel pile loc B)(q:Nat):Rel (pile.take q) loc B:=⟨h.lB,h.lo,fun j hj=>by
 rw[oQ]at hj
 rw[getD_take (by omega)]
 exact h.pi j (by omega)⟩
theorem Rel.Rh(h:Rel pile loc B)(hi:i<loc.length)(hl:loc.length<=40)(v:Int):Rel pile (loc.set i v) (B.set i v):=by refine⟨by rw[uY];exact h.lB,fun j hj=>?_,fun j hj=>?_⟩;{rw[uY]at hj;rw[Mm.iq (by rw[h.lB];omega),Mm.iq hi,h.lo j hj]};rw[uY,Mm.iq (by rw[h.lB];omega),ax (by omega)];exact h.pi j hj
theorem Rel.spare(h:Rel pile loc B)(hi:loc.length+pile.length<=i)(v:Int):Rel pile loc (B.set i v):=by by_cases hb:i<B.length;{refine⟨by rw[uY];exact h.lB,fun j hj=>?_,fun j hj=>?_⟩;{rw[Mm.iq hb,ax (by omega)];exact h.lo j hj};rw[Mm.iq hb,ax (by omega)];exact h.pi j hj};rw[List.set_eq_of_length_le (by omega)];exact h
theorem Rel.dO {pile loc:List Int}(h:Rel pile loc B)(h0:0<pile.length):B.getD (loc.length+(pile.length-1)) 0=Mn.dO pile:=h.pi _ (by omega)
theorem Rel.under {pile loc:List Int}(h:Rel pile loc B)(h0:1<pile.length):B.getD (loc.length+(pile.length-2)) 0=Mn.under pile:=h.pi _ (by omega)
def pos (fs:List Fn)(f:Fn)(E O H:List Int)(j:Nat):Nat:=(dN fs f E O H j).1.length
variable {fs : List Fn} {f : Fn} {E O H : List Int}
theorem vZ:∀(n j:Nat),j<=n->∃r,(dN fs f E O H n).1=(dN fs f E O H j).1++r
 |0,j,h=>⟨[],by rw[show j=0 by omega];simp⟩
 | n +1,j,h=>by
   by_cases e:j=n+1
   · exact⟨[],by rw[e];simp⟩
   · obtain⟨r,hr⟩:=vZ n j (by omega)
     exact⟨r++(if 0<=H.getD n 0 then Lw.step fs f E O H n else[]),by rw[(Lw.rG fs f E O H n).1,hr,oI]⟩
theorem CU(h3:(raw fs f E O H).length<=300){x:Ln×Int}(h:(raw fs f E O H)[i]?=some x):(func fs f E O H).getD i .z=p9 (dE fs f E O H) x:=by unfold func;rw[az h3,ah,J2,h];rfl
theorem Oe(h3:(raw fs f E O H).length<=300)(hj:j<f.b.length)(h0:0<=H.getD j 0){x:Ln×Int}(h:(Lw.step fs f E O H j)[i]?=some x):(func fs f E O H).getD (pos fs f E O H j+i) .z=p9 (dE fs f E O H) x:=by refine CU h3 ?_;obtain⟨r,hr⟩:=vZ (fs:=fs) (f:=f) (E:=E) (O:=O) (H:=H) f.b.length (j+1) (by omega);have hi:i<(Lw.step fs f E O H j).length:=by{rcases Nat.lt_or_ge i (Lw.step fs f E O H j).length with q|q;{exact q};rw[List.getElem?_eq_none q]at h;cases h};have e:=(Lw.rG fs f E O H j).1;rw[az h0]at e;unfold raw;rw[hr,e];rw[oI,oI,qU (by unfold pos;omega)];unfold pos;rw[Nat.add_sub_cancel_left,uF hi];exact h
theorem sO(h3:(raw fs f E O H).length<=300){x:Ln×Int}(h:(Lw.last f)[i]?=some x):(func fs f E O H).getD (pos fs f E O H f.b.length+i) .z=p9 (dE fs f E O H) x:=by refine CU h3 ?_;unfold raw pos;rw[qU (by omega),Nat.add_sub_cancel_left];exact h
theorem Kr(h3:(raw fs f E O H).length<=300)(h:i<f.l.toNat):(func fs f E O H).getD i .z=⟨1,f.a+(i:Int),0,0,0,[]⟩:=by have e:(raw fs f E O H)[i]?=some (⟨1,f.a+(i:Int),0,0,0,[]⟩,-1):=by{obtain⟨r,hr⟩:=vZ (fs:=fs) (f:=f) (E:=E) (O:=O) (H:=H) f.b.length 0 (by omega);unfold raw;rw[hr];unfold dN Lw.first;rw[oI,uF (by simpa using h)];simp[h]};rw[CU h3 e];rfl
theorem Qa:pos fs f E O H 0=f.l.toNat:=by simp[pos,dN,Lw.first]
theorem Rw(h0:0<=H.getD j 0):pos fs f E O H (j+1)=pos fs f E O H j+(Lw.step fs f E O H j).length:=by unfold pos;rw[(Lw.rG fs f E O H j).1,az h0,jw]
theorem WM(h:aM.op f.b j=12):Lw.step fs f E O H j=[]:=by unfold Lw.step Lw.uX;rw[h];rfl
theorem Cz(h:aM.op f.b j=12):pos fs f E O H (j+1)=pos fs f E O H j:=by unfold pos;rw[(Lw.rG fs f E O H j).1,WM h];split<;>simp
theorem nX {st:List Int}(x:Ln):p9 st (x,-1)=x:=rfl
theorem qR(hj:j<f.b.length)(x:Ln):p9 (dE fs f E O H) (x,(j:Int))={x with n:=(pos fs f E O H j:Int)}:=by unfold p9;rw[az (by simp only;omega)];simp only[aA];rw[Lw.Np fs f E O H hj];rfl
theorem wS (hcs:cs.getD k []=func fs f E O H)(h3:(raw fs f E O H).length<=300)(hw:0<=wd f/\wd f<=6)(hg:f.g=0\/f.g=1)(hB:B.length=40){v:Int}(h0:f.g=0->v=0)(h1:f.g=1->B.getD (wd f).toNat 0=v):∃u,u<=2/\∀d N,R cs (N+u) d k (pos fs f E O H f.b.length) B mem= .done v mem N:=by rcases hg with hg|hg;{refine⟨2,bG _,fun d N=>?_⟩;have l0:=sO (fs:=fs) (f:=f) (E:=E) (O:=O) (H:=H) h3 (i:=0) (x:=(⟨1,wd f+20,0,0,0,[]⟩,-1)) (by unfold Lw.last;rw[az hg];rfl);have l1:=sO (fs:=fs) (f:=f) (E:=E) (O:=O) (H:=H) h3 (i:=1) (x:=(⟨10,0,wd f+20,0,0,[]⟩,-1)) (by unfold Lw.last;rw[az hg];rfl);rw[nX]at l0 l1;have s0:Rl.aQ cs k (pos fs f E O H f.b.length) B mem= .next (pos fs f E O H f.b.length+1) (B.set (wd f+20).toNat 0) mem:=by{unfold Rl.aQ Rl.line;rw[hcs,←Nat.add_zero (pos fs f E O H f.b.length),l0];rfl};have s1:Rl.aQ cs k (pos fs f E O H f.b.length+1) (B.set (wd f+20).toNat 0) mem= .qP v:=by{unfold Rl.aQ Rl.line;rw[hcs,l1];show Rl.Sr.qP ((B.set (wd f+20).toNat 0).getD (wd f+20).toNat 0)=_;rw[Mm.iq (by omega),az rfl,h0 hg]};rw[show N+2=N+1+1 by omega,QR s0,PG s1]};refine⟨1,by omega,fun d N=>?_⟩;have l0:=sO (fs:=fs) (f:=f) (E:=E) (O:=O) (H:=H) h3 (i:=0) (x:=(⟨10,0,wd f,0,0,[]⟩,-1)) (by unfold Lw.last;rw[ax (by omega)];rfl);rw[nX]at l0;have s0:Rl.aQ cs k (pos fs f E O H f.b.length) B mem= .qP v:=by{unfold Rl.aQ Rl.line;rw[hcs,←Nat.add_zero (pos fs f E O H f.b.length),l0];show Rl.Sr.qP (B.getD (wd f).toNat 0)=_;rw[h1 hg]};exact PG s0
theorem vR (hcs:cs.getD k []=func fs f E O H)(h3:(raw fs f E O H).length<=300)(ha:0<=f.a/\f.a<=3)(hl:0<=f.l/\f.l<=3){args:List Int}(hlen:(args.length:Int)=f.a):∀i,i<=f.l.toNat->iI cs k 0 (Rl.kI args) mem i i (Rl.kI args) mem
 |0,_=>iI.refl _ _ _ _ _
 | i + 1,hi=>by
   refine(vR hcs h3 ha hl hlen i (by omega)).andThen (iI.one ?_)
   unfold Rl.aQ Rl.line
   rw[hcs,Kr h3 (by omega)]
   show Rl.Sr.next (i+1) ((Rl.kI args).set (f.a+(i:Int)).toNat 0) mem=_
   have e:(Rl.kI args).set (f.a+(i:Int)).toNat 0=Rl.kI args:=by
     have aqG:(Rl.kI args).length=40:=by unfold Rl.kI;rw[jw,Zd];omega
     apply List.ext_getElem?
     intro j
     rw[List.getElem?_set]
     split
     · rename_i hj
       subst hj
       rw[az (by omega)]
       unfold Rl.kI
       rw[qU (by omega),List.getElem?_replicate,az (by omega)]
     · rfl
   rw[e]
theorem NE(hl:0<=f.l/\f.l<=3)(hlen:args.length<=3):Rel [] (Mn.iZ f args) (Rl.kI args):=by refine⟨by unfold Rl.kI;rw[jw,Zd];omega,fun i hi=>?_,fun j hj=>by simp at hj⟩;unfold Mn.iZ at hi ⊢;unfold Rl.kI;rw[jw,Zd]at hi;rw[ah,ah];by_cases h:i<args.length;{rw[uF h,uF h]};rw[qU (by omega),qU (by omega),List.getElem?_replicate,List.getElem?_replicate,az (by omega),az (by omega)]
end Sm
namespace Sm
open Mn (Rs words)
open Lw (wd dN raw dE p9 func)
open Hg (arg)
variable {cs : List (List Ln)} {N d k at' : Nat} {B mem : List Int} {fs : List Fn} {f : Fn} {E O H : List Int}
def Sim (fs:List Fn)(cs:List (List Ln))(f:Fn)(E O H:List Int)(k at':Nat)(loc mem B:List Int):Mn.Sr->Prop
 | .inl (a,p,l,m)=>∃u B',u<=8/\iI cs k (pos fs f E O H at') B mem u (pos fs f E O H a) B' m/\Rel p l B'
 | .inr (.inl p)=>∃u,u<=8/\∀d N,R cs (N+u) d k (pos fs f E O H at') B mem= .done (Mn.gives f p) mem N
 | .inr (.inr (.inl c))=>∃u,u<=8/\∀d N,R cs (N+u) d k (pos fs f E O H at') B mem= .stop c mem N
 | .inr (.inr (.inr (q,args,rest)))=>pos fs f E O H (at'+1)=pos fs f E O H at'+1/\∃x,Rl.aQ cs k (pos fs f E O H at') B mem= .call x q args/\∀v,Rel (rest++Mn.kL (Mn.fn fs q) v) loc (B.set x v)
def Qy (fs:List Fn)(cs:List (List Ln))(f:Fn)(E O H:List Int)(k q:Nat)(mem B:List Int):Mn.Sr->Prop
 | .inl (a,p,l,m)=>q=pos fs f E O H a/\Rel p l B/\m=mem
 | .inr (.inl p)=>∃u,u<=2/\∀d N,R cs (N+u) d k q B mem= .done (Mn.gives f p) mem N
 | .inr (.inr _)=>False
theorem Qy.sim{u q:Nat}{B':List Int}{r:Mn.Sr}(h:Qy fs cs f E O H k q mem B' r)(hG:iI cs k (pos fs f E O H at') B mem u q B' mem)(hu:u<=6):Sim fs cs f E O H k at' loc mem B r:=by rcases r with⟨a,p,l,m⟩|p|c;{obtain⟨rfl,h2,rfl⟩:=h;exact⟨u,B',by omega,hG,h2⟩};{obtain⟨v,hv,h2⟩:=h;exact⟨v+u,by omega,fun d N=>by rw[←Nat.add_assoc,hG d (N+v),h2 d N]⟩};exact h.elim
theorem BO(h:0<pile.length):Mn.dO (Mn.upper pile 1)=Mn.dO pile:=by unfold Mn.dO Mn.upper;rw[Za,ah,ah,O1];congr 2;omega
theorem Bz(h:0<pile.length):Mn.upper pile 1=[Mn.dO pile]:=by
 have hl:=Mn.gK (pile:=pile) (w:=1) (by omega)
 have ht:=BO h
 match hu:Mn.upper pile 1,hl with
 |[x],_=>
  rw[hu]at ht
  rw[←ht]
  rfl
theorem vW(hA:Hg.Acc fs f E O H)(hcs:cs.getD k []=func fs f E O H)(h3:(raw fs f E O H).length<=300)(hw:0<=wd f/\wd f<=6)(hg:f.g=0\/f.g=1)(hend:aM.op f.b (f.b.length-1)=12)(har:∀t,t<f.b.length->St.opens (aM.op f.b t)=true->arg f.b t=0\/arg f.b t=1)(hat:at'<f.b.length){hh:Int}(hJ:Hg.jK f E H at' hh a)(hl:(pile.length:Int)=hh)(aqH:hh<=20)(hll:(loc.length:Int)=wd f)(hR:Rel pile loc B){L:Int×Int×Int}(hL:Lw.fG f E H at' a=L){B':List Int}(hB':B'=if L.2.2=1/\L.2.1≠wd f+(hh-1)then B.set L.2.1.toNat (Rl.bx B (wd f+(hh-1)))else B):Qy fs cs f E O H k (pos fs f E O H L.1.toNat) mem B' (Mn.jump f E H at' a pile loc mem):=by unfold Mn.jump;by_cases hlt:a.toNat<(aM.dG f.b E at' at').length;{rw[az hlt];obtain⟨t,e,tl,Yl,h0,s0,sl,⟨e1,e2,e3⟩,b1,b2⟩:=hJ.1 hlt;have htl:t<f.b.length:=by{omega};rw[Lw.sZ hlt (t:=t) e]at hL;simp only[e,aA];have aly:Hg.kK H f.b t=H.getD t 0-(if aM.op f.b t=10 then 1 else 0):=by{unfold Hg.kK;rw[az h0]};by_cases h9:aM.op f.b t=9;{rw[az h9];rw[az h9]at hL;subst hL;simp only at hB' ⊢;rw[ax (by omega)]at hB';rw[hB'];exact⟨by congr 1,hR.take _,rfl⟩};rw[ax h9];rw[ax h9]at hL;have h12:=(hA.Lh.f3 t htl e1).2.2;have hL':L=(aM.aI E t,wd f+Hg.kK H f.b t,arg f.b t):=by{rw[←hL,aly];split;{rfl};unfold Lw.bx;rw[Int.sub_zero]};subst hL';clear hL;simp only at hB' ⊢;refine⟨(Cz h12).symm,?_,rfl⟩;rcases har t htl Yl with ha|ha;{rw[ax (by omega)]at hB';rw[ha,hB'];have:Mn.upper pile (0:Int).toNat=[]:=by{unfold Mn.upper;simp};rw[this,List.append_nil];exact hR.take _};have hu:Mn.upper pile (arg f.b t).toNat=[Mn.dO pile]:=by{rw[ha];exact Bz (by omega)};rw[hu];have hbx:Rl.bx B (wd f+(hh-1))=Mn.dO pile:=by{unfold Rl.bx;rw[←hR.dO (by omega)];congr 1;omega};by_cases hc:wd f+Hg.kK H f.b t≠wd f+(hh-1);{rw[az ⟨ha,hc⟩,hbx]at hB';rw[hB',show(wd f+Hg.kK H f.b t).toNat=loc.length+(Hg.kK H f.b t).toNat by omega];exact hR.put (by omega) (by omega) _};rw[ax (fun q=>hc q.2)]at hB';rw[hB'];have e:pile.take (Hg.kK H f.b t).toNat++[Mn.dO pile]=pile:=by{have h':(Hg.kK H f.b t).toNat=pile.length-1:=by{omega};have hu1:=Bz (pile:=pile) (by omega);rw[h',←hu1];exact List.take_append_drop _ _};rw[e];exact hR};rw[ax hlt];have hge:=hJ.2 hlt;rw[Lw.vG hlt]at hL;subst hL;simp only at hB' ⊢;have hp:pos fs f E O H ((f.b.length:Int)-1).toNat=pos fs f E O H f.b.length:=by{have:=Cz (fs:=fs) (f:=f) (E:=E) (O:=O) (H:=H) hend;rw[show f.b.length-1+1=f.b.length by have:=hA.pos;omega]at this;rw[this];congr 1;omega};rw[hp];have hlB:B'.length=40:=by{rw[hB'];split;{rw[uY];exact hR.lB};exact hR.lB};refine wS hcs h3 hw hg hlB (fun h=>by unfold Mn.gives;rw[az h]) (fun h=>?_);unfold Mn.gives;rw[ax (by omega),h];show _=Mn.dO (Mn.upper pile 1);rw[BO (by omega)];have hbx:Rl.bx B (wd f+(hh-1))=Mn.dO pile:=by{unfold Rl.bx;rw[←hR.dO (by omega)];congr 1;omega};have hb0:Lw.bx f 0=wd f:=by{unfold Lw.bx;omega};rw[hb0]at hB';by_cases hc:wd f≠wd f+(hh-1);{rw[az ⟨h,hc⟩,hbx]at hB';rw[hB',Mm.iq (by rw[hR.lB];omega),az rfl]};rw[ax (fun q=>hc q.2)]at hB';rw[hB',←hbx];unfold Rl.bx;congr 1;omega
theorem KY(hR:Rel pile loc B){n:Int}(hn:0<=n)(hl:n<=pile.length):(Lw.args ((loc.length:Int)+pile.length-1) n).map (Rl.bx B)=Mn.upper pile n.toNat:=by apply List.ext_getElem?;intro i;unfold Lw.args Mn.upper;rw[List.map_map,J2,O1];by_cases hi:i<n.toNat;{rw[List.getElem?_range hi];simp only[Option.map_some,Function.comp];have h1:=hR.pi (pile.length-n.toNat+i) (by omega);rw[ah (l:=pile),ai (by omega)]at h1;rw[ai (by omega)];congr 1;unfold Rl.bx;rw[show((loc.length:Int)+pile.length-1-n+1+(i:Int)).toNat=loc.length+(pile.length-n.toNat+i)by omega];exact h1};rw[List.getElem?_eq_none (by rw[List.length_range];omega),List.getElem?_eq_none (by omega)];rfl
theorem PT(hA:Hg.Acc fs f E O H)(hcs:cs.getD k []=func fs f E O H)(h3:(raw fs f E O H).length<=300)(hf:0<=f.a/\f.a<=3/\0<=f.l/\f.l<=3/\(f.g=0\/f.g=1)/\f.b.length<=80)(hfs:∀j,j<fs.length->0<=(fs.getD j .z).a/\((fs.getD j .z).g=0\/(fs.getD j .z).g=1))(hst:St.cu f.b=true)(hend:aM.op f.b (f.b.length-1)=12)(G:Mn.Good fs f H at' pile loc mem)(hR:Rel pile loc B):Sim fs cs f E O H k at' loc mem B (Mn.step fs f E O H at' pile loc mem):=by
 have hlt:=G.lt
 have hll:=G.ll
 have hlen:=G.here
 have hH0:0<=H.getD at' 0:=by omega
 have T:=hA.typ at' hlt hH0
 have h20:=hA.dO at' hlt
 have hwd:wd f=f.a+f.l:=rfl
 have hw:0<=wd f/\wd f<=6:=by omega
 have har:∀t,t<f.b.length->St.opens (aM.op f.b t)=true->arg f.b t=0\/arg f.b t=1:=fun t ht ho=>by have hok:St.ok (aM.op f.b t) (arg f.b t)=true:=St.aZ hst ht;simp only[St.ok,au,Wd.aX]at hok;have h8:=aM.eQ.1 ho;have e1:St.least (aM.op f.b t)=0:=by{unfold St.least;rw[ax (by omega)]};have e2:St.cK (aM.op f.b t)<=1:=by{rcases h8 with h|h|h<;>rw[h]<;>decide};omega
 have JA:St.ok (aM.op f.b at') (arg f.b at')=true:=St.aZ hst hlt
 have htk:=T.take
 have hstep:Lw.step fs f E O H at'=Lw.uX fs f E O H at' (aM.op f.b at') (arg f.b at') ((loc.length:Int)+pile.length-1):=by unfold Lw.step Lw.bx;congr 1;omega
 have hat:∀(i:Nat)(x:Ln×Int)(b m:List Int),(Lw.step fs f E O H at')[i]?=some x->Rl.aQ cs k (pos fs f E O H at'+i) b m=Rl.step (p9 (dE fs f E O H) x) (pos fs f E O H at'+i) b m:=fun i x b m h=>by unfold Rl.aQ Rl.line;rw[hcs,Oe h3 hlt hH0 h]
 have hps:=Rw (fs:=fs) (f:=f) (E:=E) (O:=O) (H:=H) hH0
 have one:∀(x:Ln)(b m:List Int),Lw.step fs f E O H at'=[(x,-1)]->Rl.step x (pos fs f E O H at') B mem= .next (pos fs f E O H at'+1) b m->iI cs k (pos fs f E O H at') B mem 1 (pos fs f E O H (at'+1)) b m:=fun x b m h1 h2=>by refine iI.one ?_;have:=hat 0 (x,-1) B mem (by rw[h1];rfl);rw[Nat.add_zero,nX,h2]at this;rw[this,hps,h1];rfl
 have halt:∀(x:Ln)(c:Int),Lw.step fs f E O H at'=[(x,-1)]->Rl.step x (pos fs f E O H at') B mem= .halt c->∀d N,R cs (N+1) d k (pos fs f E O H at') B mem= .stop c mem N:=fun x c h1 h2 d N=>by refine ZV ?_;have:=hat 0 (x,-1) B mem (by rw[h1];rfl);rw[Nat.add_zero,nX,h2]at this;exact this
 obtain⟨p,hp⟩:=aF (aM.op f.b at')
 obtain⟨a,ha⟩:=aF (arg f.b at')
 have hok:St.ok p a=true:=by rw[←hp,←ha];exact JA
 simp only[St.ok,au,Wd.aX]at hok
 have ha0:0<=a:=by(have:0<=St.least p:=by unfold St.least;split<;>omega);omega
 rw[hp,ha]at hstep htk
 have nx:p≠11->p≠12->p≠13->p≠15->p≠19->at'+1<f.b.length:=by have:=T.next;rw[hp]at this;exact fun h1 h2 h3 h4 h5=>(this h1 h2 h3 h4 h5).1
 have hbt:0<pile.length->Rl.bx B ((loc.length:Int)+pile.length-1)=Mn.dO pile:=fun h=>by unfold Rl.bx;rw[←hR.dO h];congr 1;omega
 have hbu:1<pile.length->Rl.bx B ((loc.length:Int)+pile.length-1-1)=Mn.under pile:=fun h=>by unfold Rl.bx;rw[←hR.under h];congr 1;omega
 have hpe:∀j:Nat,j<f.b.length->0<=aM.aI E j->pos fs f E O H (aM.aI E j).toNat=pos fs f E O H ((aM.aI E j).toNat+1):=fun j hj h=>(Cz (hA.Lh.f3 j hj h).2.2).symm
 unfold Mn.step
 simp only[hp,ha]
 by_cases h1:p=1
 · rw[az h1];subst h1;refine⟨1,_,by omega,one ⟨1,(loc.length:Int)+pile.length-1+1,0,0,a,[]⟩ _ _ hstep rfl,?_⟩;have:=hR.put (q:=pile.length) (bG _) (by omega) a;rw[List.take_length]at this;rw[show((loc.length:Int)+pile.length-1+1).toNat=loc.length+pile.length by omega];exact this
 rw[ax h1]
 by_cases h2:p=2
 · rw[az h2];subst h2;have hloc:=T.loc (.inl hp);rw[ha]at hloc;refine⟨1,_,by omega,one ⟨2,(loc.length:Int)+pile.length-1+1,a,0,0,[]⟩ _ _ hstep rfl,?_⟩;have:=hR.put (q:=pile.length) (bG _) (by omega) (loc.getD a.toNat 0);rw[List.take_length]at this;rw[show((loc.length:Int)+pile.length-1+1).toNat=loc.length+pile.length by omega];show Rel _ _ (B.set _ (B.getD a.toNat 0));rw[hR.lo _ (by omega)];exact this
 rw[ax h2]
 have e34:p=3\/p=4->0<pile.length/\a.toNat<loc.length/\iI cs k (pos fs f E O H at') B mem 1 (pos fs f E O H (at'+1)) (B.set a.toNat (Mn.dO pile)) mem:=fun h=>by have hloc:=T.loc (.inr (by rw[hp];exact h));rw[ha]at hloc;(have k1:Hg.tk fs p a=1:=by rcases h with rfl|rfl<;>rfl);have h0:0<pile.length:=by{omega};refine⟨h0,by omega,?_⟩;have:=one ⟨2,a,(loc.length:Int)+pile.length-1,0,0,[]⟩ (B.set a.toNat (Rl.bx B ((loc.length:Int)+pile.length-1))) mem (by rw[hstep];unfold Lw.uX;rw[ax (by omega),ax (by omega),az h]) rfl;rw[hbt h0]at this;exact this
 by_cases h3':p=3
 · rw[az h3'];obtain⟨q1,q2,q3⟩:=e34 (.inl h3');exact⟨1,_,by omega,q3,(hR.Rh q2 (by omega) _).take _⟩
 rw[ax h3']
 by_cases h4:p=4
 · rw[az h4];obtain⟨q1,q2,q3⟩:=e34 (.inr h4);exact⟨1,_,by omega,q3,hR.Rh q2 (by omega) _⟩
 rw[ax h4]
 by_cases h5:p=5
 · rw[az h5];subst h5;have k1:Hg.tk fs 5 a=2:=rfl;have b1:=hbu (by omega);have b2:=hbt (by omega);have hs:Lw.step fs f E O H at'=[(⟨3,(loc.length:Int)+pile.length-1-1,(loc.length:Int)+pile.length-1-1,(loc.length:Int)+pile.length-1,a,[]⟩,-1)]:=hstep;by_cases hc:Wd.dc a (Mn.under pile) (Mn.dO pile)=0;{rw[az hc];refine⟨1,_,by omega,one _ (B.set ((loc.length:Int)+pile.length-1-1).toNat (Wd.dv a (Mn.under pile) (Mn.dO pile))) _ hs ?_,?_⟩;{unfold Rl.step;simp only[b1,b2];rw[ax (by decide),ax (by decide),az trivial,az hc]};rw[show((loc.length:Int)+pile.length-1-1).toNat=loc.length+(pile.length-2)by omega];exact hR.put (by omega) (by omega) _};rw[ax hc];refine⟨1,by omega,halt _ _ hs ?_⟩;unfold Rl.step;simp only[b1,b2];rw[ax (by decide),ax (by decide),az trivial,ax hc]
 rw[ax h5]
 by_cases h6:p=6
 · rw[az h6];subst h6;have k1:Hg.tk fs 6 a=1:=rfl;have b2:=hbt (by omega);have hs:Lw.step fs f E O H at'=[(⟨4,(loc.length:Int)+pile.length-1,(loc.length:Int)+pile.length-1,0,0,[]⟩,-1)]:=hstep;refine⟨1,_,by omega,one _ (B.set ((loc.length:Int)+pile.length-1).toNat (if Mn.dO pile=0 then 1 else 0)) _ hs ?_,?_⟩;{show Rl.Sr.next _ (B.set _ (if Rl.bx B _=0 then 1 else 0)) _=_;simp only[b2]};rw[show((loc.length:Int)+pile.length-1).toNat=loc.length+(pile.length-1)by omega];exact hR.put (by omega) (by omega) _
 rw[ax h6]
 by_cases h7:p=7
 · rw[az h7];subst h7;have hs:Lw.step fs f E O H at'=[]:=hstep;rw[hs]at hps;refine⟨0,B,by omega,?_,hR.take _⟩;rw[hps];exact iI.refl _ _ _ _ _
 rw[ax h7]
 by_cases h10:p=10
 · rw[az h10];subst h10;have k1:Hg.tk fs 10 a=1:=rfl;have b2:=hbt (by omega);obtain⟨z,hz⟩:∃z:Int,(if 0<=aM.aI O at' then aM.aI O at'+1 else aM.aI E at')=z:=⟨_,rfl⟩;have hs:Lw.step fs f E O H at'=[(⟨4,(loc.length:Int)+pile.length-1,(loc.length:Int)+pile.length-1,0,0,[]⟩,-1),(⟨6,0,(loc.length:Int)+pile.length-1,0,0,[]⟩,z)]:=by{rw[←hz];exact hstep};have hi:=T.iff hp;have hz':0<=z/\z.toNat<f.b.length/\pos fs f E O H z.toNat=pos fs f E O H ((if 0<=aM.aI O at' then aM.aI O at' else aM.aI E at').toNat+1):=by{rcases hi with⟨i1,i2,-⟩|⟨i1,i2,i3,-⟩;{rw[az i1]at hz ⊢;rw[←hz];exact⟨by omega,by omega,by congr 1;omega⟩};rw[ax (by omega)]at hz ⊢;rw[←hz];exact⟨i2,by omega,hpe at' hlt i2⟩};have s0:=hat 0 _ B mem (by rw[hs];rfl);obtain⟨v,hv⟩:∃v:Int,(if Mn.dO pile=0 then(1:Int)else 0)=v:=⟨_,rfl⟩;have g0:iI cs k (pos fs f E O H at') B mem 1 (pos fs f E O H at'+1) (B.set (loc.length+(pile.length-1)) v) mem:=by{refine iI.one ?_;rw[Nat.add_zero,nX]at s0;rw[s0];show Rl.Sr.next _ (B.set _ (if Rl.bx B _=0 then 1 else 0)) _=_;simp only[b2];rw[hv,show((loc.length:Int)+pile.length-1).toNat=loc.length+(pile.length-1)by omega]};have s1:=hat 1 _ (B.set (loc.length+(pile.length-1)) v) mem (by rw[hs];rfl);have hzn:z=((z.toNat:Nat):Int):=by{omega};rw[hzn,qR hz'.2.1]at s1;have hb1:Rl.bx (B.set (loc.length+(pile.length-1)) v) ((loc.length:Int)+pile.length-1)=v:=by{unfold Rl.bx;rw[show((loc.length:Int)+pile.length-1).toNat=loc.length+(pile.length-1)by omega,Mm.iq (by rw[hR.lB];omega),az rfl]};have s2:Rl.aQ cs k (pos fs f E O H at'+1) (B.set (loc.length+(pile.length-1)) v) mem= .next (if v=0 then pos fs f E O H at'+1+1 else pos fs f E O H z.toNat) (B.set (loc.length+(pile.length-1)) v) mem:=by{rw[s1];show Rl.Sr.next (if Rl.bx _ _=0 then _ else _) _ _=_;simp only[hb1,aA]};have g1:=g0.andThen (iI.one s2);have hrel:Rel (Mn.less pile 1) loc (B.set (loc.length+(pile.length-1)) v):=(hR.take _).spare (by rw[oQ];omega) _;have ab2:pos fs f E O H (at'+1)=pos fs f E O H at'+1+1:=by{rw[hps,hs];rfl};by_cases hc:Mn.dO pile=0;{rw[az hc];rw[az hc]at hv;rw[ax (by omega),hz'.2.2]at g1;exact⟨2,_,by omega,g1,hrel⟩};rw[ax hc];rw[ax hc]at hv;rw[az hv.symm,←ab2]at g1;exact⟨2,_,by omega,g1,hrel⟩
 rw[ax h10]
 by_cases h11:p=11
 · rw[az h11];subst h11;obtain⟨e1,e2,-⟩:=T.Ny hp;have hs:Lw.step fs f E O H at'=[(⟨5,0,0,0,0,[]⟩,aM.aI E at')]:=hstep;have s0:=hat 0 _ B mem (by rw[hs];rfl);rw[Nat.add_zero,show aM.aI E at'=(((aM.aI E at').toNat:Nat):Int)by omega,qR (by omega)]at s0;refine⟨1,B,by omega,?_,hR⟩;rw[←hpe at' hlt e1];refine iI.one ?_;rw[s0];show Rl.Sr.next (Int.toNat _) _ _=_;rw[aA]
 rw[ax h11]
 by_cases h12:p=12
 · rw [az h12]
   subst h12
   have hq:=Cz (fs:=fs) (f:=f) (E:=E) (O:=O) (H:=H) hp
   rcases T.last hp with⟨e1,e2⟩|⟨e1,e2⟩
   · rw[az e1]
     obtain⟨u,u2,hu⟩:=wS (E:=E) (O:=O) (H:=H) (mem:=mem) hcs h3 hw hf.2.2.2.2.1 hR.lB (v:=Mn.gives f pile) (fun h=>by unfold Mn.gives;rw[az h]) (fun h=>by
      unfold Mn.gives
      rw[ax (by omega),←hR.dO (by omega)]
      congr 1
      omega)
     refine⟨u,by omega,?_⟩
     rw[←hq,e1]
     exact hu
   · rw[ax (by omega)];refine⟨0,B,by omega,?_,hR⟩;rw[hq];exact iI.refl _ _ _ _ _
 rw[ax h12]
 have Zx:∀dp:Int,(p=13\/p=15)->(if p=15 then 99 else a)=dp->Hg.jK f E H at' (H.getD at' 0) dp->Sim fs cs f E O H k at' loc mem B (Mn.jump f E H at' dp pile loc mem):=fun dp Yi hdp hJ=>by have hs:Lw.step fs f E O H at'=(if(Lw.fG f E H at' dp).2.2=1/\(Lw.fG f E H at' dp).2.1≠(loc.length:Int)+pile.length-1 then[(⟨2,(Lw.fG f E H at' dp).2.1,(loc.length:Int)+pile.length-1,0,0,[]⟩,-1)]else[])++[(⟨5,0,0,0,0,[]⟩,(Lw.fG f E H at' dp).1)]:=by{rw[hstep,←hdp];rcases Yi with rfl|rfl<;>rfl};have hgl:=Lw.nI hA hlt dp;have hL:=vW (mem:=mem) hA hcs h3 hw hf.2.2.2.2.1 hend har hlt hJ hlen h20 (by omega) hR rfl (B':=if(Lw.fG f E H at' dp).2.2=1/\(Lw.fG f E H at' dp).2.1≠wd f+(H.getD at' 0-1)then B.set (Lw.fG f E H at' dp).2.1.toNat (Rl.bx B (wd f+(H.getD at' 0-1)))else B) rfl;have ew:wd f+(H.getD at' 0-1)=(loc.length:Int)+pile.length-1:=by{omega};rw[ew]at hL;generalize Lw.fG f E H at' dp=L at hs hgl hL;by_cases hc:L.2.2=1/\L.2.1≠(loc.length:Int)+pile.length-1;{rw[az hc]at hs hL;have s0:=hat 0 _ B mem (by rw[hs];rfl);rw[Nat.add_zero,nX]at s0;have s1:=hat 1 _ (B.set L.2.1.toNat (Rl.bx B ((loc.length:Int)+pile.length-1))) mem (by rw[hs];rfl);rw[show L.1=((L.1.toNat:Nat):Int)by omega,qR (by omega)]at s1;refine hL.sim ((iI.one (s0.trans rfl)).andThen (iI.one (s1.trans ?_))) (by omega);show Rl.Sr.next (Int.toNat _) _ _=_;rw[aA]};rw[ax hc]at hs hL;have s0:=hat 0 _ B mem (by rw[hs];rfl);rw[Nat.add_zero,show L.1=((L.1.toNat:Nat):Int)by omega,qR (by omega)]at s0;refine hL.sim (iI.one (s0.trans ?_)) (by omega);show Rl.Sr.next (Int.toNat _) _ _=_;rw[aA]
 by_cases Av:p=13
 · rw[az Av];have hj:=T.jump (hp.trans Av);rw[ha]at hj;exact Zx a (.inl Av) (by rw[ax (by omega)]) hj
 rw[ax Av]
 by_cases Bc:p=14
 · rw[az Bc];subst Bc;have hj:=T.jif hp;rw[ha]at hj;have k1:Hg.tk fs 14 a=1:=rfl;have b2:=hbt (by omega);have hnx:=nx (by omega) (by omega) (by omega) (by omega) (by omega);have hs:Lw.step fs f E O H at'=if(Lw.fG f E H at' a).2.2=1/\(Lw.fG f E H at' a).2.1≠(loc.length:Int)+pile.length-1-1 then[(⟨4,(loc.length:Int)+pile.length-1,(loc.length:Int)+pile.length-1,0,0,[]⟩,-1),(⟨6,0,(loc.length:Int)+pile.length-1,0,0,[]⟩,(at':Int)+1),(⟨2,(Lw.fG f E H at' a).2.1,(loc.length:Int)+pile.length-1-1,0,0,[]⟩,-1),(⟨5,0,0,0,0,[]⟩,(Lw.fG f E H at' a).1)]else[(⟨6,0,(loc.length:Int)+pile.length-1,0,0,[]⟩,(Lw.fG f E H at' a).1)]:=hstep;have hgl:=Lw.nI hA hlt a;have hJL:=fun(b:List Int) (hb:Rel (Mn.less pile 1) loc b)=>vW (mem:=mem) hA hcs h3 hw hf.2.2.2.2.1 hend har hlt hj (by rw[Mn.gP];omega) (by omega) (by omega) hb rfl (B':=if(Lw.fG f E H at' a).2.2=1/\(Lw.fG f E H at' a).2.1≠wd f+(H.getD at' 0-1-1)then b.set (Lw.fG f E H at' a).2.1.toNat (Rl.bx b (wd f+(H.getD at' 0-1-1)))else b) rfl;have ew:wd f+(H.getD at' 0-1-1)=(loc.length:Int)+pile.length-1-1:=by{omega};rw[ew]at hJL;generalize Lw.fG f E H at' a=L at hs hgl hJL;by_cases hc:L.2.2=1/\L.2.1≠(loc.length:Int)+pile.length-1-1;{rw[az hc]at hs;have s0:=hat 0 _ B mem (by rw[hs];rfl);obtain⟨v,hv⟩:∃v:Int,(if Mn.dO pile=0 then(1:Int)else 0)=v:=⟨_,rfl⟩;have g0:iI cs k (pos fs f E O H at') B mem 1 (pos fs f E O H at'+1) (B.set (loc.length+(pile.length-1)) v) mem:=by{refine iI.one ?_;rw[Nat.add_zero,nX]at s0;rw[s0];show Rl.Sr.next _ (B.set _ (if Rl.bx B _=0 then 1 else 0)) _=_;simp only[b2];rw[hv,show((loc.length:Int)+pile.length-1).toNat=loc.length+(pile.length-1)by omega]};have s1:=hat 1 _ (B.set (loc.length+(pile.length-1)) v) mem (by rw[hs];rfl);rw[show(at':Int)+1=((at'+1:Nat):Int)by omega,qR hnx]at s1;have hb1:Rl.bx (B.set (loc.length+(pile.length-1)) v) ((loc.length:Int)+pile.length-1)=v:=by{unfold Rl.bx;rw[show((loc.length:Int)+pile.length-1).toNat=loc.length+(pile.length-1)by omega,Mm.iq (by rw[hR.lB];omega),az rfl]};have s2:Rl.aQ cs k (pos fs f E O H at'+1) (B.set (loc.length+(pile.length-1)) v) mem= .next (if v=0 then pos fs f E O H at'+1+1 else pos fs f E O H (at'+1)) (B.set (loc.length+(pile.length-1)) v) mem:=by{rw[s1];show Rl.Sr.next (if Rl.bx _ _=0 then _ else _) _ _=_;simp only[hb1,aA]};have g1:=g0.andThen (iI.one s2);have hrel:Rel (Mn.less pile 1) loc (B.set (loc.length+(pile.length-1)) v):=(hR.take _).spare (by rw[oQ];omega) _;by_cases ht:Mn.dO pile=0;{rw[az ht];rw[az ht]at hv;rw[ax (by omega)]at g1;exact⟨2,_,by omega,g1,hrel⟩};rw[ax ht];rw[ax ht]at hv;rw[az hv.symm]at g1;have s3:=hat 2 _ (B.set (loc.length+(pile.length-1)) v) mem (by rw[hs];rfl);rw[nX]at s3;have hL:=hJL _ hrel;rw[az hc]at hL;have s4:=hat 3 _ ((B.set (loc.length+(pile.length-1)) v).set L.2.1.toNat (Rl.bx (B.set (loc.length+(pile.length-1)) v) ((loc.length:Int)+pile.length-1-1))) mem (by rw[hs];rfl);rw[show L.1=((L.1.toNat:Nat):Int)by omega,qR (by omega)]at s4;refine hL.sim ((g1.andThen (iI.one (s3.trans rfl))).andThen (iI.one (s4.trans ?_))) (by omega);show Rl.Sr.next (Int.toNat _) _ _=_;rw[aA]};rw[ax hc]at hs;have s0:=hat 0 _ B mem (by rw[hs];rfl);rw[Nat.add_zero,show L.1=((L.1.toNat:Nat):Int)by omega,qR (by omega)]at s0;have s1:Rl.aQ cs k (pos fs f E O H at') B mem= .next (if Mn.dO pile=0 then pos fs f E O H at'+1 else pos fs f E O H L.1.toNat) B mem:=by{rw[s0];show Rl.Sr.next (if Rl.bx _ _=0 then _ else _) _ _=_;simp only[b2,aA]};have ab2:pos fs f E O H (at'+1)=pos fs f E O H at'+1:=by{rw[hps,hs];rfl};by_cases ht:Mn.dO pile=0;{rw[az ht];rw[az ht,←ab2]at s1;exact⟨1,_,by omega,iI.one s1,hR.take _⟩};rw[ax ht];rw[ax ht]at s1;have hL:=hJL _ (hR.take _);rw[ax hc]at hL;exact hL.sim (iI.one s1) (by omega)
 rw[ax Bc]
 by_cases uO:p=15
 · rw[az uO];have hal:=Lw.pG f.b E at' at';have hno:¬(99:Int).toNat<(aM.dG f.b E at' at').length:=by{show¬99<_;omega};have:=Zx 99 (.inr uO) (by rw[az uO]) ⟨fun h=>eD h hno,fun _=>T.ret (hp.trans uO)⟩;unfold Mn.jump at this;rw[ax hno]at this;exact this
 rw[ax uO]
 by_cases h16:p=16
 · rw[az h16];subst h16;have hcl:=T.call hp;rw[ha]at hcl;have hg:=hfs a.toNat (by omega);have k1:Hg.tk fs 16 a=(fs.getD a.toNat .z).a:=rfl;obtain⟨q,hq⟩:=aF (fs.getD a.toNat .z);have hs:Lw.step fs f E O H at'=[(⟨7,if q.g=1 then(loc.length:Int)+pile.length-1-q.a+1 else wd f+20,0,0,a,Lw.args ((loc.length:Int)+pile.length-1) q.a⟩,-1)]:=by{rw[←hq];exact hstep};have s0:=hat 0 _ B mem (by rw[hs];rfl);rw[Nat.add_zero,nX]at s0;rw[hq]at hg k1 ⊢;refine⟨by rw[hps,hs];rfl,(if q.g=1 then(loc.length:Int)+pile.length-1-q.a+1 else wd f+20).toNat,s0.trans ?_,fun v=>?_⟩;{show Rl.Sr.call (if q.g=1 then(loc.length:Int)+pile.length-1-q.a+1 else wd f+20).toNat a.toNat _=_;rw[KY hR hg.1 (by omega)]};have hfq:Mn.fn fs a.toNat=q:=hq;rw[hfq];unfold Mn.kL Mn.less;by_cases h1:q.g=1;{rw[az h1,az h1,show((loc.length:Int)+pile.length-1-q.a+1).toNat=loc.length+(pile.length-q.a.toNat)by omega];exact hR.put (by omega) (by omega) _};rw[ax h1,ax h1,List.append_nil];exact(hR.take _).spare (by rw[oQ];omega) _
 rw[ax h16]
 by_cases Dy:p=17
 · rw[az Dy];subst Dy;have k1:Hg.tk fs 17 a=1:=rfl;have b2:=hbt (by omega);have hs:Lw.step fs f E O H at'=[(⟨8,(loc.length:Int)+pile.length-1,(loc.length:Int)+pile.length-1,0,a,[]⟩,-1)]:=hstep;by_cases hc:Mm.there (Mn.dO pile) a=true;{rw[az hc];refine⟨1,_,by omega,one _ (B.set ((loc.length:Int)+pile.length-1).toNat (Mm.jS mem (Mn.dO pile+a).toNat 4)) _ hs ?_,?_⟩;{unfold Rl.step;simp only[b2];rw[ax (by decide),ax (by decide),ax (by decide),ax (by decide),ax (by decide),ax (by decide),ax (by decide),az trivial,az hc]};rw[show((loc.length:Int)+pile.length-1).toNat=loc.length+(pile.length-1)by omega];exact hR.put (by omega) (by omega) _};rw[ax hc];refine⟨1,by omega,halt _ _ hs ?_⟩;unfold Rl.step;simp only[b2];rw[ax (by decide),ax (by decide),ax (by decide),ax (by decide),ax (by decide),ax (by decide),ax (by decide),az trivial,ax hc]
 rw[ax Dy]
 by_cases h18:p=18
 · rw[az h18];subst h18;have k1:Hg.tk fs 18 a=2:=rfl;have b1:=hbu (by omega);have b2:=hbt (by omega);have hs:Lw.step fs f E O H at'=[(⟨9,0,(loc.length:Int)+pile.length-1-1,(loc.length:Int)+pile.length-1,a,[]⟩,-1)]:=hstep;by_cases hc:Mm.there (Mn.under pile) a=true;{rw[az hc];refine⟨1,B,by omega,one _ B _ hs ?_,hR.take _⟩;unfold Rl.step;simp only[b1,b2];rw[ax (by decide),ax (by decide),ax (by decide),ax (by decide),ax (by decide),ax (by decide),ax (by decide),ax (by decide),az trivial,az hc]};rw[ax hc];refine⟨1,by omega,halt _ _ hs ?_⟩;unfold Rl.step;simp only[b1];rw[ax (by decide),ax (by decide),ax (by decide),ax (by decide),ax (by decide),ax (by decide),ax (by decide),ax (by decide),az trivial,ax hc]
 rw[ax h18]
 by_cases h19:p=19
 · rw[az h19];subst h19;exact⟨1,by omega,halt ⟨11,0,0,0,0,[]⟩ _ hstep rfl⟩
 rw[ax h19]
 have hs:Lw.step fs f E O H at'=[]:=by rw[hstep];unfold Lw.uX;rw[ax h1,ax h2,ax (by omega),ax h5,ax h6,ax h10,ax h11,ax (by omega),ax Bc,ax h16,ax Dy,ax h18,ax h19]
 rw[hs]at hps
 refine⟨0,B,by omega,?_,hR⟩
 rw[hps]
 exact iI.refl _ _ _ _ _
end Sm
end Go.Proofs.YthkjdjmjdlimnaaGreat
