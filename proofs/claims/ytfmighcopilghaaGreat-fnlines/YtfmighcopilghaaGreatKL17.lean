/-
  Own texts for a law: Low0 Low1 Low2 Low3 Low4 Low5 Low6 Low7 Shp0
-/
import Derived.Test.YtfmighcopilghaaGreatKL12
import Derived.Test.YtfmighcopilghaaGreatKL16
import Derived.KernelRfl
namespace Go.Proofs.YtfmighcopilghaaGreat
open Go.RowKit Go.Shelf
set_option linter.all false
set_option maxRecDepth 100000
set_option maxHeartbeats 16000000
namespace Lw
open Hg (arg)
def wd (f:Fn):Int:=f.a+f.l
def bx (f:Fn)(h:Int):Int:=wd f+h
def dE (f:Fn)(E H:List Int)(at':Nat)(dp:Int):Int×Int×Int:=
 if dp.toNat<(aI.bQ f.b E at' at').length then
   let t:=((aI.bQ f.b E at' at').getD dp.toNat (-1)).toNat
   if aI.op f.b t=9 then((t:Int)+1,0,0)else if aI.op f.b t=10 then(aI.aU E t,bx f (H.getD t 0-1),arg f.b t)else(aI.aU E t,bx f (H.getD t 0),arg f.b t)
 else((f.b.length:Int)-1,bx f 0,f.g)
def args (t:Int)(n:Int):List Int:=(List.range n.toNat).map fun(i:Nat)=>t-n+1+(i:Int)
def BZ (fs:List Fn)(f:Fn)(E O H:List Int)(at':Nat)(p a t:Int):List (Ln×Int):=
 if p=1 then[(⟨1,t+1,0,0,a,[]⟩,-1)]
 else if p=2 then[(⟨2,t+1,a,0,0,[]⟩,-1)]
 else if p=3\/p=4 then[(⟨2,a,t,0,0,[]⟩,-1)]
 else if p=5 then[(⟨3,t-1,t-1,t,a,[]⟩,-1)]
 else if p=6 then[(⟨4,t,t,0,0,[]⟩,-1)]
 else if p=10 then[(⟨4,t,t,0,0,[]⟩,-1),(⟨6,0,t,0,0,[]⟩,if 0<=aI.aU O at' then aI.aU O at'+1 else aI.aU E at')]
 else if p=11 then[(⟨5,0,0,0,0,[]⟩,aI.aU E at')]
 else if p=13\/p=15 then
   let L:=dE f E H at' (if p=15 then 99 else a)
   (if L.2.2=1/\L.2.1≠t then[(⟨2,L.2.1,t,0,0,[]⟩,-1)]else[])++[(⟨5,0,0,0,0,[]⟩,L.1)]
 else if p=14 then
   let L:=dE f E H at' a
   if L.2.2=1/\L.2.1≠t-1 then[(⟨4,t,t,0,0,[]⟩,-1),(⟨6,0,t,0,0,[]⟩,(at':Int)+1),(⟨2,L.2.1,t-1,0,0,[]⟩,-1),(⟨5,0,0,0,0,[]⟩,L.1)]
   else[(⟨6,0,t,0,0,[]⟩,L.1)]
 else if p=16 then
   let g:=fs.getD a.toNat .z
   [(⟨7,if g.g=1 then t-g.a+1 else wd f+20,0,0,a,args t g.a⟩,-1)]
 else if p=17 then[(⟨8,t,t,0,a,[]⟩,-1)]
 else if p=18 then[(⟨9,0,t-1,t,a,[]⟩,-1)]
 else if p=19 then[(⟨11,0,0,0,0,[]⟩,-1)]
 else[]
def step (fs:List Fn)(f:Fn)(E O H:List Int)(at':Nat):List (Ln×Int):=BZ fs f E O H at' (aI.op f.b at') (arg f.b at') (bx f (H.getD at' 0-1))
def first(f:Fn):List (Ln×Int):=(List.range f.l.toNat).map fun(i:Nat)=>(⟨1,f.a+(i:Int),0,0,0,[]⟩,-1)
def dK (fs:List Fn)(f:Fn)(E O H:List Int):Nat->List (Ln×Int)×List Int
 |0=>(first f,[])
 |i+1=>((dK fs f E O H i).1++(if 0<=H.getD i 0 then step fs f E O H i else[]),(dK fs f E O H i).2++[((dK fs f E O H i).1.length:Int)])
def last (f:Fn):List (Ln×Int):=if f.g=0 then[(⟨1,wd f+20,0,0,0,[]⟩,-1),(⟨10,0,wd f+20,0,0,[]⟩,-1)]else[(⟨10,0,wd f,0,0,[]⟩,-1)]
def raw (fs:List Fn)(f:Fn)(E O H:List Int):List (Ln×Int):=(dK fs f E O H f.b.length).1++last f
def jR (fs:List Fn)(f:Fn)(E O H:List Int):List Int:=(dK fs f E O H f.b.length).2
def yN (st:List Int)(x:Ln×Int):Ln:=if 0<=x.2 then{x.1 with n:=st.getD x.2.toNat 0}else x.1
def func (fs:List Fn)(f:Fn)(E O H:List Int):List Ln:=if(raw fs f E O H).length<=300 then(raw fs f E O H).map (yN (jR fs f E O H))else[]
def dX (fs:List Fn)(d:ByteArray)(k:Int):List Ln:=
 if Hg.valid fs d=true/\0<=k/\k<fs.length then func fs (Mn.fn fs k.toNat) (aI.ends (Mn.fn fs k.toNat).b) (aI.aT (Mn.fn fs k.toNat).b) (Mn.rT fs k.toNat)else[]
theorem zt {α:Type}{q:Prop}[Decidable q]{x y:List α}{n:Nat}(hx:x.length<=n)(hy:y.length<=n):(if q then x else y).length<=n:=by split<;>assumption
theorem yh (fs:List Fn)(f:Fn)(E O H:List Int)(at':Nat):(step fs f E O H at').length<=4:=by unfold step BZ;simp only;(repeat' (refine zt ?_ ?_));(all_goals first|(simp;done)|skip);all_goals rw[List.length_append];(have h1:∀(q:Prop)[Decidable q](x:Ln×Int),(if q then[x]else[]).length<=1:=fun q _ x=>by split<;>simp);exact Nat.le_trans (Nat.add_le_add_right (h1 _ _) _) (by simp)
theorem lu (fs:List Fn)(f:Fn)(E O H:List Int):∀i,(dK fs f E O H i).1.length<=f.l.toNat+4*i/\(dK fs f E O H i).2.length=i
 |0=>⟨by simp[dK,first],rfl⟩
 | i +1=>by
   have ih:=lu fs f E O H i
   have hs:=yh fs f E O H i
   refine⟨?_,?_⟩
   · unfold dK
     simp only[List.length_append]
     split
     · omega
     · simp;omega
   · unfold dK
     simp only[List.length_append,List.length_singleton,ih.2]
end Lw
structure LX where
 B:Nat
 ha:Option Addr
 hc:Nat
 ea:Option Addr
 ec:Nat
 ba:Option Addr
 bc:Nat
 fs:List Fn
 f:Fn
 E:List Int
 O:List Int
 H:List Int
def LX.dZ (c:LX)(v vg:Value):List Value:=
 [v,vg, .int .i64 (Lw.wd c.f), .slice c.ha c.f.b.length c.hc, .slice c.ea c.f.b.length c.ec, .slice c.ba c.f.b.length c.bc, .int .i64 c.f.g]
structure TX (c:LX)(W0:World):Prop where
 lt:W0.heap.size<=c.B
 hH:IL W0 c.ha c.f.b.length c.H
 hE:IL W0 c.ea c.f.b.length c.E
 hS:SL W0 c.ba c.f.b.length c.f.b
 acc:Hg.Acc c.fs c.f c.E c.O c.H
 ok:0<=c.f.a/\c.f.a<=3/\0<=c.f.l/\c.f.l<=3/\(c.f.g=0\/c.f.g=1)/\c.f.b.length<=80
 all:St.bB c.f.b=true
 val:Mn.JI c.fs
structure MK (c:LX)(W0 W:World)(v vg:Value)(out:List (Ln×Int))(P:Nat->Prop):Prop where
 dR:Below W0.heap.size W0 W
 box:bU W c.B (c.dZ v vg)
 sz:c.B+1<=W.heap.size
 row:∃vs:List Lv,W.ownsRow (c.B+1) 29 6 v out.length (bO vs)/\vs.length=out.length/\eZ W (c.B+1) out.length vs (out.map (·.1))/\∀j,j<out.length->∀g,(vs.getD j dO).2.2.2.2.2.ownBlock=some g->vg.ownBlock≠some g/\P g
 rH:OI W (c.B+1) vg (out.map (·.2))
structure FX (c:LX)(v vg v' je:Value)(W W':World):Prop where
 os:W'.os=W.os
 tape:W'.tape=W.tape
 out:W'.output=W.output
 size:W.heap.size<=W'.heap.size
 blk:∀i,i<W.heap.size->i≠c.B->v.ownBlock≠some i->vg.ownBlock≠some i->W'.heap[i]?=W.heap[i]?
 v1:v'.ownBlock=v.ownBlock\/∃g,v'.ownBlock=some g/\W.heap.size<=g
 g1:je.ownBlock=vg.ownBlock\/∃g,je.ownBlock=some g/\W.heap.size<=g
theorem FX.refl (c:LX)(v vg:Value)(W:World):FX c v vg v vg W W:=⟨rfl,rfl,rfl,Nat.le_refl _,fun _ _ _ _ _=>rfl, .inl rfl, .inl rfl⟩
theorem FX.trans {c:LX}{v vg v' je v2 nS:Value}{W W' W2:World}(h:FX c v vg v' je W W')(k:FX c v' je v2 nS W' W2):FX c v vg v2 nS W W2:=by refine⟨k.os.trans h.os,k.tape.trans h.tape,k.out.trans h.out,Nat.le_trans h.size k.size,fun i hi hB hv hg=>?_,?_,?_⟩;{refine(k.blk i (aj hi h.size) hB ?_ ?_).trans (h.blk i hi hB hv hg);{rcases h.v1 with e|⟨g,e,hge⟩;{rw[e];exact hv};rw[e];simp only[ne_eq,af];omega};rcases h.g1 with e|⟨g,e,hge⟩;{rw[e];exact hg};rw[e];simp only[ne_eq,af];omega};{rcases k.v1 with e|⟨g,e,hge⟩;{rw[e];exact h.v1};exact .inr ⟨g,e,Nat.le_trans h.size hge⟩};rcases k.g1 with e|⟨g,e,hge⟩;{rw[e];exact h.g1};exact .inr ⟨g,e,Nat.le_trans h.size hge⟩
theorem FX.below {c:LX}{v vg:Value}{W W':World}(h:Below W.heap.size W W'):FX c v vg v vg W W':=⟨h.os,h.tape,h.output,h.size,fun i hi _ _ _=>h.block i hi, .inl rfl, .inl rfl⟩
theorem FX.rows {c:LX}{v vg v' je:Value}{W W':World}(h:FX c v vg v' je W W'){n₀ e k n:Nat}{u:Value}{xs:List Value}(hr:W.ownsRow n₀ e k u n xs)(hn:∀g,u.ownBlock=some g->g≠c.B/\v.ownBlock≠some g/\vg.ownBlock≠some g):W'.ownsRow n₀ e k u n xs:=by refine⟨hr.1,?_⟩;rcases hr.2 with h'|⟨g',cap',cur,h',h1,h2,r⟩;{exact .inl h'};have hg:=hn g' (by rw[h'];rfl);exact .inr ⟨g',cap',cur,h',h1,(h.blk g' (Array.getElem?_eq_some_iff.1 h2).1 hg.1 hg.2.1 hg.2.2).trans h2,r⟩
theorem MK.kept {c:LX}{W0 W W':World}{v vg:Value}{out:List (Ln×Int)}{P:Nat->Prop}(h:MK c W0 W v vg out P)(hB:Below W.heap.size W W'):MK c W0 W' v vg out P:=by obtain⟨vs,h1,h2,h3,h4⟩:=h.row;exact⟨h.dR.trans (hB.mono h.dR.size),h.box.kept hB,Nat.le_trans h.sz hB.size,⟨vs,aM h1 hB,h2,h3.kept hB,h4⟩,h.rH.kept hB⟩
theorem MK.ek {c:LX}{W0 W:World}{v vg:Value}{out:List (Ln×Int)}{P P':Nat->Prop}(h:MK c W0 W v vg out P)(hP:∀g,P g->P' g):MK c W0 W v vg out P':=by obtain⟨vs,h1,h2,h3,h4⟩:=h.row;exact⟨h.dR,h.box,h.sz,⟨vs,h1,h2,h3,fun j hj g e=>⟨(h4 j hj g e).1,hP g (h4 j hj g e).2⟩⟩,h.rH⟩
theorem bG {W:World}{n₀ e k n:Nat}{v:Value}{xs:List Value}(h:W.ownsRow n₀ e k v n xs){g:Nat}(hg:v.ownBlock=some g):n₀<=g/\g<W.heap.size:=World.ownsRow.lt h g hg
theorem eB {W:World}{b0 b1 e0 e1 k0 k1 n0 n1:Nat}{u v:Value}{xs ys:List Value}(h0:W.ownsRow b0 e0 k0 u n0 xs)(h1:W.ownsRow b1 e1 k1 v n1 ys)(he:e0≠e1){g:Nat}(hg:u.ownBlock=some g):v.ownBlock≠some g:=by intro hv;rcases h0.2 with⟨rfl,-⟩|⟨g0,c0,Tx,rfl,-,hb0,-⟩;{cases hg};rcases h1.2 with⟨rfl,-⟩|⟨g1,c1,Tz,rfl,-,hb1,-⟩;{cases hv};simp only[Value.ownBlock,af]at hg hv;subst hg;subst hv;rw[hb0]at hb1;cases hb1;exact he rfl
theorem bW {W W':World}{n₀ e k n:Nat}{u:Value}{xs:List Value}{row:Option Nat}(h:W.ownsRow n₀ e k u n xs)(hg:W.grownBy W' row)(hne:∀g,u.ownBlock=some g->row≠some g):W'.ownsRow n₀ e k u n xs:=by refine⟨h.1,?_⟩;rcases h.2 with h'|⟨g',cap',cur,h',h1,h2,r⟩;{exact .inl h'};exact .inr ⟨g',cap',cur,h',h1,(hg.block g' (Array.getElem?_eq_some_iff.1 h2).1 (fun e=>hne g' (by rw[h'];rfl) e.symm)).trans h2,r⟩
theorem eZ.dW {W W':World}{n₀ k:Nat}{vs:List Lv}{fs:List Ln}{row:Option Nat}(h:eZ W n₀ k vs fs)(hg:W.grownBy W' row)(hne:∀j,j<k->∀g,(vs.getD j dO).2.2.2.2.2.ownBlock=some g->row≠some g):eZ W' n₀ k vs fs:=fun j hj=>by
 obtain⟨h0,h1,h2,h3,h4,h5⟩:=h j hj
 exact⟨h0,h1,h2,h3,h4,bW h5 hg (hne j hj)⟩
theorem bT {w w1 w2:World}{row:Option Nat}(h:Below w.heap.size w w1)(hg:w1.grownBy w2 row)(hr:∀g,row=some g->w.heap.size<=g):Below w.heap.size w w2:=
 ⟨hg.os.trans h.os,hg.tape.trans h.tape,hg.output.trans h.output,Nat.le_trans h.size hg.size,fun k hk=>(hg.block k (aj hk h.size) (fun e=>by have:=hr k e.symm;omega)).trans (h.block k hk)⟩
theorem jy (xs ys:List Lv):bO (xs++ys)=bO xs++bO ys:=by simp[bO]
theorem qy {ops:Array Oper}{o:Oper}{a:Act}{K:Act->World->Prop}{Q:Exit->Act->World->Prop}{E:Prop}(w:World)(hgd:o.guard=none)(s x:Operand)(t:TypeId)(ho:o.op= .call {callee:= .builtin .append,args:=#[s,x],argTypes:=#[t,t]})(base:Nat)(e:TypeId)(i:TypeInfo)(z:Value)(size bytes:Nat)(ht:Tryz.prog.underlying t=some (.slice e))(hi:Tryz.prog.info? e=some i)(hz:i.zero=some z)(hsize:i.size=size)(hby:i.bytes=bytes)(hzs:z.cells.size=size)(hsz:0<size)(v:Value)(n:Nat)(xs:List Value)(hs:a.eval s=v)(hown:w.ownsRow base e size v n xs)(ad:Addr)(m c:Nat)(news:List Value)(hx:a.eval x= .slice (some ad) m c)(hl:news.length=m*size)(hnews:∀j u,news[j]?=some u->w.cell? (ad.add j)=some u)(h1:∀u∈news,u.oneCell'=true)(h63:n+m<=maxLen)(hbytes:(n+m)*bytes<=140737488355328)(hbase:base<=w.heap.size)(h:∀v' w',w'.ownsRow base e size v' (n+m) (xs++news)->w.grownBy w' v.ownBlock->(v'= .slice none 0 0↔v= .slice none 0 0/\m=0)->(v'.ownBlock=v.ownBlock\/v'.ownBlock=some w.heap.size)->K (a.put o.dst v') w'):if Region.wanted o (yielded ops a.tmps)=true then Oper.wp Tryz.prog o a w K Q else E:=by have hw:Region.wanted o (yielded ops a.tmps)=true:=by{simp[Region.wanted,hgd]};rw[ay hw];obtain⟨v',w',hr,h2,h3,h4,h5⟩:=run_append_own_at (P:=Tryz.prog) w base t o.type e i z size bytes ht hi hz hsize hby hzs hsz v n xs hown ad m c news hl hnews h1 h63 hbytes hbase;unfold Oper.wp execOp;simp only[ho,resolve,invoke,builtin,Sem.run_bind,Sem.run_pure,Result.andThen_ok,List.map_toArray,List.map_cons,List.map_nil,hs,hx,hr];exact h v' w' h2 h3 h4 h5
theorem nG (W W':World)(p q r s t u:Value)(ty:TypeId)(H:Nat)(hH:W.heap.size=H)(hc:∀i,W'.cell? ⟨H,i,none⟩=(W.alloc (.cells #[p,q,r,s,t,u] ty)).cell? ⟨H,i,none⟩):∀j y,[p,q,r,s,t,u][j]?=some y->W'.cell? ((⟨H,0,none⟩:Addr).add j)=some y:=by subst hH;intro j y hy;(have hadd:(⟨W.heap.size,0,none⟩:Addr).add j=⟨W.heap.size,j,none⟩:=by unfold Addr.add;split<;>simp_all);rw[hadd,hc,World.cell?_alloc_at _ _ _ _ rfl];simpa using hy
theorem TX.il {c:LX}{W0 W:World}(T:TX c W0){v vg:Value}{out:List (Ln×Int)}{P:Nat->Prop}(K:MK c W0 W v vg out P):IL W c.ha c.f.b.length c.H/\IL W c.ea c.f.b.length c.E/\SL W c.ba c.f.b.length c.f.b:=
 ⟨T.hH.kept K.dR,T.hE.kept K.dR,T.hS.kept K.dR⟩
theorem MK.line {c:LX}{W0 W W1 W2:World}{v vg v':Value}{out:List (Ln×Int)}{P:Nat->Prop}(K:MK c W0 W v vg out P)(hW:W0.heap.size<=c.B)(hB1:Below W.heap.size W W1)(x:Ln)(la:Option Addr)(ln lc:Nat)(hx:OI W (c.B+1) (.slice la ln lc) x.l)(hap:∀g,(Value.slice la ln lc).ownBlock=some g->vg.ownBlock≠some g/\P g)(vs:List Lv)(hvs:W.ownsRow (c.B+1) 29 6 v out.length (bO vs)/\vs.length=out.length/\eZ W (c.B+1) out.length vs (out.map (·.1))/\∀j,j<out.length->∀g,(vs.getD j dO).2.2.2.2.2.ownBlock=some g->vg.ownBlock≠some g/\P g)(hrow:W2.ownsRow (c.B+1) 29 6 v' (out.length+1) (bO vs++[.int .i64 x.k, .int .i64 x.d, .int .i64 x.a, .int .i64 x.b, .int .i64 x.n, .slice la ln lc]))(hg:W1.grownBy W2 v.ownBlock)(hat:v'.ownBlock=v.ownBlock\/v'.ownBlock=some W1.heap.size)(tg:Int):Below W0.heap.size W0 (W2.setCell ⟨c.B,0,none⟩ v')/\bU (W2.setCell ⟨c.B,0,none⟩ v') c.B (c.dZ v' vg)/\c.B+1<=(W2.setCell ⟨c.B,0,none⟩ v').heap.size/\(∃vs:List Lv,(W2.setCell ⟨c.B,0,none⟩ v').ownsRow (c.B+1) 29 6 v' (out++[(x,tg)]).length (bO vs)/\vs.length=(out++[(x,tg)]).length/\eZ (W2.setCell ⟨c.B,0,none⟩ v') (c.B+1) (out++[(x,tg)]).length vs ((out++[(x,tg)]).map (·.1))/\∀j,j<(out++[(x,tg)]).length->∀g,(vs.getD j dO).2.2.2.2.2.ownBlock=some g->vg.ownBlock≠some g/\P g)/\OI (W2.setCell ⟨c.B,0,none⟩ v') (c.B+1) vg (out.map (·.2))/\FX c v vg v' vg W (W2.setCell ⟨c.B,0,none⟩ v'):=by obtain⟨r1,r2,r3,r4⟩:=hvs;have vB:∀g,v.ownBlock=some g->c.B+1<=g:=fun g hg=>(bG r1 hg).1;have gs:=aX W2 ⟨c.B,0,none⟩ v';have bx1:=K.box.kept hB1;have TA:=bx1.dW hg (fun e=>by have:=vB c.B e;omega);have OJ:=TA.set 0 v';have hint:2≠29:=by{decide};have gB:∀g,vg.ownBlock=some g->c.B+1<=g:=fun g hg=>(bG K.rH hg).1;have Jj:OI W1 (c.B+1) vg (out.map (·.2)):=K.rH.kept hB1;have r1':=aM r1 hB1;have TB:OI W2 (c.B+1) vg (out.map (·.2)):=bW Jj hg (fun g e=>eB Jj r1' hint e);have TC:OI (W2.setCell ⟨c.B,0,none⟩ v') (c.B+1) vg (out.map (·.2)):=bW TB gs (fun g e=>by have:=gB g e;simp only[ne_eq,af];omega);have t1:=r3.kept hB1;have t2:eZ W2 (c.B+1) out.length vs (out.map (·.1)):=t1.dW hg (fun j hj g e=>eB (t1 j hj).2.2.2.2.2 r1' hint e);have t3:eZ (W2.setCell ⟨c.B,0,none⟩ v') (c.B+1) out.length vs (out.map (·.1)):=t2.dW gs (fun j hj g e=>by have:=(bG (t2 j hj).2.2.2.2.2 e).1;simp only[ne_eq,af];omega);have x1:=hx.kept hB1;have x2:OI W2 (c.B+1) (.slice la ln lc) x.l:=bW x1 hg (fun g e=>eB x1 r1' hint e);have x3:OI (W2.setCell ⟨c.B,0,none⟩ v') (c.B+1) (.slice la ln lc) x.l:=bW x2 gs (fun g e=>by have:=(bG x2 e).1;simp only[ne_eq,af];omega);have hr3:=bW hrow gs (fun g e=>by have:=(bG hrow e).1;simp only[ne_eq,af];omega);have b1:=K.dR.trans (hB1.mono K.dR.size);have b2:=bT b1 hg (fun g e=>by have:=vB g e;omega);have b3:=bT b2 gs (fun g e=>by cases e;exact hW);refine⟨b3,OJ,?_,⟨vs++[(x.k,x.d,x.a,x.b,x.n, .slice la ln lc)],?_,?_,fun j hj=>?_,fun j hj g e=>?_⟩,TC,⟨(gs.os.trans hg.os).trans hB1.os,(gs.tape.trans hg.tape).trans hB1.tape,(gs.output.trans hg.output).trans hB1.output,Nat.le_trans hB1.size (Nat.le_trans hg.size gs.size),fun i hi hb hv hv2=>?_,?_, .inl rfl⟩⟩;{exact Nat.le_trans K.sz (Nat.le_trans hB1.size (Nat.le_trans hg.size gs.size))};{rw[jy,List.length_append,List.length_singleton];exact hr3};{rw[List.length_append,List.length_append,r2];rfl};{rw[List.length_append,List.length_singleton]at hj;by_cases hjl:j<out.length;{have e1:(vs++[(x.k,x.d,x.a,x.b,x.n,Value.slice la ln lc)]).getD j dO=vs.getD j dO:=by{rw[ah,List.getElem?_append_left (by omega),←ah]};have e2:((out++[(x,tg)]).map (·.1)).getD j .z=(out.map (·.1)).getD j .z:=by{rw[List.map_append,ah,List.getElem?_append_left (by simpa using hjl),←ah]};rw[e1,e2];exact t3 j hjl};have ej:j=out.length:=by{omega};have e1:(vs++[(x.k,x.d,x.a,x.b,x.n,Value.slice la ln lc)]).getD j dO=(x.k,x.d,x.a,x.b,x.n,Value.slice la ln lc):=by{rw[ah,List.getElem?_append_right (by omega),r2,ej];simp};have e2:((out++[(x,tg)]).map (·.1)).getD j .z=x:=by{rw[List.map_append,ah,List.getElem?_append_right (by simp;omega)];simp[ej]};rw[e1,e2];exact⟨rfl,rfl,rfl,rfl,rfl,x3⟩};{rw[List.length_append,List.length_singleton]at hj;by_cases hjl:j<out.length;{have e1:(vs++[(x.k,x.d,x.a,x.b,x.n,Value.slice la ln lc)]).getD j dO=vs.getD j dO:=by{rw[ah,List.getElem?_append_left (by omega),←ah]};rw[e1]at e;exact r4 j hjl g e};have ej:j=out.length:=by{omega};have e1:(vs++[(x.k,x.d,x.a,x.b,x.n,Value.slice la ln lc)]).getD j dO=(x.k,x.d,x.a,x.b,x.n,Value.slice la ln lc):=by{rw[ah,List.getElem?_append_right (by omega),r2,ej];simp};rw[e1]at e;exact hap g e};{exact(gs.block i (aj hi (Nat.le_trans hB1.size hg.size)) (by simpa using hb)).trans ((hg.block i (aj hi hB1.size) (fun e=>hv e.symm)).trans (hB1.block i hi))};rcases hat with e|e;{exact .inl e};exact .inr ⟨_,e,hB1.size⟩
theorem MK.goal {c:LX}{W0 W W1 W2:World}{v vg je:Value}{out:List (Ln×Int)}{P:Nat->Prop}{x:Ln}{tg:Int}(hW:W0.heap.size<=c.B)(hb:Below W0.heap.size W0 W)(hbx:bU W c.B (c.dZ v vg))(hsz:c.B+1<=W.heap.size)(hvs:∃vs:List Lv,W.ownsRow (c.B+1) 29 6 v (out++[(x,tg)]).length (bO vs)/\vs.length=(out++[(x,tg)]).length/\eZ W (c.B+1) (out++[(x,tg)]).length vs ((out++[(x,tg)]).map (·.1))/\∀j,j<(out++[(x,tg)]).length->∀g,(vs.getD j dO).2.2.2.2.2.ownBlock=some g->vg.ownBlock≠some g/\P g)(hgo:OI W (c.B+1) vg (out.map (·.2)))(hB1:Below W.heap.size W W1)(hrow:W2.ownsRow (c.B+1) 2 1 je (out.length+1) ((out.map (·.2)).map iv++[.int .i64 tg]))(hg:W1.grownBy W2 vg.ownBlock)(hat:je.ownBlock=vg.ownBlock\/je.ownBlock=some W1.heap.size):MK c W0 (W2.setCell ⟨c.B,1,none⟩ je) v je (out++[(x,tg)]) P/\FX c v vg v je W (W2.setCell ⟨c.B,1,none⟩ je):=by obtain⟨vs,r1,r2,r3,r4⟩:=hvs;have gB:∀g,vg.ownBlock=some g->c.B+1<=g:=fun g hg=>(bG hgo hg).1;have gs:=aX W2 ⟨c.B,1,none⟩ je;have OJ:=((hbx.kept hB1).dW hg (fun e=>by have:=gB c.B e;omega)).set 1 je;have hint:29≠2:=by{decide};have Jj:OI W1 (c.B+1) vg (out.map (·.2)):=hgo.kept hB1;have s1:=aM r1 hB1;have s2:=bW s1 hg (fun g e=>eB s1 Jj hint e);have s3:=bW s2 gs (fun g e=>by have:=(bG s2 e).1;simp only[ne_eq,af];omega);have t1:=r3.kept hB1;have t2:=t1.dW hg (fun j hj g e=>(r4 j hj g e).1);have t3:=t2.dW gs (fun j hj g e=>by have:=(bG (t2 j hj).2.2.2.2.2 e).1;simp only[ne_eq,af];omega);have hr3:=bW hrow gs (fun g e=>by have:=(bG hrow e).1;simp only[ne_eq,af];omega);have b1:=hb.trans (hB1.mono hb.size);have b2:=bT b1 hg (fun g e=>by have:=gB g e;omega);have b3:=bT b2 gs (fun g e=>by cases e;exact hW);refine⟨⟨b3,OJ,Nat.le_trans hsz (Nat.le_trans hB1.size (Nat.le_trans hg.size gs.size)),⟨vs,s3,r2,t3,fun j hj g e=>?_⟩,?_⟩,⟨(gs.os.trans hg.os).trans hB1.os,(gs.tape.trans hg.tape).trans hB1.tape,(gs.output.trans hg.output).trans hB1.output,Nat.le_trans hB1.size (Nat.le_trans hg.size gs.size),fun i hi hb hv hv2=>?_, .inl rfl,?_⟩⟩;{rcases hat with e'|e';{rw[e'];exact r4 j hj g e};rw[e'];have:=(bG (t1 j hj).2.2.2.2.2 e).2;refine⟨?_,(r4 j hj g e).2⟩;simp only[ne_eq,af];omega};{show World.ownsRow _ _ _ _ _ _ _;rw[List.map_append,List.length_append,List.map_append,List.length_map];exact hr3};{exact(gs.block i (aj hi (Nat.le_trans hB1.size hg.size)) (by simpa using hb)).trans ((hg.block i (aj hi hB1.size) (fun e=>hv2 e.symm)).trans (hB1.block i hi))};rcases hat with e|e;{exact .inl e};exact .inr ⟨_,e,hB1.size⟩
theorem aN (c:LX)(W0 W:World)(v vg:Value)(out:List (Ln×Int))(P:Nat->Prop)(hW:W0.heap.size<=c.B)(K:MK c W0 W v vg out P)(x:Ln)(la:Option Addr)(ln lc:Nat)(hx:OI W (c.B+1) (.slice la ln lc) x.l)(hap:∀g,(Value.slice la ln lc).ownBlock=some g->vg.ownBlock≠some g/\P g)(tg:Int)(hlen:out.length<=1000):Calls Tryz.prog 83 #[.pointer (some ⟨c.B,0,none⟩), .agg #[.int .i64 x.k, .int .i64 x.d, .int .i64 x.a, .int .i64 x.b, .int .i64 x.n, .slice la ln lc], .int .i64 tg] W fun e w'=>∃v' je,e= .returned (.tuple #[])/\MK c W0 w' v' je (out++[(x,tg)]) P/\FX c v vg v' je W w':=by obtain⟨i0,hi,hz0,hz1,hz2⟩:=info_parts nk;obtain⟨j0,hj,hy0,hy1,hy2⟩:=info_parts bN;have hB1:=aA W (.cells #[.int .i64 x.k, .int .i64 x.d, .int .i64 x.a, .int .i64 x.b, .int .i64 x.n, .slice la ln lc] 29);have hB2:=hB1.trans ((aA _ (.cells #[.int .i64 x.k, .int .i64 x.d, .int .i64 x.a, .int .i64 x.b, .int .i64 x.n, .slice la ln lc] 29)).mono hB1.size);have hB3:=hB2.trans ((Below.refl _ _).drew.mono hB2.size);obtain⟨vs,hvs⟩:=K.row;obtain⟨av,cv,rfl⟩:=bZ hvs.1;have hgo:W.ownsRow (c.B+1) 2 1 vg out.length ((out.map (·.2)).map iv):=by{have:=K.rH;unfold OI at this;rwa [List.length_map]at this};obtain⟨ag,cg,rfl⟩:=bZ hgo;have hr2:=aM (aM hvs.1 hB2) (Below.refl _ _).drew;have hb0:=K.box;have hb2:=(K.box.kept hB2).kept (Below.refl _ _).drew;have d0:=(hb0.2 0 _ rfl).1;have hvB:∀g,(Value.slice av out.length cv).ownBlock=some g->c.B+1<=g:=fun g hg=>(bG hvs.1 hg).1;have HRW:=ae hr2;have HB:=ae hb2;have HK:=ae (ak K (ak hvs (ak hx (ak hap hB3))));have hsz:c.B<W.heap.size:=K.sz;clear hb0 hb2 hr2 hB1 hB2 hB3 hvs K hx hap hgo;go_enter Tryz.func83,Tryz.ntmps83;go_wp2;go_region_law (refine qy _ rfl (.tmp 10) (.tmp 12) 24 rfl (c.B+1) 29 i0 (.agg #[.int .i64 0, .int .i64 0, .int .i64 0, .int .i64 0, .int .i64 0, .slice none 0 0]) 6 64 Tryz.underlying24 hi hz0 hz1 hz2 rfl (by decide) (.slice av out.length cv) out.length (bO vs) (by simp[Act.eval]) HRW.out ⟨W.heap.size+1,0,none⟩ 1 1 [.int .i64 x.k, .int .i64 x.d, .int .i64 x.a, .int .i64 x.b, .int .i64 x.n, .slice la ln lc] (by simp[Act.eval]) rfl (nG (W.alloc (.cells #[.int .i64 x.k, .int .i64 x.d, .int .i64 x.a, .int .i64 x.b, .int .i64 x.n, .slice la ln lc] 29)) _ _ _ _ _ _ _ 29 _ (by simp) (fun i=>rfl)) (by simp[Value.oneCell']) (by simp only[maxLen];omega) (by omega) (by simp;omega) ?_;intro v' wA hown' hgrow _ hat;obtain⟨g',cap',rfl⟩:=ownsRow_succ hown';have kC:=HB.out.dW hgrow (fun e=>by have:=hvB c.B e;omega);have cA:=(kC.2 0 _ rfl).1;have fA:=(kC.2 0 _ rfl).2;have gZ:=ae (ak hown' (ak hgrow hat));have lA:=kC.1;clear hown' hgrow kC hat);all_goals have hM:=MK.line HK.out.1 hW HK.out.2.2.2.2 x la ln lc HK.out.2.2.1 HK.out.2.2.2.1 vs HK.out.2.1 gZ.out.1 gZ.out.2.1 gZ.out.2.2 tg;clear gZ HRW HB cA fA lA;generalize hW3:wA.setCell ⟨c.B,0,none⟩ (.slice (some ⟨g',0,none⟩) (out.length+1) cap')=W3 at hM;obtain⟨m1,m2,m3,m4,m5,m6⟩:=hM;have c1:=(m2.2 1 _ rfl).1;have f1:=(m2.2 1 _ rfl).2;have l3:c.B<W3.heap.size:=m3;have mi:=aA W3 (.cells #[.int .i64 tg] 2);have o4:(W3.alloc (.cells #[.int .i64 tg] 2)).ownsRow (c.B+1) 2 1 (.slice ag out.length cg) out.length ((out.map (·.2)).map iv):=by{have:=m5.kept mi;unfold OI at this;rwa [List.length_map]at this};have hgB:∀g,(Value.slice ag out.length cg).ownBlock=some g->c.B+1<=g:=fun g hg=>(bG o4 hg).1;have b4:=m2.kept mi;have KG:=ae o4;have OL:=ae b4;have HM:=ae (ak m1 (ak m2 (ak m3 (ak m4 (ak m5 (ak m6 mi))))));clear m1 m2 m3 m4 m5 m6 o4 b4 mi;go_wp2_with(at_builtin;refine wpList_append_own_at _ rfl _ _ 27 rfl (c.B+1) 2 j0 (.int .i64 0) 1 8 Tryz.underlying27 hj hy0 hy1 hy2 rfl (by decide) (.slice ag out.length cg) out.length _ rfl KG.out ⟨W3.heap.size,0,none⟩ 1 1 [.int .i64 tg] rfl rfl (cell_one_new _ _ _) (by simp[Value.oneCell']) (by simp only[maxLen];omega) (by omega) (by simp;omega) ?_;intro v2 wB hown2 hgrow2 _ yC;obtain⟨g2,cap2,rfl⟩:=ownsRow_succ hown2;have Jk:=OL.out.dW hgrow2 (fun e=>by have:=hgB c.B e;omega);have cB:=(Jk.2 1 _ rfl).1;have fB:=(Jk.2 1 _ rfl).2;have yD:=ae (ak hown2 (ak hgrow2 yC));have lB:=Jk.1;clear hown2 hgrow2 Jk yC);(try simp only[Exit.inBlock,Exit.then]);obtain⟨m1,m2,m3,m4,m5,m6,mi⟩:=HM.out;have hF:=MK.goal hW m1 m2 m3 m4 m5 mi yD.out.1 yD.out.2.1 yD.out.2.2;refine bodyPost_end (results_none rfl _ _ _) rfl ⟨_,_,rfl,hF.1,m6.trans hF.2⟩
theorem fZ {c:LX}{W0 W:World}{v vg:Value}{out:List (Ln×Int)}{P:Nat->Prop}(T:TX c W0)(K:MK c W0 W v vg out P)(h:Int)(h1:-100<=h)(h2:h<=100):Calls Tryz.prog 95 #[.pointer (some ⟨c.B,0,none⟩), .int .i64 h] W fun e w'=>e= .returned (.int .i64 (Lw.bx c.f h))/\w'=W:=by have d2:=(K.box.2 2 _ rfl).1;have hok:=T.ok;have HW:Hid (Lw.bx c.f h=Lw.wd c.f+h):=rfl;have hw1:0<=Lw.wd c.f/\Lw.wd c.f<=6:=by{unfold Lw.wd;omega};generalize Lw.wd c.f=u at d2 HW hw1;clear T K hok;go_enter Tryz.func95,Tryz.ntmps95;go_wp2;go_ret;exact⟨by rw[HW.out]<;>rfl,rfl⟩
theorem Lw.oq {f:Fn}{E H:List Int}{n:Nat}{dp:Int}{t:Nat}(hlt:dp.toNat<(aI.bQ f.b E n n).length)(ht:(aI.bQ f.b E n n).getD dp.toNat (-1)=(t:Int)):Lw.dE f E H n dp=if aI.op f.b t=9 then((t:Int)+1,0,0)else if aI.op f.b t=10 then(aI.aU E t,Lw.bx f (H.getD t 0-1),Hg.arg f.b t)else(aI.aU E t,Lw.bx f (H.getD t 0),Hg.arg f.b t):=by unfold Lw.dE;rw[ay hlt,ht];rfl
theorem Lw.uk {f:Fn}{E H:List Int}{n:Nat}{dp:Int}(hlt:¬dp.toNat<(aI.bQ f.b E n n).length):Lw.dE f E H n dp=((f.b.length:Int)-1,Lw.bx f 0,f.g):=by unfold Lw.dE;rw[ax hlt]
theorem aP {W W':World}{p:Addr}{v:Value}(hB:Below W.heap.size W W')(h:W.cell? p=some v):W'.cell? p=some v:=(hB.cell (p:=p) (World.block_lt_of_cell? _ _ h)).trans h
theorem aI.lQ (xs:List (Int×Int))(E:List Int)(a:Int):∀k,(aI.bQ xs E a k).length<=k
 |0=>Nat.le_refl _
 | k+1=>by
   have:=aI.lQ xs E a k
   unfold aI.bQ
   split
   · rw[List.length_cons];omega
   · omega
theorem gy {c:LX}{W0 W:World}{v vg:Value}{out:List (Ln×Int)}{P:Nat->Prop}(T:TX c W0)(K:MK c W0 W v vg out P)(at':Nat)(hat:at'<c.f.b.length)(dp:Int)(h0:0<=dp)(h9:dp<=99)
   (hJ:∀t:Nat,dp.toNat<(aI.bQ c.f.b c.E at' at').length->(aI.bQ c.f.b c.E at' at').getD dp.toNat (-1)=(t:Int)->0<=c.H.getD t 0):
   Calls Tryz.prog 96 #[.pointer (some ⟨c.B,0,none⟩), .int .i64 at', .int .i64 dp] W fun e w'=>
     e= .returned (.tuple #[.int .i64 (Lw.dE c.f c.E c.H at' dp).1, .int .i64 (Lw.dE c.f c.E c.H at' dp).2.1, .int .i64 (Lw.dE c.f c.E c.H at' dp).2.2])/\Below W.heap.size W w':=by
 obtain⟨hH,hE,hS⟩:=T.il K
 have hLen:=T.ok.2.2.2.2.2
 have hall:=T.all
 have H8:=T.acc.H6
 have htop:=T.acc.mH
 obtain⟨bl,hbl⟩:∃n,c.f.b.length=n:=⟨_,rfl⟩
 have hbx:=K.box
 unfold LX.dZ at hbx
 rw[hbl]at hH hE hS hLen hat htop hbx
 have d4:=(hbx.2 4 _ rfl).1
 have d5:=(hbx.2 5 _ rfl).1
 have yE:=hbx.1
 have e4:∀p:dC W,p.to.cell? ⟨c.B,4,none⟩=some (.slice c.ea bl c.ec):=fun p=>(p.h.cell (p:=⟨c.B,4,none⟩) yE).trans d4
 have e5:∀p:dC W,p.to.cell? ⟨c.B,5,none⟩=some (.slice c.ba bl c.bc):=fun p=>(p.h.cell (p:=⟨c.B,5,none⟩) yE).trans d5
 have hne:=dC.any W
 have HT:=ae (ak T (ak K (ak hbl (ak hbx (ak htop H8)))))
 have hcon:=fun(W':World) (hB:Below W.heap.size W W')=>mG c.ba bl c.bc c.f.b hLen hall c.ea c.ec c.E at' hat W' (hS.kept hB) (hE.kept hB)
 clear hbx htop H8 hall d4 d5
 have hal:=aI.lQ c.f.b c.E at' at'
 obtain⟨A,hAr⟩:∃A,aI.bQ c.f.b c.E at' at'=A:=⟨_,rfl⟩
 have harm:=fun i hi=>aI.uA (i:=i) HT.out.2.2.2.2.2 hAr hi
 have H9:=ae (ak (fun(t:Nat) h1 h2=>Lw.oq (f:=c.f) (E:=c.E) (H:=c.H) (n:=at') (dp:=dp) (t:=t) h1 h2) (fun h1=>Lw.uk (f:=c.f) (E:=c.E) (H:=c.H) (n:=at') (dp:=dp) h1))
 rw[hAr]at hal H9
 simp only[hAr]at hJ hcon
 obtain⟨L,hL⟩:∃L,Lw.dE c.f c.E c.H at' dp=L:=⟨_,rfl⟩
 rw[hL]at H9 ⊢
 clear hL hAr
 go_enter Tryz.func96,Tryz.ntmps96
 go_wp2
 refine dx 9 (by kernel_rfl) (by kernel_rfl) ?_
 simp only[List.take_succ_cons,List.take_zero,List.drop_succ_cons,List.drop_zero]
 repeat(go_big_quiet_step (fail))
 refine wpQuiet_nil ?_
 rintro _ ⟨pw,rfl⟩
 have Ia:=pw.h
 have aV:=hcon _ Ia
 obtain⟨W1,hW1⟩:∃W1,pw.to=W1:=⟨_,rfl⟩
 rw[hW1]at aV Ia ⊢
 clear hcon hW1 e4 e5 hne
 go_wp2_with fail
 refine aV.mono ?_
 rintro e w1 ⟨v1,rfl,hoi,hB1⟩
 dsimp only
 obtain⟨a1,c1,rfl,Br⟩:=hoi.slice
 have hB2:=Ia.trans (hB1.mono Ia.size)
 have hK1:=HT.out.2.1.kept hB2
 have hbx:=hK1.box
 unfold LX.dZ at hbx
 rw[HT.out.2.2.1]at hbx
 have d2:=(hbx.2 2 _ rfl).1
 have d3:=(hbx.2 3 _ rfl).1
 have d4:=(hbx.2 4 _ rfl).1
 have d5:=(hbx.2 5 _ rfl).1
 have d6:=(hbx.2 6 _ rfl).1
 have yE:=hbx.1
 have hS1:=hS.kept hB2
 have hE1:=hE.kept hB2
 have hH1:=hH.kept hB2
 have HB:=ae hB2
 have mq:=ae (fun(p:dC w1) (h:Int) h1 h2=>fZ HT.out.1 (hK1.kept p.h) h h1 h2)
 have hne:=dC.any w1
 clear hoi hbx aV hB1 hB2 Ia hS hE hH
 by_cases hlt:dp.toNat<A.length
 · obtain⟨t,et,htl,Ji,-⟩:=harm dp.toNat hlt
   have hge:¬((A.length:Int)<=dp):=by omega
   have htn:t<bl:=by omega
   have hxt:A.getD dp.toNat 0=(t:Int):=by
     rw[←et]
     unfold aI.aU
     rw[ah,ah,ai hlt]
     rfl
   have hdt:A.getD dp.toNat (-1)=(t:Int):=et
   have cA:∃ab ao,a1=some ⟨ab,ao,none⟩/\w1.cell? ⟨ab,ao+dp.toNat,none⟩=some (.int .i64 t):=by
     obtain⟨-,-,h3|⟨b,o,rfl,-,hh⟩⟩:=Br
     · omega
     · exact⟨b,o,rfl,by rw[hh dp.toNat hlt,hxt]⟩
   obtain⟨ab,ao,rfl,cA⟩:=cA
   have cE:∃b o,c.ea=some ⟨b,o,none⟩/\b<w1.heap.size/\w1.cell? ⟨b,o+t,none⟩=some (.int .i64 (aI.aU c.E t)):=by
     obtain⟨hl,-,h3|⟨b,o,e,hb,hh⟩⟩:=hE1
     · omega
     · refine⟨b,o,e,hb,?_⟩
       rw[hh t htn]
       unfold aI.aU
       rw[ah,ah,ai (by omega)]
       rfl
   obtain⟨eb,eo,ee,lE,cE⟩:=cE
   have cH:∃b o,c.ha=some ⟨b,o,none⟩/\b<w1.heap.size/\w1.cell? ⟨b,o+t,none⟩=some (.int .i64 (c.H.getD t 0)):=by
     obtain⟨hl,-,h3|⟨b,o,e,hb,hh⟩⟩:=hH1
     · omega
     · exact⟨b,o,e,hb,hh t htn⟩
   obtain⟨hb',ho',eh,lH,cH⟩:=cH
   have cS:∃b o,c.ba=some ⟨b,o,none⟩/\b<w1.heap.size/\w1.cell? ⟨b,o+t*2,none⟩=some (.int .i64 (aI.op c.f.b t))/\w1.cell? ⟨b,o+t*2+1,none⟩=some (.int .i64 (Hg.arg c.f.b t)):=by
     obtain⟨hl,-,h3|⟨b,o,e,hb,hh⟩⟩:=hS1
     · omega
     · exact⟨b,o,e,hb,(hh t htn).1,(hh t htn).2⟩
   obtain⟨sb,so,es,lS,wy,cS2⟩:=cS
   have HL:Hid (L=if aI.op c.f.b t=9 then((t:Int)+1,0,0)else if aI.op c.f.b t=10 then(aI.aU c.E t,Lw.bx c.f (c.H.getD t 0-1),Hg.arg c.f.b t)else(aI.aU c.E t,Lw.bx c.f (c.H.getD t 0),Hg.arg c.f.b t)):=H9.out.1 t hlt hdt
   have TD:c.H.getD t 0<=20:=HT.out.2.2.2.2.1 t htn
   have OM:0<=c.H.getD t 0:=hJ t hlt hdt
   obtain⟨p,hp⟩:∃p,aI.op c.f.b t=p:=⟨_,rfl⟩
   obtain⟨q,hq⟩:∃q,Hg.arg c.f.b t=q:=⟨_,rfl⟩
   obtain⟨u,hu⟩:∃u,c.H.getD t 0=u:=⟨_,rfl⟩
   obtain⟨z,hz⟩:∃z,aI.aU c.E t=z:=⟨_,rfl⟩
   rw[hp,hq,hu,hz]at HL
   rw[hp]at wy
   rw[hq]at cS2
   rw[hu]at cH TD OM
   rw[hz]at cE
   have QI:=ae (fun(pz:dC w1)=>mq.out pz (u-1) (by omega) (by omega))
   have QJ:=ae (fun(pz:dC w1)=>mq.out pz u (by omega) (by omega))
   obtain⟨b1,hb1⟩:∃b1,Lw.bx c.f (u-1)=b1:=⟨_,rfl⟩
   obtain⟨b2,hb2⟩:∃b2,Lw.bx c.f u=b2:=⟨_,rfl⟩
   rw[hb1]at QI HL
   rw[hb2]at QJ HL
   obtain⟨dn,hdn⟩:=Int.eq_ofNat_of_zero_le h0
   subst hdn
   rw[az]at cA hlt
   have TE:(dn:Int)<(A.length:Int):=by omega
   have UQ:(t:Int)<(bl:Int):=by omega
   rw[eh]at d3
   rw[ee]at d4
   rw[es]at d5
   have g3:∀p:dC w1,p.to.cell? ⟨c.B,3,none⟩=some (.slice (some ⟨hb',ho',none⟩) bl c.hc):=fun p=>(p.h.cell (p:=⟨c.B,3,none⟩) yE).trans d3
   have g4:∀p:dC w1,p.to.cell? ⟨c.B,4,none⟩=some (.slice (some ⟨eb,eo,none⟩) bl c.ec):=fun p=>(p.h.cell (p:=⟨c.B,4,none⟩) yE).trans d4
   have g5:∀p:dC w1,p.to.cell? ⟨c.B,5,none⟩=some (.slice (some ⟨sb,so,none⟩) bl c.bc):=fun p=>(p.h.cell (p:=⟨c.B,5,none⟩) yE).trans d5
   have gE:∀p:dC w1,p.to.cell? ⟨eb,eo+t,none⟩=some (.int .i64 z):=fun p=>(p.h.cell (p:=⟨eb,eo+t,none⟩) lE).trans cE
   have gH:∀p:dC w1,p.to.cell? ⟨hb',ho'+t,none⟩=some (.int .i64 u):=fun p=>(p.h.cell (p:=⟨hb',ho'+t,none⟩) lH).trans cH
   have gS:∀pz:dC w1,pz.to.cell? ⟨sb,so+t*2+1,none⟩=some (.int .i64 q):=fun pz=>(pz.h.cell (p:=⟨sb,so+t*2+1,none⟩) lS).trans cS2
   obtain⟨al,Ib⟩:∃al,A.length=al:=⟨_,rfl⟩
   rw[Ib]at TE hlt hge hal ⊢
   clear harm Br hS1 hE1 hH1 hxt hdt et hp hq hu hz hb1 hb2 Ib hJ H9 ee eh es d2 d6
   by_cases OO:p=9
   · subst OO
     clear g3 g4 g5 gE gH gS
     go_wp2
     go_ret3
     exact⟨by rw[HL.out];rfl,HB.out⟩
   · by_cases h10:p=10
     · subst h10
       go_wp2
       refine bn (by kernel_rfl) (by kernel_rfl) ?_
       repeat(go_big_quiet_step (first|exact fE (QI.out _)))
       refine wpQuiet_nil ?_
       rintro _ ⟨pz,rfl⟩
       have Ic:=pz.h
       clear g3 g4 g5 gE gH gS
       generalize pz.to=w7 at*
       go_wp2
       go_ret3
       exact⟨by rw[HL.out];rfl,HB.out.trans (Ic.mono HB.out.size)⟩
     · have e9:(p==9)=false:=by simpa using OO
       have e10:(p==10)=false:=by simpa using h10
       go_wp2
       refine bn (by kernel_rfl) (by kernel_rfl) ?_
       repeat(go_big_quiet_step (first|exact fE (QJ.out _)))
       refine wpQuiet_nil ?_
       rintro _ ⟨pz,rfl⟩
       have Ic:=pz.h
       clear g3 g4 g5 gE gH gS
       generalize pz.to=w7 at*
       go_wp2
       go_ret3
       exact⟨by rw[HL.out,ax OO,ax h10];rfl,HB.out.trans (Ic.mono HB.out.size)⟩
 · have hge:(A.length:Int)<=dp:=by omega
   have HL:Hid (L=((bl:Int)-1,Lw.bx c.f 0,c.f.g)):=by
     show _=_
     rw[H9.out.2 hlt,HT.out.2.2.1]
   have HX0:=ae (fun(p:dC w1)=>mq.out p 0 (by omega) (by omega))
   have g5:∀p:dC w1,p.to.cell? ⟨c.B,5,none⟩=some (.slice c.ba bl c.bc):=fun p=>(p.h.cell (p:=⟨c.B,5,none⟩) yE).trans d5
   have g6:∀p:dC w1,p.to.cell? ⟨c.B,6,none⟩=some (.int .i64 c.f.g):=fun p=>(p.h.cell (p:=⟨c.B,6,none⟩) yE).trans d6
   obtain⟨bz,hbz⟩:∃bz,Lw.bx c.f 0=bz:=⟨_,rfl⟩
   rw[hbz]at HL HX0
   clear harm Br hS1 hE1 hH1 hJ hal hbz d2 d3 d4 d5 d6
   go_wp2
   refine bn (by kernel_rfl) (by kernel_rfl) ?_
   repeat(go_big_quiet_step (first|exact fE (HX0.out _)))
   refine wpQuiet_nil ?_
   rintro _ ⟨pz,rfl⟩
   have Ic:=pz.h
   generalize pz.to=w7 at*
   go_wp2
   go_ret3
   exact⟨by rw[HL.out];rfl,HB.out.trans (Ic.mono HB.out.size)⟩
theorem Dt {c:LX}{W0 W:World}{v vg:Value}{out:List (Ln×Int)}{P:Nat->Prop}(T:TX c W0)(K:MK c W0 W v vg out P)(fa:Option Addr)(fl fc:Nat)(d:ByteArray)(oa:Option Addr)(oc:Nat)(hF:FL W0 fa fl c.fs)(hO:IL W0 oa c.f.b.length c.O)(at':Nat)(hat:at'<c.f.b.length)(hr:0<=c.H.getD at' 0)(hlen:out.length<=900)(p:Int)(hp:aI.op c.f.b at'=p)(hk:p=7\/p=8\/p=9\/p=12\/p=20\/p=1\/p=2\/p=3\/p=4\/p=5\/p=6\/p=17\/p=18\/p=19):Calls Tryz.prog 84 #[.pointer (some ⟨c.B,0,none⟩), .agg #[.slice fa fl fc, .string d], .slice oa c.f.b.length oc, .int .i64 at'] W fun e w'=>∃v' je,e= .returned (.tuple #[])/\MK c W0 w' v' je (out++Lw.step c.fs c.f c.E c.O c.H at') (fun g=>P g\/W.heap.size<=g)/\FX c v vg v' je W w':=by have hty:=T.acc.typ at' hat hr;obtain⟨hH,hE,hS⟩:=T.il K;have yF:=hO.kept K.dR;have hF1:=hF.kept K.dR;have hLen:=T.ok.2.2.2.2.2;have htop:=T.acc.mH at' hat;have hW:=T.lt;have hwd:0<=Lw.wd c.f/\Lw.wd c.f<=6:=by{have:=T.ok;unfold Lw.wd;omega};have HST:Hid (Lw.step c.fs c.f c.E c.O c.H at'=Lw.BZ c.fs c.f c.E c.O c.H at' p (Hg.arg c.f.b at') (Lw.bx c.f (c.H.getD at' 0-1))):=by{show _=_;unfold Lw.step;rw[hp]};have hbx0:=K.box;unfold LX.dZ at hbx0;obtain⟨bl,hbl⟩:∃n,c.f.b.length=n:=⟨_,rfl⟩;rw[hbl]at hH hE hS yF hLen hat hbx0 ⊢;have Ie:(at':Int)<(bl:Int):=by{omega};have cS:∃b o,c.ba=some ⟨b,o,none⟩/\b<W.heap.size/\W.cell? ⟨b,o+at'*2,none⟩=some (.int .i64 (aI.op c.f.b at'))/\W.cell? ⟨b,o+at'*2+1,none⟩=some (.int .i64 (Hg.arg c.f.b at')):=by{obtain⟨hl,-,h3|⟨b,o,e,hb,hh⟩⟩:=hS;{omega};exact⟨b,o,e,hb,(hh at' hat).1,(hh at' hat).2⟩};obtain⟨sb,so,es,lS,wy,cS2⟩:=cS;have cH:∃b o,c.ha=some ⟨b,o,none⟩/\b<W.heap.size/\W.cell? ⟨b,o+at',none⟩=some (.int .i64 (c.H.getD at' 0)):=by{obtain⟨hl,-,h3|⟨b,o,e,hb,hh⟩⟩:=hH;{omega};exact⟨b,o,e,hb,hh at' hat⟩};obtain⟨hb',ho',eh,lH,cH⟩:=cH;have cE:∃b o,c.ea=some ⟨b,o,none⟩/\b<W.heap.size/\W.cell? ⟨b,o+at',none⟩=some (.int .i64 (aI.aU c.E at')):=by{obtain⟨hl,-,h3|⟨b,o,e,hb,hh⟩⟩:=hE;{omega};refine⟨b,o,e,hb,?_⟩;rw[hh at' hat];unfold aI.aU;rw[ah,ah,ai (by omega)];rfl};obtain⟨eb,eo,ee,lE,cE⟩:=cE;have cO:∃b o,oa=some ⟨b,o,none⟩/\b<W.heap.size/\W.cell? ⟨b,o+at',none⟩=some (.int .i64 (aI.aU c.O at')):=by{obtain⟨hl,-,h3|⟨b,o,e,hb,hh⟩⟩:=yF;{omega};refine⟨b,o,e,hb,?_⟩;rw[hh at' hat];unfold aI.aU;rw[ah,ah,ai (by omega)];rfl};obtain⟨ob,oo,rfl,lO,cO⟩:=cO;rw[hp]at wy;obtain⟨q,hq⟩:∃q,Hg.arg c.f.b at'=q:=⟨_,rfl⟩;obtain⟨u,hu⟩:∃u,c.H.getD at' 0=u:=⟨_,rfl⟩;rw[hq]at cS2 HST;rw[hu]at cH htop hr HST;have d2:=(hbx0.2 2 _ rfl).1;have d3:=(hbx0.2 3 _ rfl).1;have d4:=(hbx0.2 4 _ rfl).1;have d5:=(hbx0.2 5 _ rfl).1;have yE:=hbx0.1;rw[eh]at d3;rw[ee]at d4;rw[es]at d5;have hB1:=aA W (.cells #[.slice fa fl fc, .string d] 87);have hA1:iw (W.alloc (.cells #[.slice fa fl fc, .string d] 87)) W.heap.size 87 [.slice fa fl fc, .string d]:=heap_alloc_last W _;obtain⟨W1,hW1⟩:∃X,W.alloc (.cells #[.slice fa fl fc, .string d] 87)=X:=⟨_,rfl⟩;rw[hW1]at hB1 hA1;have hB2:=aA W1 (.cells #[.int .i64 (p), .int .i64 q] 117);have hA2:iw (W1.alloc (.cells #[.int .i64 (p), .int .i64 q] 117)) W1.heap.size 117 [.int .i64 (p), .int .i64 q]:=heap_alloc_last W1 _;obtain⟨W2,hW2⟩:∃X,W1.alloc (.cells #[.int .i64 (p), .int .i64 q] 117)=X:=⟨_,rfl⟩;rw[hW2]at hB2 hA2;have hB:=hB1.trans (hB2.mono hB1.size);have K2:=K.kept hB;have kE:=hA1.kept hB2;have hcon:=fZ T K2 (u-1) (by omega) (by omega);have Ig:-1<=Lw.bx c.f (u-1)/\Lw.bx c.f (u-1)<=26:=by{unfold Lw.bx;omega};obtain⟨tt,rJ⟩:∃tt,Lw.bx c.f (u-1)=tt:=⟨_,rfl⟩;rw[rJ]at hcon Ig HST;have c3:=aP hB1 d3;have k3:=aP hB d3;have k4:=aP hB d4;have c5:=aP hB1 d5;have c6:=aP hB1 wy;have c7:=aP hB1 cS2;have c8:=aP hB cH;have mE:=aP hB cE;have mF:=aP hB cO;have k2:=aP hB d2;have s0:=hA2.cell (j:=0) rfl;have s1:=hA2.cell (j:=1) rfl;have m0:=kE.cell (j:=0) rfl;have F0:FX c v vg v vg W W2:=FX.below hB;have hF2:=hF1.kept hB;have HQ:=ae (ak hp (ak hq (ak hbl (ak hu hty))));clear hH hE hS hO yF hF hF1 d2 d3 d4 d5 wy cS2 cH cE cO hbx0 hA1 hB1 hB2 K hu rJ hp hq hbl;go_enter Tryz.func84,Tryz.ntmps84;go_wp2_with fail;refine hcon.mono ?_;rintro e w3 ⟨rfl,aQ⟩;subst w3;dsimp only;clear hcon;rcases hk with rfl|rfl|rfl|rfl|rfl|rfl|rfl|rfl|rfl|rfl|rfl|rfl|rfl|rfl;{replace HST:Hid (Lw.step c.fs c.f c.E c.O c.H at'=[]):=HST;clear c3 k3 k4 c5 c6 c7 c8 mE mF k2 m0 kE hA2 hW1 hW2 hty hF2;go_wp2;(try simp only[Exit.inBlock,Exit.then]);refine bodyPost_end (results_none rfl _ _ _) rfl ⟨v,vg,rfl,?_,F0⟩;rw[HST.out];refine MK.ek ?_ (fun g h=> .inl h);simpa[List.append_assoc]using K2};{replace HST:Hid (Lw.step c.fs c.f c.E c.O c.H at'=[]):=HST;clear c3 k3 k4 c5 c6 c7 c8 mE mF k2 m0 kE hA2 hW1 hW2 hty hF2;go_wp2;(try simp only[Exit.inBlock,Exit.then]);refine bodyPost_end (results_none rfl _ _ _) rfl ⟨v,vg,rfl,?_,F0⟩;rw[HST.out];refine MK.ek ?_ (fun g h=> .inl h);simpa[List.append_assoc]using K2};{replace HST:Hid (Lw.step c.fs c.f c.E c.O c.H at'=[]):=HST;clear c3 k3 k4 c5 c6 c7 c8 mE mF k2 m0 kE hA2 hW1 hW2 hty hF2;go_wp2;(try simp only[Exit.inBlock,Exit.then]);refine bodyPost_end (results_none rfl _ _ _) rfl ⟨v,vg,rfl,?_,F0⟩;rw[HST.out];refine MK.ek ?_ (fun g h=> .inl h);simpa[List.append_assoc]using K2};{replace HST:Hid (Lw.step c.fs c.f c.E c.O c.H at'=[]):=HST;clear c3 k3 k4 c5 c6 c7 c8 mE mF k2 m0 kE hA2 hW1 hW2 hty hF2;go_wp2;(try simp only[Exit.inBlock,Exit.then]);refine bodyPost_end (results_none rfl _ _ _) rfl ⟨v,vg,rfl,?_,F0⟩;rw[HST.out];refine MK.ek ?_ (fun g h=> .inl h);simpa[List.append_assoc]using K2};{replace HST:Hid (Lw.step c.fs c.f c.E c.O c.H at'=[]):=HST;clear c3 k3 k4 c5 c6 c7 c8 mE mF k2 m0 kE hA2 hW1 hW2 hty hF2;go_wp2;(try simp only[Exit.inBlock,Exit.then]);refine bodyPost_end (results_none rfl _ _ _) rfl ⟨v,vg,rfl,?_,F0⟩;rw[HST.out];refine MK.ek ?_ (fun g h=> .inl h);simpa[List.append_assoc]using K2};{replace HST:Hid (Lw.step c.fs c.f c.E c.O c.H at'=[(⟨1,tt+1,0,0,q,[]⟩,-1)]):=HST;clear c3 k3 k4 c5 c6 c7 c8 mE mF k2 m0 kE hA2 hW1 hW2 hty hF2;go_wp2_with fail;refine(aN c W0 W2 v vg (out) P hW K2 ⟨1,tt+1,0,0,q,[]⟩ none 0 0 (OI.nil _ _) (fun g e=>by cases e) (-1) (by omega)).mono ?_;rintro e X1 ⟨v1,fO,rfl,K1,F1⟩;dsimp only;clear s0 s1;have G1:=F0.trans F1;clear K2 F1 F0;go_wp2;(try simp only[Exit.inBlock,Exit.then]);refine bodyPost_end (results_none rfl _ _ _) rfl ⟨v1,fO,rfl,?_,G1⟩;rw[HST.out];refine MK.ek ?_ (fun g h=> .inl h);simpa[List.append_assoc]using K1};{replace HST:Hid (Lw.step c.fs c.f c.E c.O c.H at'=[(⟨2,tt+1,q,0,0,[]⟩,-1)]):=HST;clear c3 k3 k4 c5 c6 c7 c8 mE mF k2 m0 kE hA2 hW1 hW2 hty hF2;go_wp2_with fail;refine(aN c W0 W2 v vg (out) P hW K2 ⟨2,tt+1,q,0,0,[]⟩ none 0 0 (OI.nil _ _) (fun g e=>by cases e) (-1) (by omega)).mono ?_;rintro e X1 ⟨v1,fO,rfl,K1,F1⟩;dsimp only;clear s0 s1;have G1:=F0.trans F1;clear K2 F1 F0;go_wp2;(try simp only[Exit.inBlock,Exit.then]);refine bodyPost_end (results_none rfl _ _ _) rfl ⟨v1,fO,rfl,?_,G1⟩;rw[HST.out];refine MK.ek ?_ (fun g h=> .inl h);simpa[List.append_assoc]using K1};{replace HST:Hid (Lw.step c.fs c.f c.E c.O c.H at'=[(⟨2,q,tt,0,0,[]⟩,-1)]):=HST;clear c3 k3 k4 c5 c6 c7 c8 mE mF k2 m0 kE hA2 hW1 hW2 hty hF2;go_wp2_with fail;refine(aN c W0 W2 v vg (out) P hW K2 ⟨2,q,tt,0,0,[]⟩ none 0 0 (OI.nil _ _) (fun g e=>by cases e) (-1) (by omega)).mono ?_;rintro e X1 ⟨v1,fO,rfl,K1,F1⟩;dsimp only;clear s0 s1;have G1:=F0.trans F1;clear K2 F1 F0;go_wp2;(try simp only[Exit.inBlock,Exit.then]);refine bodyPost_end (results_none rfl _ _ _) rfl ⟨v1,fO,rfl,?_,G1⟩;rw[HST.out];refine MK.ek ?_ (fun g h=> .inl h);simpa[List.append_assoc]using K1};{replace HST:Hid (Lw.step c.fs c.f c.E c.O c.H at'=[(⟨2,q,tt,0,0,[]⟩,-1)]):=HST;clear c3 k3 k4 c5 c6 c7 c8 mE mF k2 m0 kE hA2 hW1 hW2 hty hF2;go_wp2_with fail;refine(aN c W0 W2 v vg (out) P hW K2 ⟨2,q,tt,0,0,[]⟩ none 0 0 (OI.nil _ _) (fun g e=>by cases e) (-1) (by omega)).mono ?_;rintro e X1 ⟨v1,fO,rfl,K1,F1⟩;dsimp only;clear s0 s1;have G1:=F0.trans F1;clear K2 F1 F0;go_wp2;(try simp only[Exit.inBlock,Exit.then]);refine bodyPost_end (results_none rfl _ _ _) rfl ⟨v1,fO,rfl,?_,G1⟩;rw[HST.out];refine MK.ek ?_ (fun g h=> .inl h);simpa[List.append_assoc]using K1};{replace HST:Hid (Lw.step c.fs c.f c.E c.O c.H at'=[(⟨3,tt-1,tt-1,tt,q,[]⟩,-1)]):=HST;clear c3 k3 k4 c5 c6 c7 c8 mE mF k2 m0 kE hA2 hW1 hW2 hty hF2;go_wp2_with fail;refine(aN c W0 W2 v vg (out) P hW K2 ⟨3,tt-1,tt-1,tt,q,[]⟩ none 0 0 (OI.nil _ _) (fun g e=>by cases e) (-1) (by omega)).mono ?_;rintro e X1 ⟨v1,fO,rfl,K1,F1⟩;dsimp only;clear s0 s1;have G1:=F0.trans F1;clear K2 F1 F0;go_wp2;(try simp only[Exit.inBlock,Exit.then]);refine bodyPost_end (results_none rfl _ _ _) rfl ⟨v1,fO,rfl,?_,G1⟩;rw[HST.out];refine MK.ek ?_ (fun g h=> .inl h);simpa[List.append_assoc]using K1};{replace HST:Hid (Lw.step c.fs c.f c.E c.O c.H at'=[(⟨4,tt,tt,0,0,[]⟩,-1)]):=HST;clear c3 k3 k4 c5 c6 c7 c8 mE mF k2 m0 kE hA2 hW1 hW2 hty hF2;go_wp2_with fail;refine(aN c W0 W2 v vg (out) P hW K2 ⟨4,tt,tt,0,0,[]⟩ none 0 0 (OI.nil _ _) (fun g e=>by cases e) (-1) (by omega)).mono ?_;rintro e X1 ⟨v1,fO,rfl,K1,F1⟩;dsimp only;clear s0 s1;have G1:=F0.trans F1;clear K2 F1 F0;go_wp2;(try simp only[Exit.inBlock,Exit.then]);refine bodyPost_end (results_none rfl _ _ _) rfl ⟨v1,fO,rfl,?_,G1⟩;rw[HST.out];refine MK.ek ?_ (fun g h=> .inl h);simpa[List.append_assoc]using K1};{replace HST:Hid (Lw.step c.fs c.f c.E c.O c.H at'=[(⟨8,tt,tt,0,q,[]⟩,-1)]):=HST;clear c3 k3 k4 c5 c6 c7 c8 mE mF k2 m0 kE hA2 hW1 hW2 hty hF2;go_wp2_with fail;refine(aN c W0 W2 v vg (out) P hW K2 ⟨8,tt,tt,0,q,[]⟩ none 0 0 (OI.nil _ _) (fun g e=>by cases e) (-1) (by omega)).mono ?_;rintro e X1 ⟨v1,fO,rfl,K1,F1⟩;dsimp only;clear s0 s1;have G1:=F0.trans F1;clear K2 F1 F0;go_wp2;(try simp only[Exit.inBlock,Exit.then]);refine bodyPost_end (results_none rfl _ _ _) rfl ⟨v1,fO,rfl,?_,G1⟩;rw[HST.out];refine MK.ek ?_ (fun g h=> .inl h);simpa[List.append_assoc]using K1};{replace HST:Hid (Lw.step c.fs c.f c.E c.O c.H at'=[(⟨9,0,tt-1,tt,q,[]⟩,-1)]):=HST;clear c3 k3 k4 c5 c6 c7 c8 mE mF k2 m0 kE hA2 hW1 hW2 hty hF2;go_wp2_with fail;refine(aN c W0 W2 v vg (out) P hW K2 ⟨9,0,tt-1,tt,q,[]⟩ none 0 0 (OI.nil _ _) (fun g e=>by cases e) (-1) (by omega)).mono ?_;rintro e X1 ⟨v1,fO,rfl,K1,F1⟩;dsimp only;clear s0 s1;have G1:=F0.trans F1;clear K2 F1 F0;go_wp2;(try simp only[Exit.inBlock,Exit.then]);refine bodyPost_end (results_none rfl _ _ _) rfl ⟨v1,fO,rfl,?_,G1⟩;rw[HST.out];refine MK.ek ?_ (fun g h=> .inl h);simpa[List.append_assoc]using K1};replace HST:Hid (Lw.step c.fs c.f c.E c.O c.H at'=[(⟨11,0,0,0,0,[]⟩,-1)]):=HST;clear c3 k3 k4 c5 c6 c7 c8 mE mF k2 m0 kE hA2 hW1 hW2 hty hF2;go_wp2_with fail;refine(aN c W0 W2 v vg (out) P hW K2 ⟨11,0,0,0,0,[]⟩ none 0 0 (OI.nil _ _) (fun g e=>by cases e) (-1) (by omega)).mono ?_;rintro e X1 ⟨v1,fO,rfl,K1,F1⟩;dsimp only;clear s0 s1;have G1:=F0.trans F1;clear K2 F1 F0;go_wp2;(try simp only[Exit.inBlock,Exit.then]);refine bodyPost_end (results_none rfl _ _ _) rfl ⟨v1,fO,rfl,?_,G1⟩;rw[HST.out];refine MK.ek ?_ (fun g h=> .inl h);simpa[List.append_assoc]using K1
theorem Lw.xO {c:LX}{W0:World}(T:TX c W0){at':Nat}(hat:at'<c.f.b.length)(h:aI.op c.f.b at'=13\/aI.op c.f.b at'=14):0<=Hg.arg c.f.b at'/\Hg.arg c.f.b at'<=9:=by have hok:St.ok (aI.op c.f.b at') (Hg.arg c.f.b at')=true:=St.bi T.all hat;simp only[St.ok,au,Wd.bP]at hok;(have h1:St.least (aI.op c.f.b at')=0:=by rcases h with h|h<;>rw[h]<;>rfl);(have h2:St.bV (aI.op c.f.b at')=9:=by rcases h with h|h<;>rw[h]<;>rfl);omega
theorem Lw.low {f:Fn}{E H:List Int}{j:Nat}{a hh:Int}(hJ:Hg.lT f E H j hh a):∀t:Nat,a.toNat<(aI.bQ f.b E j j).length->(aI.bQ f.b E j j).getD a.toNat (-1)=(t:Int)->0<=H.getD t 0:=fun t hlt ht=>by
 obtain⟨t',e',-,-,h0,-⟩:=hJ.1 hlt
 rw[ht]at e'
 have:t=t':=by omega
 rw[this]
 exact h0
theorem Cz {c:LX}{W0 W:World}{v vg:Value}{out:List (Ln×Int)}{P:Nat->Prop}(T:TX c W0)(K:MK c W0 W v vg out P)(fa:Option Addr)(fl fc:Nat)(d:ByteArray)(oa:Option Addr)(oc:Nat)(hF:FL W0 fa fl c.fs)(hO:IL W0 oa c.f.b.length c.O)(at':Nat)(hat:at'<c.f.b.length)(hr:0<=c.H.getD at' 0)(hlen:out.length<=900)(p:Int)(hp:aI.op c.f.b at'=p)(hk:p=10\/p=11\/p=13\/p=15\/p=14):Calls Tryz.prog 84 #[.pointer (some ⟨c.B,0,none⟩), .agg #[.slice fa fl fc, .string d], .slice oa c.f.b.length oc, .int .i64 at'] W fun e w'=>∃v' je,e= .returned (.tuple #[])/\MK c W0 w' v' je (out++Lw.step c.fs c.f c.E c.O c.H at') (fun g=>P g\/W.heap.size<=g)/\FX c v vg v' je W w':=by have hty:=T.acc.typ at' hat hr;obtain⟨hH,hE,hS⟩:=T.il K;have yF:=hO.kept K.dR;have hF1:=hF.kept K.dR;have hLen:=T.ok.2.2.2.2.2;have htop:=T.acc.mH at' hat;have hW:=T.lt;have hwd:0<=Lw.wd c.f/\Lw.wd c.f<=6:=by{have:=T.ok;unfold Lw.wd;omega};have HST:Hid (Lw.step c.fs c.f c.E c.O c.H at'=Lw.BZ c.fs c.f c.E c.O c.H at' p (Hg.arg c.f.b at') (Lw.bx c.f (c.H.getD at' 0-1))):=by{show _=_;unfold Lw.step;rw[hp]};have hbx0:=K.box;unfold LX.dZ at hbx0;obtain⟨bl,hbl⟩:∃n,c.f.b.length=n:=⟨_,rfl⟩;rw[hbl]at hH hE hS yF hLen hat hbx0 ⊢;have Ie:(at':Int)<(bl:Int):=by{omega};have cS:∃b o,c.ba=some ⟨b,o,none⟩/\b<W.heap.size/\W.cell? ⟨b,o+at'*2,none⟩=some (.int .i64 (aI.op c.f.b at'))/\W.cell? ⟨b,o+at'*2+1,none⟩=some (.int .i64 (Hg.arg c.f.b at')):=by{obtain⟨hl,-,h3|⟨b,o,e,hb,hh⟩⟩:=hS;{omega};exact⟨b,o,e,hb,(hh at' hat).1,(hh at' hat).2⟩};obtain⟨sb,so,es,lS,wy,cS2⟩:=cS;have cH:∃b o,c.ha=some ⟨b,o,none⟩/\b<W.heap.size/\W.cell? ⟨b,o+at',none⟩=some (.int .i64 (c.H.getD at' 0)):=by{obtain⟨hl,-,h3|⟨b,o,e,hb,hh⟩⟩:=hH;{omega};exact⟨b,o,e,hb,hh at' hat⟩};obtain⟨hb',ho',eh,lH,cH⟩:=cH;have cE:∃b o,c.ea=some ⟨b,o,none⟩/\b<W.heap.size/\W.cell? ⟨b,o+at',none⟩=some (.int .i64 (aI.aU c.E at')):=by{obtain⟨hl,-,h3|⟨b,o,e,hb,hh⟩⟩:=hE;{omega};refine⟨b,o,e,hb,?_⟩;rw[hh at' hat];unfold aI.aU;rw[ah,ah,ai (by omega)];rfl};obtain⟨eb,eo,ee,lE,cE⟩:=cE;have cO:∃b o,oa=some ⟨b,o,none⟩/\b<W.heap.size/\W.cell? ⟨b,o+at',none⟩=some (.int .i64 (aI.aU c.O at')):=by{obtain⟨hl,-,h3|⟨b,o,e,hb,hh⟩⟩:=yF;{omega};refine⟨b,o,e,hb,?_⟩;rw[hh at' hat];unfold aI.aU;rw[ah,ah,ai (by omega)];rfl};obtain⟨ob,oo,rfl,lO,cO⟩:=cO;rw[hp]at wy;obtain⟨q,hq⟩:∃q,Hg.arg c.f.b at'=q:=⟨_,rfl⟩;obtain⟨u,hu⟩:∃u,c.H.getD at' 0=u:=⟨_,rfl⟩;rw[hq]at cS2 HST;rw[hu]at cH htop hr HST;have d2:=(hbx0.2 2 _ rfl).1;have d3:=(hbx0.2 3 _ rfl).1;have d4:=(hbx0.2 4 _ rfl).1;have d5:=(hbx0.2 5 _ rfl).1;have yE:=hbx0.1;rw[eh]at d3;rw[ee]at d4;rw[es]at d5;have hB1:=aA W (.cells #[.slice fa fl fc, .string d] 87);have hA1:iw (W.alloc (.cells #[.slice fa fl fc, .string d] 87)) W.heap.size 87 [.slice fa fl fc, .string d]:=heap_alloc_last W _;obtain⟨W1,hW1⟩:∃X,W.alloc (.cells #[.slice fa fl fc, .string d] 87)=X:=⟨_,rfl⟩;rw[hW1]at hB1 hA1;have hB2:=aA W1 (.cells #[.int .i64 (p), .int .i64 q] 117);have hA2:iw (W1.alloc (.cells #[.int .i64 (p), .int .i64 q] 117)) W1.heap.size 117 [.int .i64 (p), .int .i64 q]:=heap_alloc_last W1 _;obtain⟨W2,hW2⟩:∃X,W1.alloc (.cells #[.int .i64 (p), .int .i64 q] 117)=X:=⟨_,rfl⟩;rw[hW2]at hB2 hA2;have hB:=hB1.trans (hB2.mono hB1.size);have K2:=K.kept hB;have kE:=hA1.kept hB2;have hcon:=fZ T K2 (u-1) (by omega) (by omega);have Ig:-1<=Lw.bx c.f (u-1)/\Lw.bx c.f (u-1)<=26:=by{unfold Lw.bx;omega};obtain⟨tt,rJ⟩:∃tt,Lw.bx c.f (u-1)=tt:=⟨_,rfl⟩;rw[rJ]at hcon Ig HST;have c3:=aP hB1 d3;have k3:=aP hB d3;have k4:=aP hB d4;have c5:=aP hB1 d5;have c6:=aP hB1 wy;have c7:=aP hB1 cS2;have c8:=aP hB cH;have mE:=aP hB cE;have mF:=aP hB cO;have k2:=aP hB d2;have s0:=hA2.cell (j:=0) rfl;have s1:=hA2.cell (j:=1) rfl;have m0:=kE.cell (j:=0) rfl;have F0:FX c v vg v vg W W2:=FX.below hB;have hF2:=hF1.kept hB;have HQ:=ae (ak hp (ak hq (ak hbl (ak hu hty))));clear hH hE hS hO yF hF hF1 d2 d3 d4 d5 wy cS2 cH cE cO hbx0 hA1 hB1 hB2 K hu rJ hp hq hbl;go_enter Tryz.func84,Tryz.ntmps84;go_wp2_with fail;refine hcon.mono ?_;rintro e w3 ⟨rfl,aQ⟩;subst w3;dsimp only;clear hcon;rcases hk with rfl|rfl|rfl|rfl|rfl;{obtain⟨z,hz⟩:∃z,aI.aU c.E at'=z:=⟨_,rfl⟩;obtain⟨y,hy⟩:∃y,aI.aU c.O at'=y:=⟨_,rfl⟩;have Bu:0<=y->y<=80:=fun h0=>by{have f2:=T.acc.H6.f2 at' (by rw[HQ.out.2.2.1];exact hat) (by rw[hy];exact h0);have f3:=T.acc.H6.f3 at' (by rw[HQ.out.2.2.1];exact hat) (by omega);rw[HQ.out.2.2.1]at f3;omega};rw[hz]at mE;rw[hy]at mF;by_cases hy0:0<=y;{have hyb:=Bu hy0;replace HST:Hid (Lw.step c.fs c.f c.E c.O c.H at'=[(⟨4,tt,tt,0,0,[]⟩,-1),(⟨6,0,tt,0,0,[]⟩,y+1)]):=by{show _=_;rw[HST.out,←hy];show[_,(_,if 0<=aI.aU c.O at' then _ else _)]=_;rw[ay (by rw[hy];exact hy0)]};clear Bu hz hy;clear c3 k3 c5 c6 c7 c8 k2 m0 kE hA2 hW1 hW2 hty hF2;go_wp2_with fail;refine(aN c W0 W2 v vg (out) P hW K2 ⟨4,tt,tt,0,0,[]⟩ none 0 0 (OI.nil _ _) (fun g e=>by cases e) (-1) (by omega)).mono ?_;rintro e X1 ⟨v1,fO,rfl,K1,F1⟩;dsimp only;clear s0 s1;have G1:=F0.trans F1;clear K2 F1 F0;go_wp2_with fail;refine(aN c W0 X1 v1 fO (out++[(⟨4,tt,tt,0,0,[]⟩,(-1))]) P hW K1 ⟨6,0,tt,0,0,[]⟩ none 0 0 (OI.nil _ _) (fun g e=>by cases e) (y+1) (by simp only[List.length_append,List.length_singleton];omega)).mono ?_;rintro e X2 ⟨v2,nS,rfl,K2,F2⟩;dsimp only;have G2:=G1.trans F2;clear K1 F2 G1;go_wp2;(try simp only[Exit.inBlock,Exit.then]);refine bodyPost_end (results_none rfl _ _ _) rfl ⟨v2,nS,rfl,?_,G2⟩;rw[HST.out];refine MK.ek ?_ (fun g h=> .inl h);simpa[List.append_assoc]using K2};replace HST:Hid (Lw.step c.fs c.f c.E c.O c.H at'=[(⟨4,tt,tt,0,0,[]⟩,-1),(⟨6,0,tt,0,0,[]⟩,z)]):=by{show _=_;rw[HST.out,←hz];show[_,(_,if 0<=aI.aU c.O at' then _ else _)]=_;rw[ax (by rw[hy];exact hy0)]};clear Bu hz hy;clear c3 k3 c5 c6 c7 c8 k2 m0 kE hA2 hW1 hW2 hty hF2;go_wp2_with fail;refine(aN c W0 W2 v vg (out) P hW K2 ⟨4,tt,tt,0,0,[]⟩ none 0 0 (OI.nil _ _) (fun g e=>by cases e) (-1) (by omega)).mono ?_;rintro e X1 ⟨v1,fO,rfl,K1,F1⟩;dsimp only;clear s0 s1;have G1:=F0.trans F1;clear K2 F1 F0;go_wp2_with fail;refine(aN c W0 X1 v1 fO (out++[(⟨4,tt,tt,0,0,[]⟩,(-1))]) P hW K1 ⟨6,0,tt,0,0,[]⟩ none 0 0 (OI.nil _ _) (fun g e=>by cases e) (z) (by simp only[List.length_append,List.length_singleton];omega)).mono ?_;rintro e X2 ⟨v2,nS,rfl,K2,F2⟩;dsimp only;have G2:=G1.trans F2;clear K1 F2 G1;go_wp2;(try simp only[Exit.inBlock,Exit.then]);refine bodyPost_end (results_none rfl _ _ _) rfl ⟨v2,nS,rfl,?_,G2⟩;rw[HST.out];refine MK.ek ?_ (fun g h=> .inl h);simpa[List.append_assoc]using K2};{obtain⟨z,hz⟩:∃z,aI.aU c.E at'=z:=⟨_,rfl⟩;rw[hz]at mE;replace HST:Hid (Lw.step c.fs c.f c.E c.O c.H at'=[(⟨5,0,0,0,0,[]⟩,z)]):=by{show _=_;rw[HST.out,←hz];rfl};clear hz;clear c3 k3 c5 c6 c7 c8 mF k2 m0 kE hA2 hW1 hW2 hty hF2;go_wp2_with fail;refine(aN c W0 W2 v vg (out) P hW K2 ⟨5,0,0,0,0,[]⟩ none 0 0 (OI.nil _ _) (fun g e=>by cases e) (z) (by omega)).mono ?_;rintro e X1 ⟨v1,fO,rfl,K1,F1⟩;dsimp only;clear s0 s1;have G1:=F0.trans F1;clear K2 F1 F0;go_wp2;(try simp only[Exit.inBlock,Exit.then]);refine bodyPost_end (results_none rfl _ _ _) rfl ⟨v1,fO,rfl,?_,G1⟩;rw[HST.out];refine MK.ek ?_ (fun g h=> .inl h);simpa[List.append_assoc]using K1};{have TF:0<=q/\q<=9:=by{have:=Lw.xO T (at':=at') (by rw[HQ.out.2.2.1];exact hat) (by rw[HQ.out.1];omega);rw[HQ.out.2.1]at this;exact this};have hlow:=Lw.low (HQ.out.2.2.2.2.jump HQ.out.1);rw[HQ.out.2.1]at hlow;have hL:=gy T K2 at' (by rw[HQ.out.2.2.1];exact hat) q (by omega) (by omega) hlow;obtain⟨⟨l1,l2,l3⟩,hl⟩:∃l,Lw.dE c.f c.E c.H at' q=l:=⟨_,rfl⟩;rw[hl]at hL;replace HST:Hid (Lw.step c.fs c.f c.E c.O c.H at'=(if l3=1/\l2≠tt then[(⟨2,l2,tt,0,0,[]⟩,-1)]else[])++[(⟨5,0,0,0,0,[]⟩,l1)]):=by{show _=_;rw[HST.out];show(((if(Lw.dE c.f c.E c.H at' q).2.2=1/\(Lw.dE c.f c.E c.H at' q).2.1≠tt then[(⟨2,(Lw.dE c.f c.E c.H at' q).2.1,tt,0,0,[]⟩,-1)]else[])++[(⟨5,0,0,0,0,[]⟩,(Lw.dE c.f c.E c.H at' q).1)]):List (Ln×Int))=_;rw[hl]};clear c3 k3 k4 c5 c6 c7 c8 mE mF k2 m0 kE hA2 hW1 hW2 hty hF2;clear hl hlow;go_wp2_with fail;refine hL.mono ?_;rintro e X0 ⟨rfl,hBL⟩;dsimp only;have K0:=K2.kept hBL;have nT:=F0.trans (FX.below (c:=c) (v:=v) (vg:=vg) hBL);clear hL K2 F0 hBL s0 s1;by_cases h3:l3=1;{subst h3;by_cases h2:l2=tt;{replace HST:Hid (Lw.step c.fs c.f c.E c.O c.H at'=[(⟨5,0,0,0,0,[]⟩,l1)]):=by{show _=_;rw[HST.out,ax (fun h=>h.2 h2)];rfl};subst h2;go_wp2_with fail;refine(aN c W0 X0 v vg (out) P hW K0 ⟨5,0,0,0,0,[]⟩ none 0 0 (OI.nil _ _) (fun g e=>by cases e) (l1) (by omega)).mono ?_;rintro e X1 ⟨v1,fO,rfl,K1,F1⟩;dsimp only;have G1:=nT.trans F1;clear K0 F1 nT;go_wp2;(try simp only[Exit.inBlock,Exit.then]);refine bodyPost_end (results_none rfl _ _ _) rfl ⟨v1,fO,rfl,?_,G1⟩;rw[HST.out];refine MK.ek ?_ (fun g h=> .inl h);simpa[List.append_assoc]using K1};replace HST:Hid (Lw.step c.fs c.f c.E c.O c.H at'=[(⟨2,l2,tt,0,0,[]⟩,-1),(⟨5,0,0,0,0,[]⟩,l1)]):=by{show _=_;rw[HST.out,ay ⟨rfl,h2⟩];rfl};go_wp2_with fail;refine(aN c W0 X0 v vg (out) P hW K0 ⟨2,l2,tt,0,0,[]⟩ none 0 0 (OI.nil _ _) (fun g e=>by cases e) (-1) (by omega)).mono ?_;rintro e X1 ⟨v1,fO,rfl,K1,F1⟩;dsimp only;have G1:=nT.trans F1;clear K0 F1 nT;go_wp2_with fail;refine(aN c W0 X1 v1 fO (out++[(⟨2,l2,tt,0,0,[]⟩,(-1))]) P hW K1 ⟨5,0,0,0,0,[]⟩ none 0 0 (OI.nil _ _) (fun g e=>by cases e) (l1) (by simp only[List.length_append,List.length_singleton];omega)).mono ?_;rintro e X2 ⟨v2,nS,rfl,K2,F2⟩;dsimp only;have G2:=G1.trans F2;clear K1 F2 G1;go_wp2;(try simp only[Exit.inBlock,Exit.then]);refine bodyPost_end (results_none rfl _ _ _) rfl ⟨v2,nS,rfl,?_,G2⟩;rw[HST.out];refine MK.ek ?_ (fun g h=> .inl h);simpa[List.append_assoc]using K2};replace HST:Hid (Lw.step c.fs c.f c.E c.O c.H at'=[(⟨5,0,0,0,0,[]⟩,l1)]):=by{show _=_;rw[HST.out,ax (fun h=>h3 h.1)];rfl};have QK:(l3==1)=false:=by{simpa using h3};go_wp2_with fail;refine(aN c W0 X0 v vg (out) P hW K0 ⟨5,0,0,0,0,[]⟩ none 0 0 (OI.nil _ _) (fun g e=>by cases e) (l1) (by omega)).mono ?_;rintro e X1 ⟨v1,fO,rfl,K1,F1⟩;dsimp only;have G1:=nT.trans F1;clear K0 F1 nT;go_wp2;(try simp only[Exit.inBlock,Exit.then]);refine bodyPost_end (results_none rfl _ _ _) rfl ⟨v1,fO,rfl,?_,G1⟩;rw[HST.out];refine MK.ek ?_ (fun g h=> .inl h);simpa[List.append_assoc]using K1};{have hlow:∀t:Nat,(99:Int).toNat<(aI.bQ c.f.b c.E at' at').length->(aI.bQ c.f.b c.E at' at').getD (99:Int).toNat (-1)=(t:Int)->0<=c.H.getD t 0:=fun t h=>by{have:=aI.lQ c.f.b c.E at' at';have e:(99:Int).toNat=99:=rfl;omega};have hL:=gy T K2 at' (by rw[HQ.out.2.2.1];exact hat) 99 (by omega) (by omega) hlow;obtain⟨⟨l1,l2,l3⟩,hl⟩:∃l,Lw.dE c.f c.E c.H at' 99=l:=⟨_,rfl⟩;rw[hl]at hL;replace HST:Hid (Lw.step c.fs c.f c.E c.O c.H at'=(if l3=1/\l2≠tt then[(⟨2,l2,tt,0,0,[]⟩,-1)]else[])++[(⟨5,0,0,0,0,[]⟩,l1)]):=by{show _=_;rw[HST.out];show(((if(Lw.dE c.f c.E c.H at' 99).2.2=1/\(Lw.dE c.f c.E c.H at' 99).2.1≠tt then[(⟨2,(Lw.dE c.f c.E c.H at' 99).2.1,tt,0,0,[]⟩,-1)]else[])++[(⟨5,0,0,0,0,[]⟩,(Lw.dE c.f c.E c.H at' 99).1)]):List (Ln×Int))=_;rw[hl]};clear c3 k3 k4 c5 c6 c7 c8 mE mF k2 m0 kE hA2 hW1 hW2 hty hF2;clear hl hlow;go_wp2_with fail;refine hL.mono ?_;rintro e X0 ⟨rfl,hBL⟩;dsimp only;have K0:=K2.kept hBL;have nT:=F0.trans (FX.below (c:=c) (v:=v) (vg:=vg) hBL);clear hL K2 F0 hBL s0 s1;by_cases h3:l3=1;{subst h3;by_cases h2:l2=tt;{replace HST:Hid (Lw.step c.fs c.f c.E c.O c.H at'=[(⟨5,0,0,0,0,[]⟩,l1)]):=by{show _=_;rw[HST.out,ax (fun h=>h.2 h2)];rfl};subst h2;go_wp2_with fail;refine(aN c W0 X0 v vg (out) P hW K0 ⟨5,0,0,0,0,[]⟩ none 0 0 (OI.nil _ _) (fun g e=>by cases e) (l1) (by omega)).mono ?_;rintro e X1 ⟨v1,fO,rfl,K1,F1⟩;dsimp only;have G1:=nT.trans F1;clear K0 F1 nT;go_wp2;(try simp only[Exit.inBlock,Exit.then]);refine bodyPost_end (results_none rfl _ _ _) rfl ⟨v1,fO,rfl,?_,G1⟩;rw[HST.out];refine MK.ek ?_ (fun g h=> .inl h);simpa[List.append_assoc]using K1};replace HST:Hid (Lw.step c.fs c.f c.E c.O c.H at'=[(⟨2,l2,tt,0,0,[]⟩,-1),(⟨5,0,0,0,0,[]⟩,l1)]):=by{show _=_;rw[HST.out,ay ⟨rfl,h2⟩];rfl};go_wp2_with fail;refine(aN c W0 X0 v vg (out) P hW K0 ⟨2,l2,tt,0,0,[]⟩ none 0 0 (OI.nil _ _) (fun g e=>by cases e) (-1) (by omega)).mono ?_;rintro e X1 ⟨v1,fO,rfl,K1,F1⟩;dsimp only;have G1:=nT.trans F1;clear K0 F1 nT;go_wp2_with fail;refine(aN c W0 X1 v1 fO (out++[(⟨2,l2,tt,0,0,[]⟩,(-1))]) P hW K1 ⟨5,0,0,0,0,[]⟩ none 0 0 (OI.nil _ _) (fun g e=>by cases e) (l1) (by simp only[List.length_append,List.length_singleton];omega)).mono ?_;rintro e X2 ⟨v2,nS,rfl,K2,F2⟩;dsimp only;have G2:=G1.trans F2;clear K1 F2 G1;go_wp2;(try simp only[Exit.inBlock,Exit.then]);refine bodyPost_end (results_none rfl _ _ _) rfl ⟨v2,nS,rfl,?_,G2⟩;rw[HST.out];refine MK.ek ?_ (fun g h=> .inl h);simpa[List.append_assoc]using K2};replace HST:Hid (Lw.step c.fs c.f c.E c.O c.H at'=[(⟨5,0,0,0,0,[]⟩,l1)]):=by{show _=_;rw[HST.out,ax (fun h=>h3 h.1)];rfl};have QK:(l3==1)=false:=by{simpa using h3};go_wp2_with fail;refine(aN c W0 X0 v vg (out) P hW K0 ⟨5,0,0,0,0,[]⟩ none 0 0 (OI.nil _ _) (fun g e=>by cases e) (l1) (by omega)).mono ?_;rintro e X1 ⟨v1,fO,rfl,K1,F1⟩;dsimp only;have G1:=nT.trans F1;clear K0 F1 nT;go_wp2;(try simp only[Exit.inBlock,Exit.then]);refine bodyPost_end (results_none rfl _ _ _) rfl ⟨v1,fO,rfl,?_,G1⟩;rw[HST.out];refine MK.ek ?_ (fun g h=> .inl h);simpa[List.append_assoc]using K1};have TF:0<=q/\q<=9:=by{have:=Lw.xO T (at':=at') (by rw[HQ.out.2.2.1];exact hat) (by rw[HQ.out.1];omega);rw[HQ.out.2.1]at this;exact this};have hlow:=Lw.low (HQ.out.2.2.2.2.Tt HQ.out.1);rw[HQ.out.2.1]at hlow;have hL:=gy T K2 at' (by rw[HQ.out.2.2.1];exact hat) q (by omega) (by omega) hlow;obtain⟨⟨l1,l2,l3⟩,hl⟩:∃l,Lw.dE c.f c.E c.H at' q=l:=⟨_,rfl⟩;rw[hl]at hL;replace HST:Hid (Lw.step c.fs c.f c.E c.O c.H at'=if l3=1/\l2≠tt-1 then[(⟨4,tt,tt,0,0,[]⟩,-1),(⟨6,0,tt,0,0,[]⟩,(at':Int)+1),(⟨2,l2,tt-1,0,0,[]⟩,-1),(⟨5,0,0,0,0,[]⟩,l1)]else[(⟨6,0,tt,0,0,[]⟩,l1)]):=by{show _=_;rw[HST.out];show((if(Lw.dE c.f c.E c.H at' q).2.2=1/\(Lw.dE c.f c.E c.H at' q).2.1≠tt-1 then[(⟨4,tt,tt,0,0,[]⟩,-1),(⟨6,0,tt,0,0,[]⟩,(at':Int)+1),(⟨2,(Lw.dE c.f c.E c.H at' q).2.1,tt-1,0,0,[]⟩,-1),(⟨5,0,0,0,0,[]⟩,(Lw.dE c.f c.E c.H at' q).1)]else[(⟨6,0,tt,0,0,[]⟩,(Lw.dE c.f c.E c.H at' q).1)]):List (Ln×Int))=_;rw[hl]};clear c3 k3 k4 c5 c6 c7 c8 mE mF k2 m0 kE hA2 hW1 hW2 hty hF2;clear hl hlow;go_wp2_with fail;refine hL.mono ?_;rintro e X0 ⟨rfl,hBL⟩;dsimp only;have K0:=K2.kept hBL;have nT:=F0.trans (FX.below (c:=c) (v:=v) (vg:=vg) hBL);clear hL K2 F0 hBL s0 s1;by_cases h3:l3=1;{subst h3;by_cases h2:l2=tt-1;{replace HST:Hid (Lw.step c.fs c.f c.E c.O c.H at'=[(⟨6,0,tt,0,0,[]⟩,l1)]):=by{show _=_;rw[HST.out,ax (fun h=>h.2 h2)]};subst h2;go_wp2_with fail;refine(aN c W0 X0 v vg (out) P hW K0 ⟨6,0,tt,0,0,[]⟩ none 0 0 (OI.nil _ _) (fun g e=>by cases e) (l1) (by omega)).mono ?_;rintro e X1 ⟨v1,fO,rfl,K1,F1⟩;dsimp only;have G1:=nT.trans F1;clear K0 F1 nT;go_wp2;(try simp only[Exit.inBlock,Exit.then]);refine bodyPost_end (results_none rfl _ _ _) rfl ⟨v1,fO,rfl,?_,G1⟩;rw[HST.out];refine MK.ek ?_ (fun g h=> .inl h);simpa[List.append_assoc]using K1};replace HST:Hid (Lw.step c.fs c.f c.E c.O c.H at'=[(⟨4,tt,tt,0,0,[]⟩,-1),(⟨6,0,tt,0,0,[]⟩,(at':Int)+1),(⟨2,l2,tt-1,0,0,[]⟩,-1),(⟨5,0,0,0,0,[]⟩,l1)]):=by{show _=_;rw[HST.out,ay ⟨rfl,h2⟩]};go_wp2_with fail;refine(aN c W0 X0 v vg (out) P hW K0 ⟨4,tt,tt,0,0,[]⟩ none 0 0 (OI.nil _ _) (fun g e=>by cases e) (-1) (by omega)).mono ?_;rintro e X1 ⟨v1,fO,rfl,K1,F1⟩;dsimp only;have G1:=nT.trans F1;clear K0 F1 nT;go_wp2_with fail;refine(aN c W0 X1 v1 fO (out++[(⟨4,tt,tt,0,0,[]⟩,(-1))]) P hW K1 ⟨6,0,tt,0,0,[]⟩ none 0 0 (OI.nil _ _) (fun g e=>by cases e) ((at':Int)+1) (by simp only[List.length_append,List.length_singleton];omega)).mono ?_;rintro e X2 ⟨v2,nS,rfl,K2,F2⟩;dsimp only;have G2:=G1.trans F2;clear K1 F2 G1;go_wp2_with fail;refine(aN c W0 X2 v2 nS (out++[(⟨4,tt,tt,0,0,[]⟩,(-1))]++[(⟨6,0,tt,0,0,[]⟩,((at':Int)+1))]) P hW K2 ⟨2,l2,tt-1,0,0,[]⟩ none 0 0 (OI.nil _ _) (fun g e=>by cases e) (-1) (by simp only[List.length_append,List.length_singleton];omega)).mono ?_;rintro e X3 ⟨v3,Ih,rfl,K3,F3⟩;dsimp only;have G3:=G2.trans F3;clear K2 F3 G2;go_wp2_with fail;refine(aN c W0 X3 v3 Ih (out++[(⟨4,tt,tt,0,0,[]⟩,(-1))]++[(⟨6,0,tt,0,0,[]⟩,((at':Int)+1))]++[(⟨2,l2,tt-1,0,0,[]⟩,(-1))]) P hW K3 ⟨5,0,0,0,0,[]⟩ none 0 0 (OI.nil _ _) (fun g e=>by cases e) (l1) (by simp only[List.length_append,List.length_singleton];omega)).mono ?_;rintro e X4 ⟨v4,TG,rfl,K4,F4⟩;dsimp only;have G4:=G3.trans F4;clear K3 F4 G3;go_wp2;(try simp only[Exit.inBlock,Exit.then]);refine bodyPost_ret (results_none rfl _ _ _) rfl ⟨v4,TG,rfl,?_,G4⟩;rw[HST.out];refine MK.ek ?_ (fun g h=> .inl h);simpa[List.append_assoc]using K4};replace HST:Hid (Lw.step c.fs c.f c.E c.O c.H at'=[(⟨6,0,tt,0,0,[]⟩,l1)]):=by{show _=_;rw[HST.out,ax (fun h=>h3 h.1)]};have QK:(l3==1)=false:=by{simpa using h3};go_wp2_with fail;refine(aN c W0 X0 v vg (out) P hW K0 ⟨6,0,tt,0,0,[]⟩ none 0 0 (OI.nil _ _) (fun g e=>by cases e) (l1) (by omega)).mono ?_;rintro e X1 ⟨v1,fO,rfl,K1,F1⟩;dsimp only;have G1:=nT.trans F1;clear K0 F1 nT;go_wp2;(try simp only[Exit.inBlock,Exit.then]);refine bodyPost_end (results_none rfl _ _ _) rfl ⟨v1,fO,rfl,?_,G1⟩;rw[HST.out];refine MK.ek ?_ (fun g h=> .inl h);simpa[List.append_assoc]using K1
theorem Lw.yg {c:LX}{W0:World}(T:TX c W0){at':Nat}(hat:at'<c.f.b.length)(h:aI.op c.f.b at'=16):0<=Hg.arg c.f.b at':=by have hok:St.ok (aI.op c.f.b at') (Hg.arg c.f.b at')=true:=St.bi T.all hat;simp only[St.ok,au,Wd.bP]at hok;have h1:St.least (aI.op c.f.b at')=0:=by{rw[h];rfl};omega
def Lw.eU (t n:Int)(k:Nat):List Int:=(List.range k).map fun(i:Nat)=>t-n+1+(i:Int)
theorem Lw.qH (t n:Int)(k:Nat):Lw.eU t n (k+1)=Lw.eU t n k++[t-n+1+(k:Int)]:=by unfold Lw.eU;rw[List.range_succ,List.map_append];rfl
theorem Ay {W:World}{a:Option Addr}{n k:Nat}{fs:List Fn}(h:FL W a n fs)(hk:k<n):∃b off,a=some ⟨b,off,none⟩/\b<W.heap.size/\∃ba bl bc,W.cell? ⟨b,off+k*4,none⟩=some (.int .i64 (fs.getD k .z).a)/\W.cell? ⟨b,off+k*4+1,none⟩=some (.int .i64 (fs.getD k .z).l)/\W.cell? ⟨b,off+k*4+2,none⟩=some (.int .i64 (fs.getD k .z).g)/\W.cell? ⟨b,off+k*4+3,none⟩=some (.slice ba bl bc):=by obtain⟨hl,hm,h0|⟨b,off,e,hb,hx⟩⟩:=h;{omega};obtain⟨x0,x1,x2,ba,bl,bc,x3,-⟩:=hx k hk;exact⟨b,off,e,hb,ba,bl,bc,x0,x1,x2,x3⟩
theorem Db {c:LX} {W0 W:World} {v vg:Value} {out:List (Ln×Int)} {P:Nat->Prop} (T:TX c W0) (K:MK c W0 W v vg out P) (fa:Option Addr) (fl fc:Nat) (d:ByteArray) (oa:Option Addr) (oc:Nat) (hF:FL W0 fa fl c.fs) (hO:IL W0 oa c.f.b.length c.O) (at':Nat) (hat:at'<c.f.b.length) (hr:0<=c.H.getD at' 0) (hlen:out.length<=900) (p:Int) (hp:aI.op c.f.b at'=p) (hk:Hid (p=16)):Calls Tryz.prog 84 #[.pointer (some ⟨c.B,0,none⟩), .agg #[.slice fa fl fc, .string d], .slice oa c.f.b.length oc, .int .i64 at'] W fun e w'=>∃v' je,e= .returned (.tuple #[])/\MK c W0 w' v' je (out++Lw.step c.fs c.f c.E c.O c.H at') (fun g=>P g\/W.heap.size<=g)/\FX c v vg v' je W w':=by
 have hty:=T.acc.typ at' hat hr
 obtain⟨hH,hE,hS⟩:=T.il K
 have yF:=hO.kept K.dR
 have hF1:=hF.kept K.dR
 have hLen:=T.ok.2.2.2.2.2
 have htop:=T.acc.mH at' hat
 have hW:=T.lt
 have hwd:0<=Lw.wd c.f/\Lw.wd c.f<=6:=by have:=T.ok;unfold Lw.wd;omega
 have HST:Hid (Lw.step c.fs c.f c.E c.O c.H at'=Lw.BZ c.fs c.f c.E c.O c.H at' p (Hg.arg c.f.b at') (Lw.bx c.f (c.H.getD at' 0-1))):=by show _=_;unfold Lw.step;rw[hp]
 have hbx0:=K.box
 unfold LX.dZ at hbx0
 obtain⟨bl,hbl⟩:∃n,c.f.b.length=n:=⟨_,rfl⟩
 rw[hbl]at hH hE hS yF hLen hat hbx0 ⊢
 have Ie:(at':Int)<(bl:Int):=by omega
 have cS:∃b o,c.ba=some ⟨b,o,none⟩/\b<W.heap.size/\W.cell? ⟨b,o+at'*2,none⟩=some (.int .i64 (aI.op c.f.b at'))/\W.cell? ⟨b,o+at'*2+1,none⟩=some (.int .i64 (Hg.arg c.f.b at')):=by obtain⟨hl,-,h3|⟨b,o,e,hb,hh⟩⟩:=hS;{omega};exact⟨b,o,e,hb,(hh at' hat).1,(hh at' hat).2⟩
 obtain⟨sb,so,es,lS,wy,cS2⟩:=cS
 have cH:∃b o,c.ha=some ⟨b,o,none⟩/\b<W.heap.size/\W.cell? ⟨b,o+at',none⟩=some (.int .i64 (c.H.getD at' 0)):=by obtain⟨hl,-,h3|⟨b,o,e,hb,hh⟩⟩:=hH;{omega};exact⟨b,o,e,hb,hh at' hat⟩
 obtain⟨hb',ho',eh,lH,cH⟩:=cH
 have cE:∃b o,c.ea=some ⟨b,o,none⟩/\b<W.heap.size/\W.cell? ⟨b,o+at',none⟩=some (.int .i64 (aI.aU c.E at')):=by obtain⟨hl,-,h3|⟨b,o,e,hb,hh⟩⟩:=hE;{omega};refine⟨b,o,e,hb,?_⟩;rw[hh at' hat];unfold aI.aU;rw[ah,ah,ai (by omega)];rfl
 obtain⟨eb,eo,ee,lE,cE⟩:=cE
 have cO:∃b o,oa=some ⟨b,o,none⟩/\b<W.heap.size/\W.cell? ⟨b,o+at',none⟩=some (.int .i64 (aI.aU c.O at')):=by obtain⟨hl,-,h3|⟨b,o,e,hb,hh⟩⟩:=yF;{omega};refine⟨b,o,e,hb,?_⟩;rw[hh at' hat];unfold aI.aU;rw[ah,ah,ai (by omega)];rfl
 obtain⟨ob,oo,rfl,lO,cO⟩:=cO
 rw[hp]at wy
 obtain⟨q,hq⟩:∃q,Hg.arg c.f.b at'=q:=⟨_,rfl⟩
 obtain⟨u,hu⟩:∃u,c.H.getD at' 0=u:=⟨_,rfl⟩
 rw[hq]at cS2 HST
 rw[hu]at cH htop hr HST
 have d2:=(hbx0.2 2 _ rfl).1
 have d3:=(hbx0.2 3 _ rfl).1
 have d4:=(hbx0.2 4 _ rfl).1
 have d5:=(hbx0.2 5 _ rfl).1
 have yE:=hbx0.1
 rw[eh]at d3
 rw[ee]at d4
 rw[es]at d5
 have hB1:=aA W (.cells #[.slice fa fl fc, .string d] 87)
 have hA1:iw (W.alloc (.cells #[.slice fa fl fc, .string d] 87)) W.heap.size 87 [.slice fa fl fc, .string d]:=heap_alloc_last W _
 obtain⟨W1,hW1⟩:∃X,W.alloc (.cells #[.slice fa fl fc, .string d] 87)=X:=⟨_,rfl⟩
 rw[hW1]at hB1 hA1
 have hB2:=aA W1 (.cells #[.int .i64 (p), .int .i64 q] 117)
 have hA2:iw (W1.alloc (.cells #[.int .i64 (p), .int .i64 q] 117)) W1.heap.size 117 [.int .i64 (p), .int .i64 q]:=heap_alloc_last W1 _
 obtain⟨W2,hW2⟩:∃X,W1.alloc (.cells #[.int .i64 (p), .int .i64 q] 117)=X:=⟨_,rfl⟩
 rw[hW2]at hB2 hA2
 have hB:=hB1.trans (hB2.mono hB1.size)
 have K2:=K.kept hB
 have kE:=hA1.kept hB2
 have hcon:=fZ T K2 (u-1) (by omega) (by omega)
 have Ig:-1<=Lw.bx c.f (u-1)/\Lw.bx c.f (u-1)<=26:=by unfold Lw.bx;omega
 obtain⟨tt,rJ⟩:∃tt,Lw.bx c.f (u-1)=tt:=⟨_,rfl⟩
 rw[rJ]at hcon Ig HST
 have c3:=aP hB1 d3
 have k3:=aP hB d3
 have k4:=aP hB d4
 have c5:=aP hB1 d5
 have c6:=aP hB1 wy
 have c7:=aP hB1 cS2
 have c8:=aP hB cH
 have mE:=aP hB cE
 have mF:=aP hB cO
 have k2:=aP hB d2
 have s0:=hA2.cell (j:=0) rfl
 have s1:=hA2.cell (j:=1) rfl
 have m0:=kE.cell (j:=0) rfl
 have F0:FX c v vg v vg W W2:=FX.below hB
 have hF2:=hF1.kept hB
 have HQ:=ae (ak hp (ak hq (ak hbl (ak hu hty))))
 clear hH hE hS hO yF hF hF1 d2 d3 d4 d5 wy cS2 cH cE cO hbx0 hA1 hB1 hB2 K hu rJ hp hq hbl
 go_enter Tryz.func84,Tryz.ntmps84
 go_wp2_with fail
 refine hcon.mono ?_
 rintro e w3 ⟨rfl,aQ⟩
 subst w3
 dsimp only
 clear hcon
 obtain rfl:=hk.out
 have hq0:0<=q:=by have:=Lw.yg T (at':=at') (by rw[HQ.out.2.2.1];exact hat) HQ.out.1;rw[HQ.out.2.1]at this;exact this
 have hq1:q<c.fs.length:=by have:=HQ.out.2.2.2.2.call HQ.out.1;rw[HQ.out.2.1]at this;exact this
 have hfl:c.fs.length=fl:=hF2.1
 obtain⟨qn,rfl⟩:=Int.eq_ofNat_of_zero_le hq0
 have Jf:qn<fl:=by omega
 have UR:(qn:Int)<(fl:Int):=by omega
 obtain⟨fb,fo,rfl,lF,Jl,Jm,Jn,y0,y1,y2,y3⟩:=Ay hF2 Jf
 have yG:=Mn.Aa T.val (k:=qn) (by omega)
 have TH:fl<=4:=by have:=T.val.len.2;omega
 unfold Mn.fn at yG
 obtain⟨G,hG⟩:∃G,c.fs.getD qn .z=G:=⟨_,rfl⟩
 rw[hG]at yG y0 y1 y2
 replace HST:Hid (Lw.step c.fs c.f c.E c.O c.H at'=[(⟨7,if G.g=1 then tt-G.a+1 else Lw.wd c.f+20,0,0,qn,Lw.args tt G.a⟩,-1)]):=by show _=_;rw[HST.out];show[((⟨7,if(c.fs.getD (qn:Int).toNat .z).g=1 then _ else _,0,0,_,Lw.args tt (c.fs.getD (qn:Int).toNat .z).a⟩:Ln),(-1:Int))]=_;rw[az,hG]
 obtain⟨ga,hga⟩:∃ga:Nat,G.a=(ga:Int):=Int.eq_ofNat_of_zero_le yG.1
 have TI:ga<=3:=by omega
 obtain⟨gg,hgg⟩:∃gg,G.g=gg:=⟨_,rfl⟩
 have zC:gg=0\/gg=1:=by rw[←hgg];exact yG.2.2.2.2.1
 obtain⟨gl,hgl⟩:∃gl,G.l=gl:=⟨_,rfl⟩
 have OP:Hid (Lw.args tt G.a=Lw.eU tt ga ga):=by show _=_;rw[hga];rfl
 rw[hga]at y0 HST OP
 rw[hgg]at y2 HST
 rw[hgl]at y1
 obtain⟨Bv,Ii⟩:∃Bv,Lw.wd c.f=Bv:=⟨_,rfl⟩
 rw[Ii]at k2 hwd HST
 have hBG:=aA W2 (.cells #[.int .i64 (ga:Int), .int .i64 gl, .int .i64 gg, .slice Jl Jm Jn] 110)
 have QL:iw (W2.alloc (.cells #[.int .i64 (ga:Int), .int .i64 gl, .int .i64 gg, .slice Jl Jm Jn] 110)) W2.heap.size 110 [.int .i64 (ga:Int), .int .i64 gl, .int .i64 gg, .slice Jl Jm Jn]:=heap_alloc_last W2 _
 obtain⟨W3,hW3⟩:∃X,W2.alloc (.cells #[.int .i64 (ga:Int), .int .i64 gl, .int .i64 gg, .slice Jl Jm Jn] 110)=X:=⟨_,rfl⟩
 rw[hW3]at hBG QL
 have j2:=aP hBG k2
 have t1:=aP hBG s1
 have hlB:c.B<W3.heap.size:=aj K2.sz hBG.size
 have UT:=(hA2.kept hBG).lt
 have HKK:=ae (ak (K2.kept hBG) (ak (F0.trans (FX.below (c:=c) (v:=v) (vg:=vg) hBG)) QL))
 clear c3 k3 k4 c5 c6 c7 c8 mE mF kE hW1 hW2 hty hF2 hG hga hgg hgl Ii yG hfl K2 F0 hB hA2
 go_wp2
 go_region
 all_goals
  clear j2 t1 y0 y1 y2 y3 k2 s0 s1 m0
  have Bw:=aA W3 (.cells #[.int .i64 7, .int .i64 (Bv+20), .int .i64 0, .int .i64 0, .int .i64 qn, .slice none 0 0] 29)
  have hBL:=Bw.trans ((Below.refl _ _).drew.mono Bw.size)
  have QM:iw (W3.alloc (.cells #[.int .i64 7, .int .i64 (Bv+20), .int .i64 0, .int .i64 0, .int .i64 qn, .slice none 0 0] 29)).drew W3.heap.size 29 [.int .i64 7, .int .i64 (Bv+20), .int .i64 0, .int .i64 0, .int .i64 qn, .slice none 0 0]:=heap_alloc_last W3 _
  obtain⟨i0,hi,hz0,hz1,hz2⟩:=info_parts bN
  have HS:=ae (ak QM hBL)
  clear Bw QM hBL hW3
  go_wp2
  go_loopw [20] (fun vi wr=>∃(k:Nat)(lv:Value),vi= .int .i64 k/\k<=ga/\iw wr W3.heap.size 29 [.int .i64 7, .int .i64 (Bv+20), .int .i64 0, .int .i64 0, .int .i64 qn,lv]/\OI wr (W3.heap.size+1) lv (Lw.eU tt ga k)/\Below W3.heap.size W3 wr) (fun i _=>ga-(intOf i).toNat)
  case atStart=>exact⟨0,_,rfl,Nat.zero_le _,HS.out.1,OI.nil _ _,HS.out.2⟩
  case round=>
   obtain⟨k,lv,rfl,hk,hAr,hol,hBr⟩:=hrel
   clear HS
   have Jo:=HKK.out.2.2.kept hBr
   have g0:=Jo.cell (j:=0) rfl
   have g2:=Jo.cell (j:=2) rfl
   have hll:(Lw.eU tt ga k).length=k:=by unfold Lw.eU;simp
   have wD:wr.ownsRow (W3.heap.size+1) 2 1 lv k ((Lw.eU tt ga k).map iv):=by unfold OI at hol;rwa [hll]at hol
   obtain⟨la,lc,rfl⟩:=bZ wD
   have wE:∀g,(Value.slice la k lc).ownBlock=some g->W3.heap.size+1<=g:=fun g hg=>(bG wD hg).1
   have a5:=hAr.cell (j:=5) rfl
   have al:=hAr.lt
   by_cases hlt:k<ga
   · have dF:(k:Int)<(ga:Int):=by{omega};obtain⟨y,hy⟩:∃y,tt-(ga:Int)+1+(k:Int)=y:=⟨_,rfl⟩;have HY:=ae hy;clear hy;have mi:=aA wr (.cells #[.int .i64 (tt-(ga:Int)+1+(k:Int))] 2);have HO:=ae (aM wD mi);have HA:=ae (hAr.kept mi);have OQ:=ae (hBr.trans (mi.mono hBr.size));have OT:=hBr.size;clear mi hol wD hAr hBr Jo hll;go_wp2_with(at_builtin;refine wpList_append_own _ rfl _ _ 27 rfl (W3.heap.size+1) 2 i0 (.int .i64 0) 1 8 Tryz.underlying27 hi hz0 hz1 hz2 rfl (by decide) (.slice la k lc) k _ rfl HO.out ⟨wr.heap.size,0,none⟩ 1 1 [.int .i64 (tt-(ga:Int)+1+(k:Int))] rfl rfl (cell_one_new _ _ _) (by simp[Value.oneCell']) (by simp only[maxLen];omega) (by omega) (by simp;omega) ?_;intro v2 wB hown2 hgrow2 _;obtain⟨g2',cap2,rfl⟩:=ownsRow_succ hown2;have hA3:=HA.out.dW hgrow2 (fun e=>by have:=wE W3.heap.size e.symm;omega);have b5:=hA3.cell (j:=5) rfl;have f5:=hA3.frozen 5;have l5:=hA3.lt;have gZ:=ae (ak hown2 (ak hgrow2 hA3));clear hown2 hgrow2 hA3);go_roundw;(case rel=>obtain⟨o1,o2,o3⟩:=gZ.out;have gs:=aX wB ⟨W3.heap.size,5,none⟩ (.slice (some ⟨g2',0,none⟩) (k+1) cap2);refine⟨k+1,_,by simp,hlt,o3.set 5 _,?_,?_⟩;{show World.ownsRow _ _ _ _ _ _ _;rw[Lw.qH,List.map_append,List.length_append,List.length_singleton,show(Lw.eU tt ga k).length=k by unfold Lw.eU;simp];exact bW o1 gs (fun g e=>by have:=(bG o1 e).1;simp only[ne_eq,af];omega)};exact bT (bT OQ.out o2 (fun g e=>by have:=wE g e;omega)) gs (fun g e=>by cases e;exact Nat.le_refl _));case measure=>simp[intOf];omega
   · have hke:k=ga:=by omega
     subst hke
     have dF:¬(k:Int)<(k:Int):=by omega
     have HX:=ae (ak (HKK.out.1.kept hBr) (HKK.out.2.1.trans (FX.below (c:=c) (v:=v) (vg:=vg) hBr)))
     have OQ:=ae hBr
     have Jp:=ae wD
     have TJ:=ae hAr
     have a0:=hAr.cell (j:=0) rfl
     have a1:=hAr.cell (j:=1) rfl
     have a2:=hAr.cell (j:=2) rfl
     have a3:=hAr.cell (j:=3) rfl
     have a4:=hAr.cell (j:=4) rfl
     have q1:=hAr.frozen 1
     have hKs:=HKK.out.1.rH
     have Ij:∀g,vg.ownBlock=some g->g<W3.heap.size:=fun g e=>(bG hKs e).2
     have hB3:c.B+1<=W3.heap.size:=HKK.out.1.sz
     have UU:=HKK.out.2.1.size
     clear hol wD hAr hBr Jo hKs
     rcases zC with rfl|rfl
     · have hadd:=aN c W0 wr v vg out (fun g=>P g\/W.heap.size<=g) hW (HX.out.1.ek (fun g h=> .inl h)) ⟨7,Bv+20,0,0,qn,Lw.eU tt k k⟩ la k lc (by
        show World.ownsRow _ _ _ _ _ _ _
        rw[hll]
        refine⟨Jp.out.1,?_⟩
        rcases Jp.out.2 with h'|⟨g',cap',cur,h',hb,r⟩
        · exact .inl h'
        · exact .inr ⟨g',cap',cur,h',by omega,r⟩) (fun g e=>⟨fun e2=>by have:=wE g e;have:=Ij g e2;omega, .inr (by have:=wE g e;omega)⟩) (-1) (by omega)
       go_wp2_with fail
       refine hadd.mono ?_
       rintro e X1 ⟨v1,fO,rfl,K1,F1⟩
       dsimp only
       have G1:=HX.out.2.trans F1
       clear hadd a0 a1 a2 a3 a4 a5 g0 g2
       go_wp2
       (try simp only[Exit.inBlock,Exit.then])
       refine bodyPost_end (results_none rfl _ _ _) rfl ⟨v1,fO,rfl,?_,G1⟩
       rw[HST.out,OP.out]
       exact K1
     · have gs:=aX wr ⟨W3.heap.size,1,none⟩ (.int .i64 (tt-(k:Int)+1))
       have hAs:=TJ.out.set 1 (.int .i64 (tt-(k:Int)+1))
       have OU:=bT OQ.out gs (fun g e=>by cases e;exact Nat.le_refl _)
       have hos:=bW Jp.out gs (fun g e=>by have:=(bG Jp.out e).1;simp only[ne_eq,af];omega)
       obtain⟨ws,hws⟩:∃ws,wr.setCell ⟨W3.heap.size,1,none⟩ (.int .i64 (tt-(k:Int)+1))=ws:=⟨_,rfl⟩
       rw[hws]at hAs OU hos
       have b0:=hAs.cell (j:=0) rfl
       have b1:=hAs.cell (j:=1) rfl
       have b2:=hAs.cell (j:=2) rfl
       have b3:=hAs.cell (j:=3) rfl
       have b4:=hAs.cell (j:=4) rfl
       have b5:=hAs.cell (j:=5) rfl
       have hKx:=HKK.out.1.kept OU
       have Km:=HKK.out.2.1.trans (FX.below (c:=c) (v:=v) (vg:=vg) OU)
       have hadd:=aN c W0 ws v vg out (fun g=>P g\/W.heap.size<=g) hW (hKx.ek (fun g h=> .inl h)) ⟨7,tt-(k:Int)+1,0,0,qn,Lw.eU tt k k⟩ la k lc (by
        show World.ownsRow _ _ _ _ _ _ _
        rw[hll]
        refine⟨hos.1,?_⟩
        rcases hos.2 with h'|⟨g',cap',cur,h',hb,r⟩
        · exact .inl h'
        · exact .inr ⟨g',cap',cur,h',by omega,r⟩) (fun g e=>⟨fun e2=>by have:=wE g e;have:=Ij g e2;omega, .inr (by have:=wE g e;omega)⟩) (-1) (by omega)
       go_wp2_with fail
       refine hadd.mono ?_
       rintro e X1 ⟨v1,fO,rfl,K1,F1⟩
       dsimp only
       have G1:=Km.trans F1
       clear hadd a0 a1 a2 a3 a4 a5 g0 g2 b0 b1 b2 b3 b4 b5 hws
       go_wp2
       (try simp only[Exit.inBlock,Exit.then])
       refine bodyPost_end (results_none rfl _ _ _) rfl ⟨v1,fO,rfl,?_,G1⟩
       rw[HST.out,OP.out]
       exact K1
theorem nY {c:LX}{W0 W:World}{v vg:Value}{out:List (Ln×Int)}{P:Nat->Prop}(T:TX c W0)(K:MK c W0 W v vg out P)(fa:Option Addr)(fl fc:Nat)(d:ByteArray)(oa:Option Addr)(oc:Nat)(hF:FL W0 fa fl c.fs)(hO:IL W0 oa c.f.b.length c.O)(at':Nat)(hat:at'<c.f.b.length)(hr:0<=c.H.getD at' 0)(hlen:out.length<=900):Calls Tryz.prog 84 #[.pointer (some ⟨c.B,0,none⟩), .agg #[.slice fa fl fc, .string d], .slice oa c.f.b.length oc, .int .i64 at'] W fun e w'=>∃v' je,e= .returned (.tuple #[])/\MK c W0 w' v' je (out++Lw.step c.fs c.f c.E c.O c.H at') (fun g=>P g\/W.heap.size<=g)/\FX c v vg v' je W w':=by have hok:St.ok (aI.op c.f.b at') (Hg.arg c.f.b at')=true:=St.bi T.all hat;simp only[St.ok,au,Wd.bP]at hok;obtain⟨p,hp⟩:∃p,aI.op c.f.b at'=p:=⟨_,rfl⟩;rw[hp]at hok;have h3:(p=7\/p=8\/p=9\/p=12\/p=20\/p=1\/p=2\/p=3\/p=4\/p=5\/p=6\/p=17\/p=18\/p=19)\/(p=10\/p=11\/p=13\/p=15\/p=14)\/p=16:=by{omega};rcases h3 with h|h|h;{exact Dt T K fa fl fc d oa oc hF hO at' hat hr hlen p hp h};{exact Cz T K fa fl fc d oa oc hF hO at' hat hr hlen p hp h};exact Db T K fa fl fc d oa oc hF hO at' hat hr hlen p hp h
namespace Lw
open Hg (arg)
theorem qO {fs:List Fn}{f:Fn}{E O H:List Int}(hA:Hg.Acc fs f E O H){n:Nat}(hn:n<f.b.length)(dp:Int):0<=(dE f E H n dp).1/\(dE f E H n dp).1<f.b.length:=by by_cases hlt:dp.toNat<(aI.bQ f.b E n n).length;{obtain⟨t,et,htl,Ji,-⟩:=aI.uA hA.H6 rfl hlt;rw[oq hlt (t:=t) et];have f3:=hA.H6.f3 t (by omega) (by omega);split;{exact⟨by simp only;omega,by simp only;omega⟩};split;{exact⟨by simp only;omega,by simp only;omega⟩};exact⟨by simp only;omega,by simp only;omega⟩};rw[uk hlt];have:=hA.pos;exact⟨by simp only;omega,by simp only;omega⟩
theorem vz {fs:List Fn}{f:Fn}{E O H:List Int}(hA:Hg.Acc fs f E O H){n:Nat}(hn:n<f.b.length)(hr:0<=H.getD n 0):∀x∈step fs f E O H n,-1<=x.2/\x.2<f.b.length:=by have hty:=hA.typ n hn hr;have hpos:=hA.pos;have one:∀(l:Ln)(x:Ln×Int),x∈[(l,(-1:Int))]->-1<=x.2/\x.2<f.b.length:=fun l x hx=>by{rw[List.mem_singleton]at hx;rw[hx];exact⟨Int.le_refl _,by simp only;omega⟩};intro x hx;unfold step BZ at hx;obtain⟨p,hp⟩:∃p,aI.op f.b n=p:=⟨_,rfl⟩;rw[hp]at hx;by_cases h1:p=1;{rw[ay h1]at hx;exact one _ x hx};rw[ax h1]at hx;by_cases h2:p=2;{rw[ay h2]at hx;exact one _ x hx};rw[ax h2]at hx;by_cases h3:p=3\/p=4;{rw[ay h3]at hx;exact one _ x hx};rw[ax h3]at hx;by_cases h5:p=5;{rw[ay h5]at hx;exact one _ x hx};rw[ax h5]at hx;by_cases h6:p=6;{rw[ay h6]at hx;exact one _ x hx};rw[ax h6]at hx;by_cases h10:p=10;{rw[ay h10]at hx;have hi:=hty.iff (by rw[hp];exact h10);rcases List.mem_cons.1 hx with rfl|hx;{exact⟨Int.le_refl _,by simp only;omega⟩};rw[List.mem_singleton]at hx;rw[hx];simp only;split;{rcases hi with⟨-,a,-⟩|⟨a,-⟩;{omega};omega};rcases hi with⟨a,-⟩|⟨-,a,b,-⟩;{omega};omega};rw[ax h10]at hx;by_cases h11:p=11;{rw[ay h11]at hx;have hi:=hty.Bb (by rw[hp];exact h11);rw[List.mem_singleton]at hx;rw[hx];simp only;omega};rw[ax h11]at hx;by_cases DI:p=13\/p=15;{rw[ay DI]at hx;have hg:=qO hA hn (if p=15 then 99 else arg f.b n);generalize dE f E H n (if p=15 then 99 else arg f.b n)=L at hx hg;simp only[List.mem_append,List.mem_singleton]at hx;rcases hx with hx|hx;{by_cases hc:L.2.2=1/\L.2.1≠bx f (H.getD n 0-1);{rw[ay hc]at hx;exact one _ x hx};rw[ax hc]at hx;cases hx};rw[hx];simp only;omega};rw[ax DI]at hx;by_cases Jb:p=14;{rw[ay Jb]at hx;have hg:=qO hA hn (arg f.b n);have hnx:=hty.next (by omega) (by omega) (by omega) (by omega) (by omega);generalize dE f E H n (arg f.b n)=L at hx hg;simp only at hx;by_cases hc:L.2.2=1/\L.2.1≠bx f (H.getD n 0-1)-1;{rw[ay hc]at hx;rcases List.mem_cons.1 hx with rfl|hx;{exact⟨Int.le_refl _,by simp only;omega⟩};rcases List.mem_cons.1 hx with rfl|hx;{exact⟨by simp only;omega,by simp only;omega⟩};rcases List.mem_cons.1 hx with rfl|hx;{exact⟨Int.le_refl _,by simp only;omega⟩};rw[List.mem_singleton]at hx;rw[hx];simp only;omega};rw[ax hc,List.mem_singleton]at hx;rw[hx];simp only;omega};rw[ax Jb]at hx;by_cases h16:p=16;{rw[ay h16]at hx;exact one _ x hx};rw[ax h16]at hx;by_cases J3:p=17;{rw[ay J3]at hx;exact one _ x hx};rw[ax J3]at hx;by_cases h18:p=18;{rw[ay h18]at hx;exact one _ x hx};rw[ax h18]at hx;by_cases h19:p=19;{rw[ay h19]at hx;exact one _ x hx};rw[ax h19]at hx;cases hx
theorem nN {fs:List Fn}{f:Fn}{E O H:List Int}(hA:Hg.Acc fs f E O H):∀n,n<=f.b.length->∀x∈(dK fs f E O H n).1,-1<=x.2/\x.2<f.b.length
 | 0,_,x,hx=>by
   unfold dK first at hx
   simp only[List.mem_map]at hx
   obtain⟨i,-,rfl⟩:=hx
   have:=hA.pos
   exact⟨Int.le_refl _,by simp only;omega⟩
 | n +1,hn,x,hx=>by
   unfold dK at hx
   simp only[List.mem_append]at hx
   rcases hx with hx|hx
   · exact nN hA n (by omega) x hx
   · split at hx
     · exact vz hA (by omega) (by assumption) x hx
     · cases hx
theorem x9 {fs:List Fn}{f:Fn}{E O H:List Int}(hA:Hg.Acc fs f E O H):∀x∈raw fs f E O H,-1<=x.2/\x.2<f.b.length:=fun x hx=>by
 unfold raw at hx
 rcases List.mem_append.1 hx with hx|hx
 · exact nN hA _ (Nat.le_refl _) x hx
 · have:=hA.pos
   unfold last at hx
   split at hx
   · rcases List.mem_cons.1 hx with rfl|hx
     · exact⟨Int.le_refl _,by simp only;omega⟩
     · rw[List.mem_singleton]at hx
       rw[hx]
       exact⟨Int.le_refl _,by simp only;omega⟩
   · rw[List.mem_singleton]at hx
     rw[hx]
     exact⟨Int.le_refl _,by simp only;omega⟩
end Lw
theorem lN:∀(xs:List Lv)(k:Nat)(y:Int),k<xs.length->bO (xs.set k ((xs.getD k dO).1,(xs.getD k dO).2.1,(xs.getD k dO).2.2.1,(xs.getD k dO).2.2.2.1,y,(xs.getD k dO).2.2.2.2.2))=(bO xs).set (k*6+4) (.int .i64 y)
 |[],k,y,h=>by simp at h
 |x::xs,0,y,h=>rfl
 | x::xs,k+1,y,h=>by
   have ih:=lN xs k y (by simpa using h)
   have e:(x::xs).getD (k+1) dO=xs.getD k dO:=rfl
   rw[e,List.set_cons_succ,eG,ih,eG,show(k+1)*6+4=k*6+4+1+1+1+1+1+1 by omega]
   simp only[List.set_cons_succ]
section
open Go.RowKit
def bg (x:Ln)(sv:Value):Value:=
 if x.k=1 then .iface 84 (.agg #[.int .i64 x.d, .int .i64 x.n])
 else if x.k=2 then .iface 63 (.agg #[.int .i64 x.d, .int .i64 x.a])
 else if x.k=3 then .iface 65 (.agg #[.int .i64 x.d, .int .i64 x.n, .int .i64 x.a, .int .i64 x.b])
 else if x.k=4 then .iface 66 (.agg #[.int .i64 x.d, .int .i64 x.a])
 else if x.k=5 then .iface 91 (.agg #[.int .i64 x.n])
 else if x.k=6 then .iface 68 (.agg #[.int .i64 x.a, .int .i64 x.n])
 else if x.k=7 then .iface 70 (.agg #[.int .i64 x.d, .int .i64 x.n,sv])
 else if x.k=8 then .iface 72 (.agg #[.int .i64 x.d, .int .i64 x.a, .int .i64 x.n])
 else if x.k=9 then .iface 74 (.agg #[.int .i64 x.b, .int .i64 x.a, .int .i64 x.n])
 else if x.k=10 then .iface 76 (.agg #[.int .i64 x.a])
 else if x.k=11 then .iface 93 (.agg #[])
 else .nilIface
theorem CL (v:Value)(w:World):(Instr.typeAssert (.iface 84 v) 41 84 true).run Tryz.prog w= .ok (.tuple #[v, .bool true]) w:=by kernel_rfl
theorem JF (w:World):(do pure (Value.tuple #[←zeroValue 84, .bool false]):Sem Value).run Tryz.prog w= .ok (.tuple #[.agg #[.int .i64 0, .int .i64 0], .bool false]) w:=by kernel_rfl
theorem gN (u:TypeId)(v:Value)(w:World)(h:u≠84):(Instr.typeAssert (.iface u v) 41 84 true).run Tryz.prog w= .ok (.tuple #[.agg #[.int .i64 0, .int .i64 0], .bool false]) w:=by have e:(Instr.typeAssert (.iface u v) 41 84 true).run Tryz.prog w=(if u=84 then(pure (Value.tuple #[v, .bool true]):Sem Value)else(do pure (Value.tuple #[←zeroValue 84, .bool false]))).run Tryz.prog w:=by{kernel_rfl};rw[e,ax h];exact JF w
theorem JM (w:World):(Instr.typeAssert .nilIface 41 84 true).run Tryz.prog w= .ok (.tuple #[.agg #[.int .i64 0, .int .i64 0], .bool false]) w:=by kernel_rfl
theorem Dr (v:Value)(w:World):(Instr.typeAssert (.iface 63 v) 41 63 true).run Tryz.prog w= .ok (.tuple #[v, .bool true]) w:=by kernel_rfl
theorem JK (w:World):(do pure (Value.tuple #[←zeroValue 63, .bool false]):Sem Value).run Tryz.prog w= .ok (.tuple #[.agg #[.int .i64 0, .int .i64 0], .bool false]) w:=by kernel_rfl
theorem gY (u:TypeId)(v:Value)(w:World)(h:u≠63):(Instr.typeAssert (.iface u v) 41 63 true).run Tryz.prog w= .ok (.tuple #[.agg #[.int .i64 0, .int .i64 0], .bool false]) w:=by have e:(Instr.typeAssert (.iface u v) 41 63 true).run Tryz.prog w=(if u=63 then(pure (Value.tuple #[v, .bool true]):Sem Value)else(do pure (Value.tuple #[←zeroValue 63, .bool false]))).run Tryz.prog w:=by{kernel_rfl};rw[e,ax h];exact JK w
theorem Dm (w:World):(Instr.typeAssert .nilIface 41 63 true).run Tryz.prog w= .ok (.tuple #[.agg #[.int .i64 0, .int .i64 0], .bool false]) w:=by kernel_rfl
theorem AQ (v:Value)(w:World):(Instr.typeAssert (.iface 65 v) 41 65 true).run Tryz.prog w= .ok (.tuple #[v, .bool true]) w:=by kernel_rfl
theorem JZ (w:World):(do pure (Value.tuple #[←zeroValue 65, .bool false]):Sem Value).run Tryz.prog w= .ok (.tuple #[.agg #[.int .i64 0, .int .i64 0, .int .i64 0, .int .i64 0], .bool false]) w:=by kernel_rfl
theorem eT (u:TypeId)(v:Value)(w:World)(h:u≠65):(Instr.typeAssert (.iface u v) 41 65 true).run Tryz.prog w= .ok (.tuple #[.agg #[.int .i64 0, .int .i64 0, .int .i64 0, .int .i64 0], .bool false]) w:=by have e:(Instr.typeAssert (.iface u v) 41 65 true).run Tryz.prog w=(if u=65 then(pure (Value.tuple #[v, .bool true]):Sem Value)else(do pure (Value.tuple #[←zeroValue 65, .bool false]))).run Tryz.prog w:=by{kernel_rfl};rw[e,ax h];exact JZ w
theorem Dw (w:World):(Instr.typeAssert .nilIface 41 65 true).run Tryz.prog w= .ok (.tuple #[.agg #[.int .i64 0, .int .i64 0, .int .i64 0, .int .i64 0], .bool false]) w:=by kernel_rfl
theorem De (v:Value)(w:World):(Instr.typeAssert (.iface 66 v) 41 66 true).run Tryz.prog w= .ok (.tuple #[v, .bool true]) w:=by kernel_rfl
theorem JV (w:World):(do pure (Value.tuple #[←zeroValue 66, .bool false]):Sem Value).run Tryz.prog w= .ok (.tuple #[.agg #[.int .i64 0, .int .i64 0], .bool false]) w:=by kernel_rfl
theorem jg (u:TypeId)(v:Value)(w:World)(h:u≠66):(Instr.typeAssert (.iface u v) 41 66 true).run Tryz.prog w= .ok (.tuple #[.agg #[.int .i64 0, .int .i64 0], .bool false]) w:=by have e:(Instr.typeAssert (.iface u v) 41 66 true).run Tryz.prog w=(if u=66 then(pure (Value.tuple #[v, .bool true]):Sem Value)else(do pure (Value.tuple #[←zeroValue 66, .bool false]))).run Tryz.prog w:=by{kernel_rfl};rw[e,ax h];exact JV w
theorem Cv (w:World):(Instr.typeAssert .nilIface 41 66 true).run Tryz.prog w= .ok (.tuple #[.agg #[.int .i64 0, .int .i64 0], .bool false]) w:=by kernel_rfl
theorem Cy (v:Value)(w:World):(Instr.typeAssert (.iface 91 v) 41 91 true).run Tryz.prog w= .ok (.tuple #[v, .bool true]) w:=by kernel_rfl
theorem JP (w:World):(do pure (Value.tuple #[←zeroValue 91, .bool false]):Sem Value).run Tryz.prog w= .ok (.tuple #[.agg #[.int .i64 0], .bool false]) w:=by kernel_rfl
theorem gJ (u:TypeId)(v:Value)(w:World)(h:u≠91):(Instr.typeAssert (.iface u v) 41 91 true).run Tryz.prog w= .ok (.tuple #[.agg #[.int .i64 0], .bool false]) w:=by have e:(Instr.typeAssert (.iface u v) 41 91 true).run Tryz.prog w=(if u=91 then(pure (Value.tuple #[v, .bool true]):Sem Value)else(do pure (Value.tuple #[←zeroValue 91, .bool false]))).run Tryz.prog w:=by{kernel_rfl};rw[e,ax h];exact JP w
theorem Da (v:Value)(w:World):(Instr.typeAssert (.iface 68 v) 41 68 true).run Tryz.prog w= .ok (.tuple #[v, .bool true]) w:=by kernel_rfl
theorem JD (w:World):(do pure (Value.tuple #[←zeroValue 68, .bool false]):Sem Value).run Tryz.prog w= .ok (.tuple #[.agg #[.int .i64 0, .int .i64 0], .bool false]) w:=by kernel_rfl
theorem ja (u:TypeId)(v:Value)(w:World)(h:u≠68):(Instr.typeAssert (.iface u v) 41 68 true).run Tryz.prog w= .ok (.tuple #[.agg #[.int .i64 0, .int .i64 0], .bool false]) w:=by have e:(Instr.typeAssert (.iface u v) 41 68 true).run Tryz.prog w=(if u=68 then(pure (Value.tuple #[v, .bool true]):Sem Value)else(do pure (Value.tuple #[←zeroValue 68, .bool false]))).run Tryz.prog w:=by{kernel_rfl};rw[e,ax h];exact JD w
theorem JX (w:World):(Instr.typeAssert .nilIface 41 68 true).run Tryz.prog w= .ok (.tuple #[.agg #[.int .i64 0, .int .i64 0], .bool false]) w:=by kernel_rfl
theorem A9 (v:Value)(w:World):(Instr.typeAssert (.iface 70 v) 41 70 true).run Tryz.prog w= .ok (.tuple #[v, .bool true]) w:=by kernel_rfl
theorem JU (w:World):(do pure (Value.tuple #[←zeroValue 70, .bool false]):Sem Value).run Tryz.prog w= .ok (.tuple #[.agg #[.int .i64 0, .int .i64 0, .slice none 0 0], .bool false]) w:=by kernel_rfl
theorem gT (u:TypeId)(v:Value)(w:World)(h:u≠70):(Instr.typeAssert (.iface u v) 41 70 true).run Tryz.prog w= .ok (.tuple #[.agg #[.int .i64 0, .int .i64 0, .slice none 0 0], .bool false]) w:=by have e:(Instr.typeAssert (.iface u v) 41 70 true).run Tryz.prog w=(if u=70 then(pure (Value.tuple #[v, .bool true]):Sem Value)else(do pure (Value.tuple #[←zeroValue 70, .bool false]))).run Tryz.prog w:=by{kernel_rfl};rw[e,ax h];exact JU w
theorem Cr (w:World):(Instr.typeAssert .nilIface 41 70 true).run Tryz.prog w= .ok (.tuple #[.agg #[.int .i64 0, .int .i64 0, .slice none 0 0], .bool false]) w:=by kernel_rfl
theorem Bc (v:Value)(w:World):(Instr.typeAssert (.iface 72 v) 41 72 true).run Tryz.prog w= .ok (.tuple #[v, .bool true]) w:=by kernel_rfl
theorem JG (w:World):(do pure (Value.tuple #[←zeroValue 72, .bool false]):Sem Value).run Tryz.prog w= .ok (.tuple #[.agg #[.int .i64 0, .int .i64 0, .int .i64 0], .bool false]) w:=by kernel_rfl
theorem iI (u:TypeId)(v:Value)(w:World)(h:u≠72):(Instr.typeAssert (.iface u v) 41 72 true).run Tryz.prog w= .ok (.tuple #[.agg #[.int .i64 0, .int .i64 0, .int .i64 0], .bool false]) w:=by have e:(Instr.typeAssert (.iface u v) 41 72 true).run Tryz.prog w=(if u=72 then(pure (Value.tuple #[v, .bool true]):Sem Value)else(do pure (Value.tuple #[←zeroValue 72, .bool false]))).run Tryz.prog w:=by{kernel_rfl};rw[e,ax h];exact JG w
theorem Dn (w:World):(Instr.typeAssert .nilIface 41 72 true).run Tryz.prog w= .ok (.tuple #[.agg #[.int .i64 0, .int .i64 0, .int .i64 0], .bool false]) w:=by kernel_rfl
theorem C8 (v:Value)(w:World):(Instr.typeAssert (.iface 74 v) 41 74 true).run Tryz.prog w= .ok (.tuple #[v, .bool true]) w:=by kernel_rfl
theorem JE (w:World):(do pure (Value.tuple #[←zeroValue 74, .bool false]):Sem Value).run Tryz.prog w= .ok (.tuple #[.agg #[.int .i64 0, .int .i64 0, .int .i64 0], .bool false]) w:=by kernel_rfl
theorem mV (u:TypeId)(v:Value)(w:World)(h:u≠74):(Instr.typeAssert (.iface u v) 41 74 true).run Tryz.prog w= .ok (.tuple #[.agg #[.int .i64 0, .int .i64 0, .int .i64 0], .bool false]) w:=by have e:(Instr.typeAssert (.iface u v) 41 74 true).run Tryz.prog w=(if u=74 then(pure (Value.tuple #[v, .bool true]):Sem Value)else(do pure (Value.tuple #[←zeroValue 74, .bool false]))).run Tryz.prog w:=by{kernel_rfl};rw[e,ax h];exact JE w
theorem JH (w:World):(Instr.typeAssert .nilIface 41 74 true).run Tryz.prog w= .ok (.tuple #[.agg #[.int .i64 0, .int .i64 0, .int .i64 0], .bool false]) w:=by kernel_rfl
theorem zQ (v:Value)(w:World):(Instr.typeAssert (.iface 76 v) 41 76 true).run Tryz.prog w= .ok (.tuple #[v, .bool true]) w:=by kernel_rfl
theorem CW (w:World):(do pure (Value.tuple #[←zeroValue 76, .bool false]):Sem Value).run Tryz.prog w= .ok (.tuple #[.agg #[.int .i64 0], .bool false]) w:=by kernel_rfl
theorem gQ (u:TypeId)(v:Value)(w:World)(h:u≠76):(Instr.typeAssert (.iface u v) 41 76 true).run Tryz.prog w= .ok (.tuple #[.agg #[.int .i64 0], .bool false]) w:=by have e:(Instr.typeAssert (.iface u v) 41 76 true).run Tryz.prog w=(if u=76 then(pure (Value.tuple #[v, .bool true]):Sem Value)else(do pure (Value.tuple #[←zeroValue 76, .bool false]))).run Tryz.prog w:=by{kernel_rfl};rw[e,ax h];exact CW w
theorem CG (w:World):(Instr.typeAssert .nilIface 41 76 true).run Tryz.prog w= .ok (.tuple #[.agg #[.int .i64 0], .bool false]) w:=by kernel_rfl
theorem Cm (v:Value)(w:World):(Instr.typeAssert (.iface 93 v) 41 93 true).run Tryz.prog w= .ok (.tuple #[v, .bool true]) w:=by kernel_rfl
theorem CJ (w:World):(do pure (Value.tuple #[←zeroValue 93, .bool false]):Sem Value).run Tryz.prog w= .ok (.tuple #[.agg #[], .bool false]) w:=by kernel_rfl
theorem jd (u:TypeId)(v:Value)(w:World)(h:u≠93):(Instr.typeAssert (.iface u v) 41 93 true).run Tryz.prog w= .ok (.tuple #[.agg #[], .bool false]) w:=by have e:(Instr.typeAssert (.iface u v) 41 93 true).run Tryz.prog w=(if u=93 then(pure (Value.tuple #[v, .bool true]):Sem Value)else(do pure (Value.tuple #[←zeroValue 93, .bool false]))).run Tryz.prog w:=by{kernel_rfl};rw[e,ax h];exact CJ w
theorem xM (u:TypeId)(v:Value)(w:World):(binOp .eql 41 (.iface u v) .nilIface).run Tryz.prog w= .ok (.bool false) w:=by kernel_rfl
end
end Go.Proofs.YtfmighcopilghaaGreat
