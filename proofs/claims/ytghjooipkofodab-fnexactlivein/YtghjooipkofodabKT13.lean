/-
  Own texts for a law: Wlk4 Wlk5 Wlk6 Rw0 RwA7 Rw2 LinS Low0 Pile1
-/
import Derived.Test.YtghjooipkofodabKT12
import Derived.Lib.AppendZerosOnto
import Derived.Laws.AppendOwn
namespace Go.Proofs.Ytghjooipkofodab
open Go.RowKit Go.Shelf
set_option linter.all false
set_option maxRecDepth 100000
set_option maxHeartbeats 16000000
namespace Mn
open Hg
variable {fs : List Fn} {k aP : Nat} {pile loc mem : List Int} {a : Int}
end Mn
theorem CI.take {c:WC}{W0:World}{q:CC}{at':Nat}{pile loc mem:List Int}{n gp cp:Nat}{wr:World}(Q:CQ c W0 q)(h:CI c W0 q at' pile loc mem n gp cp wr):Hg.Typed c.fs (Mn.fn c.fs q.k) (aN.ends (Mn.fn c.fs q.k).b) (aN.gX (Mn.fn c.fs q.k).b) (Mn.uk c.fs q.k) at':=
 (Q.tab.val.acc q.k Q.lt).typ at' h.good.lt (by have:=h.good.here;omega)
theorem uq {W:World}{b g c j n:Nat}{xs:List Int}(h:W.ownsRow b 2 1 (.slice (some ⟨g,0,none⟩) n c) n (xs.map iv))(hl:xs.length=n)(hj:j<n):W.cell? ⟨g,j,none⟩=some (.int .i64 (xs.getD j 0)):=by rw[h.cellAt j (by omega),kQ (by omega)];rfl
namespace Mn
open Hg
end Mn
theorem add_zero (g j:Nat):(⟨g,0,none⟩:Addr).add j=⟨g,j,none⟩:=by unfold Addr.add;split<;>simp_all
theorem CM.mem {c:WC}{W0:World}{q:CC}{pile loc mem jY:List Int}{n gp cp:Nat}{W W':World}(Q:CQ c W0 q)(h:CM c W0 q pile loc mem n gp cp W)(hg:W.grownBy W' (some c.M))(hr:W'.ownsRow 0 2 1 (.slice (some ⟨c.M,0,none⟩) 64 c.Mc) 64 (jY.map iv)):CM c W0 q pile loc jY n gp cp W':=by obtain⟨o1,o2,o3⟩:=h.co.ord;have h4:=h.n4;have iM:=Q.zA;exact⟨⟨h.wk.ic.grow hg (.inr (.inr rfl)),h.wk.box.cK hg (by simpa using Ne.symm Q.tab.ne),hr⟩,h.co.cK hg (by simp only[ne_eq,af];omega) (by simp only[ne_eq,af];omega) (by simp only[ne_eq,af];omega),h.n4,h.ic.grow hg (.inr (.inr rfl))⟩
structure RC where
 B:Nat
 M:Nat
 Mc:Nat
 cb:Nat
 co:Nat
 Cc:Nat
 cs:List (List Ln)
def RC.bS (c:RC)(aJ code:Int):List Value:=
 [.slice (some ⟨c.cb,c.co,none⟩) c.cs.length c.Cc, .slice (some ⟨c.M,0,none⟩) 64 c.Mc, .int .i64 aJ, .int .i64 code]
structure jy (c:RC)(W0 W:World):Prop where
 os:W.os=W0.os
 tape:W.tape=W0.tape
 out:W.output=W0.output
 size:W0.heap.size<=W.heap.size
 blk:∀i,i<W0.heap.size->i≠c.B->i≠c.M->W.heap[i]?=W0.heap[i]?
theorem jy.refl (c:RC)(W:World):jy c W W:=⟨rfl,rfl,rfl,Nat.le_refl _,fun _ _ _ _=>rfl⟩
theorem jy.trans {c:RC}{W0 W1 W2:World}(h:jy c W0 W1)(k:jy c W1 W2):jy c W0 W2:=
 ⟨k.os.trans h.os,k.tape.trans h.tape,k.out.trans h.out,Nat.le_trans h.size k.size,fun i hi h1 h2=>(k.blk i (aj hi h.size) h1 h2).trans (h.blk i hi h1 h2)⟩
theorem jy.below {c:RC}{W W':World}(h:Below W.heap.size W W'):jy c W W':=⟨h.os,h.tape,h.output,h.size,fun i hi _ _=>h.block i hi⟩
theorem jy.grow {c:RC}{W0 W W':World}{r:Nat}(h:jy c W0 W)(hg:W.grownBy W' (some r))(hr:W0.heap.size<=r\/r=c.B\/r=c.M):jy c W0 W':=
 ⟨hg.os.trans h.os,hg.tape.trans h.tape,hg.output.trans h.out,Nat.le_trans h.size hg.size,fun i hi h1 h2=>(hg.block i (aj hi h.size) (by
   simp only[ne_eq,af]
   rcases hr with hr|rfl|rfl
   · omega
   · exact h1
   · exact h2)).trans (h.blk i hi h1 h2)⟩
def yh (W:World)(b off:Nat)(cs:List (List Ln)):Prop:=∀k,k<cs.length->∃a m c,W.cell? ⟨b,off+k,none⟩=some (.slice a m c)/\LL W a m (cs.getD k [])
theorem yh.kept {W W':World}{b off:Nat}{cs:List (List Ln)}(h:yh W b off cs)(hB:Below W.heap.size W W'):yh W' b off cs:=fun k hk=>by
 obtain⟨a,m,c,h1,h2⟩:=h k hk
 exact⟨a,m,c,(hB.cell (p:=⟨b,off+k,none⟩) (World.block_lt_of_cell? _ _ h1)).trans h1,h2.kept hB⟩
structure BO (c:RC)(W0:World):Prop where
 ls:∀W,jy c W0 W->yh W c.cb c.co c.cs
 val:Rl.xZ c.cs
 ne:c.B≠c.M
 EF:c.cb<W0.heap.size/\c.cb≠c.B/\c.cb≠c.M
structure RK (c:RC)(W0 W:World)(mem:List Int)(aJ code:Int):Prop where
 ic:jy c W0 W
 box:dR W c.B (c.bS aJ code)
 row:W.ownsRow 0 2 1 (.slice (some ⟨c.M,0,none⟩) 64 c.Mc) 64 (mem.map iv)
theorem RK.kept {c:RC}{W0 W W':World}{mem:List Int}{aJ code:Int}(h:RK c W0 W mem aJ code)(hB:Below W.heap.size W W'):RK c W0 W' mem aJ code:=
 ⟨h.ic.trans (jy.below hB),h.box.kept hB,h.row.kept (row:=none) ⟨hB.os,hB.tape,hB.output,hB.size,fun k hk _=>hB.block k hk⟩ (.inr (by simp[Value.ownBlock]))⟩
theorem RK.cK {c:RC}{W0 W W':World}{mem:List Int}{aJ code:Int}{r:Nat}(h:RK c W0 W mem aJ code)(hg:W.grownBy W' (some r))(hr:W0.heap.size<=r)(h1:r≠c.B)(h2:r≠c.M):RK c W0 W' mem aJ code:=
 ⟨h.ic.grow hg (.inl hr),h.box.cK hg (by simpa using h1),h.row.kept hg (.inr (by simpa[Value.ownBlock]using Ne.symm h2))⟩
theorem RK.set {c:RC}{W0 W:World}{mem:List Int}{aJ code:Int}(T:BO c W0)(h:RK c W0 W mem aJ code)(x:Int):RK c W0 (W.setCell ⟨c.B,2,none⟩ (.int .i64 x)) mem x code/\RK c W0 (W.setCell ⟨c.B,3,none⟩ (.int .i64 x)) mem aJ x:=by
 have hr:∀o v,(W.setCell ⟨c.B,o,none⟩ v).ownsRow 0 2 1 (.slice (some ⟨c.M,0,none⟩) 64 c.Mc) 64 (mem.map iv):=fun o v=>
  h.row.kept (row:=some c.B) (aH W ⟨c.B,o,none⟩ v) (.inr (by simpa[Value.ownBlock]using Ne.symm T.ne))
 have ha:∀o v,jy c W0 (W.setCell ⟨c.B,o,none⟩ v):=fun o v=>h.ic.grow (aH W ⟨c.B,o,none⟩ v) (.inr (.inl rfl))
 exact⟨⟨ha _ _,h.box.set 2 _,hr _ _⟩,⟨ha _ _,h.box.set 3 _,hr _ _⟩⟩
structure RQ where
 w:World
 k:Nat
 d:Nat
 gb:Nat
 gc:Nat
 lb:Nat
 lo:Nat
 ln:Nat
 lc:Nat
 R:Mn.Rs
structure wO (c:RC)(W0:World)(q:RQ):Prop where
 tab:BO c W0
 lt:q.k<c.cs.length
 dp:q.d<12
 ic:jy c W0 q.w
 lines:∀W,jy c W0 W->LL W (some ⟨q.lb,q.lo,none⟩) q.ln (c.cs.getD q.k [])
 aS:c.B<q.w.heap.size
 zA:c.M<q.w.heap.size
structure RM (c:RC)(W0:World)(q:RQ)(bx mem:List Int)(n:Nat)(wr:World):Prop where
 wk:RK c W0 wr mem n 0
 br:wr.ownsRow q.w.heap.size 2 1 (.slice (some ⟨q.gb,0,none⟩) 40 q.gc) 40 (bx.map iv)
 ic:jy c q.w wr
structure RI (c:RC)(W0:World)(q:RQ)(at':Nat)(bx mem:List Int)(n:Nat)(wr:World):Prop where
 nb:n<=200000
 m:RM c W0 q bx mem n wr
 good:Rl.Good c.cs q.k at' bx mem
 run:Rl.run c.cs (n+1) n q.d q.k at' bx mem=q.R
section
variable {c : RC} {W0 : World} {q : RQ} {at' : Nat} {bx mem : List Int} {n m : Nat} {W W' wr : World}
theorem RM.kept (h:RM c W0 q bx mem n W)(hB:Below W.heap.size W W'):RM c W0 q bx mem n W':=
 ⟨h.wk.kept hB,aM h.br hB,h.ic.trans (jy.below hB)⟩
theorem RM.gb (h:RM c W0 q bx mem n W):q.w.heap.size<=q.gb/\q.gb<W.heap.size:=h.br.lt q.gb rfl
theorem RM.aJ (Q:wO c W0 q)(h:RM c W0 q bx mem n W)(m:Nat):RM c W0 q bx mem m (W.setCell ⟨c.B,2,none⟩ (.int .i64 (m:Int))):=by have h4:=h.gb;have iB:=Q.aS;have hg:=aH W ⟨c.B,2,none⟩ (.int .i64 (m:Int));exact⟨(h.wk.set Q.tab (m:Int)).1,h.br.kept hg (.inr (by simp only[Value.ownBlock,ne_eq,af];omega)),h.ic.grow hg (.inr (.inl rfl))⟩
theorem RM.mf (Q:wO c W0 q)(h:RM c W0 q bx mem n W)(i:Nat)(x:Int):RM c W0 q (bx.set i x) mem n (W.setCell ⟨q.gb,i,none⟩ (.int .i64 x)):=by have h4:=h.gb;have iB:=Q.aS;have iM:=Q.zA;have s0:=Q.ic.size;have hg:W.grownBy (W.setCell ⟨q.gb,i,none⟩ (.int .i64 x)) (some q.gb):=aH W ⟨q.gb,i,none⟩ (.int .i64 x);have hst:=(h.br.stored i (.int .i64 x)).1;rw[←aV]at hst;exact⟨h.wk.cK hg (by omega) (by omega) (by omega),hst,h.ic.grow hg (.inl (by omega))⟩
theorem RM.jY (Q:wO c W0 q)(h:RM c W0 q bx mem n W){jY:List Int}(hg:W.grownBy W' (some c.M))(hr:W'.ownsRow 0 2 1 (.slice (some ⟨c.M,0,none⟩) 64 c.Mc) 64 (jY.map iv)):RM c W0 q bx jY n W':=by have h4:=h.gb;have iM:=Q.zA;exact⟨⟨h.wk.ic.grow hg (.inr (.inr rfl)),h.wk.box.cK hg (by simpa using Ne.symm Q.tab.ne),hr⟩,h.br.kept hg (.inr (by simp only[Value.ownBlock,ne_eq,af];omega)),h.ic.grow hg (.inr (.inr rfl))⟩
theorem RI.next (Q:wO c W0 q)(h:RI c W0 q at' bx mem (m+1) wr){a2:Nat}{b2 m2:List Int}(hs:Rl.bu c.cs q.k at' bx mem= .next a2 b2 m2):Rl.Good c.cs q.k a2 b2 m2/\Rl.run c.cs (m+1) m q.d q.k a2 b2 m2=q.R:=by have F:=Rl.dY Q.tab.val Q.lt h.good;rw[hs]at F;exact⟨F,by rw[←h.run,Rl.iL hs]⟩
theorem RI.uE (h:RI c W0 q at' bx mem (m+1) wr){v:Int}(hs:Rl.bu c.cs q.k at' bx mem= .uE v):q.R= .done v mem m:=by rw[←h.run,Rl.sJ hs]
theorem RI.halt (h:RI c W0 q at' bx mem (m+1) wr){e:Int}(hs:Rl.bu c.cs q.k at' bx mem= .halt e):q.R= .stop e mem m:=by rw[←h.run,Rl.run_halt hs]
theorem RM.box (h:RM c W0 q bx mem n W)(hl:bx.length=40){j:Nat}(hj:j<40):W.cell? ⟨q.gb,j,none⟩=some (.int .i64 (bx.getD j 0)):=uq h.br hl hj
theorem wO.line (Q:wO c W0 q)(hA:jy c W0 W)(hl:at'<(c.cs.getD q.k []).length):at'<q.ln/\q.lb<W.heap.size/\LC W q.lb (q.lo+at'*6) (Rl.line c.cs q.k at'):=by obtain⟨h1,h2,h3|⟨b,o,e,hb,hx⟩⟩:=Q.lines W hA;{omega};simp only[af,Addr.mk.injEq,and_true]at e;obtain⟨e1,e2⟩:=e;subst e1 e2;exact⟨by omega,hb,hx at' (by omega)⟩
end
theorem uP {W W':World}{n₀ e k n:Nat}{v:Value}{xs:List Value}(h:W.ownsRow n₀ e k v n xs)(hb:∀g,v.ownBlock=some g->W'.heap[g]?=W.heap[g]?):W'.ownsRow n₀ e k v n xs:=by rcases h with⟨h1,h2|⟨g,c,cur,h3,h4,h5,h6⟩⟩;{exact⟨h1, .inl h2⟩};exact⟨h1, .inr ⟨g,c,cur,h3,h4,(hb g (by rw[h3];rfl)).trans h5,h6⟩⟩
theorem RM.call {c:RC}{W0:World}{q:RQ}{bx mem jY:List Int}{n l:Nat}{W W':World}(Q:wO c W0 q)(h:RM c W0 q bx mem n W)(hwk:RK c W0 W' jY l 0)(ha:jy c W W'):RM c W0 q bx jY l W':=by have h4:=h.gb;have iB:=Q.aS;have iM:=Q.zA;refine⟨hwk,uP h.br (fun g e=>?_),h.ic.trans ha⟩;simp only[Value.ownBlock,af]at e;subst e;exact ha.blk _ (by omega) (by omega) (by omega)
def Ak (W:World)(a:Option Addr)(n:Nat)(cs:List (List Ln)):Prop:=cs.length=n/\n<=maxLen/\(n=0\/∃b off,a=some ⟨b,off,none⟩/\b<W.heap.size/\yh W b off cs)
theorem Ak.kept {W W':World}{a:Option Addr}{n:Nat}{cs:List (List Ln)}(h:Ak W a n cs)(hB:Below W.heap.size W W'):Ak W' a n cs:=by obtain⟨h1,h2,h3|⟨b,off,h3,h4,h5⟩⟩:=h;{exact⟨h1,h2, .inl h3⟩};exact⟨h1,h2, .inr ⟨b,off,h3,aj h4 hB.size,h5.kept hB⟩⟩
structure Al (w w':World)(B:Nat)(R:Mn.Rs):Prop where
 lt:w.heap.size<=B/\B<w'.heap.size
 aJ:w'.cell? ⟨B,2,none⟩=some (.int .i64 R.left)
 code:w'.cell? ⟨B,3,none⟩=some (.int .i64 R.code)
 mem:∃M mc,w'.cell? ⟨B,1,none⟩=some (.slice (some ⟨M,0,none⟩) 64 mc)/\w'.ownsRow w.heap.size 2 1 (.slice (some ⟨M,0,none⟩) 64 mc) 64 (R.mem.map iv)
theorem Rl.no {cs:List (List Ln)}{k aJ:Int}{args mem:List Int}(h:¬(Rl.valid cs=true/\(0<=k/\k<cs.length)/\args.length<=3/\Mn.words args/\Mm.ok mem=true/\0<=aJ/\aJ<=200000)):Rl.isOk cs k args mem aJ=false:=Bool.eq_false_iff.2 fun h'=>h (Rl.mX.1 h')
def qh (cs:List (List Ln))(k:Int)(args mem:List Int)(aJ:Int)(w:World)(e:Ending)(w':World):Prop:=
 ∃(B:Nat)(v:Int)(ok:Bool),Rl.isOk cs k args mem aJ=ok/\e= .returned (.tuple #[.int .i64 v, .pointer (some ⟨B,0,none⟩), .bool ok])/\Below w.heap.size w w'/\(ok=true->v=(Rl.out cs k args mem aJ.toNat).value/\Al w w' B (Rl.out cs k args mem aJ.toNat))/\(ok=false->v=0)
theorem qh.no {cs:List (List Ln)}{k:Int}{args mem:List Int}{aJ:Int}{w w':World}{B:Nat}(h:¬(Rl.valid cs=true/\(0<=k/\k<cs.length)/\args.length<=3/\Mn.words args/\Mm.ok mem=true/\0<=aJ/\aJ<=200000))(hB:Below w.heap.size w w'):
   qh cs k args mem aJ w (.returned (.tuple #[.int .i64 0, .pointer (some ⟨B,0,none⟩), .bool false])) w':=⟨B,0,false,Rl.no h,rfl,hB,fun h=>(by cases h),fun _=>rfl⟩
section
open Go.ChangeShapes Go.WideShapes Go.ChangeAt Go.RowKit Go.Shelf Go.Deep
def xX (W:World)(n₀ g n c:Nat)(cs:List (List Ln)):Prop:=
 ∃vs:List Value,vs.length=n/\cs.length=n/\W.ownsRow n₀ 26 1 (.slice (some ⟨g,0,none⟩) n c) n vs/\∀j,j<n->vW W (n₀+1) (vs.getD j undef) (cs.getD j [])
theorem vW.wu {W W':World}{n₀:Nat}{v:Value}{fs:List Ln}(h:vW W n₀ v fs)(hB:Below W.heap.size W W'):vW W' n₀ v fs:=by obtain⟨g,cap,vs,rfl,h1,h2⟩:=h;exact⟨g,cap,vs,rfl,aM h1 hB,h2.kept hB⟩
theorem xX.kept {W W':World}{n₀ g n c:Nat}{cs:List (List Ln)}(h:xX W n₀ g n c cs)(hB:Below W.heap.size W W'):xX W' n₀ g n c cs:=by obtain⟨vs,h1,h2,h3,h4⟩:=h;exact⟨vs,h1,h2,aM h3 hB,fun j hj=>(h4 j hj).wu hB⟩
theorem xX.lt {W:World}{n₀ g n c:Nat}{cs:List (List Ln)}(h:xX W n₀ g n c cs):n₀<=g/\g<W.heap.size:=by obtain⟨vs,h1,h2,h3,h4⟩:=h;exact World.ownsRow.lt h3 g rfl
end
namespace Lw
open Hg (arg)
def wd (f:Fn):Int:=f.a+f.l
def bx (f:Fn)(h:Int):Int:=wd f+h
def zN (f:Fn)(E H:List Int)(at':Nat)(dp:Int):Int×Int×Int:=
 if dp.toNat<(aN.iK f.b E at' at').length then
   let t:=((aN.iK f.b E at' at').getD dp.toNat (-1)).toNat
   if aN.op f.b t=9 then((t:Int)+1,0,0)else if aN.op f.b t=10 then(aN.aP E t,bx f (H.getD t 0-1),arg f.b t)else(aN.aP E t,bx f (H.getD t 0),arg f.b t)
 else((f.b.length:Int)-1,bx f 0,f.g)
def args (t:Int)(n:Int):List Int:=(List.range n.toNat).map fun(i:Nat)=>t-n+1+(i:Int)
def eU (fs:List Fn)(f:Fn)(E O H:List Int)(at':Nat)(p a t:Int):List (Ln×Int):=
 if p=1 then[(⟨1,t+1,0,0,a,[]⟩,-1)]
 else if p=2 then[(⟨2,t+1,a,0,0,[]⟩,-1)]
 else if p=3\/p=4 then[(⟨2,a,t,0,0,[]⟩,-1)]
 else if p=5 then[(⟨3,t-1,t-1,t,a,[]⟩,-1)]
 else if p=6 then[(⟨4,t,t,0,0,[]⟩,-1)]
 else if p=10 then[(⟨4,t,t,0,0,[]⟩,-1),(⟨6,0,t,0,0,[]⟩,if 0<=aN.aP O at' then aN.aP O at'+1 else aN.aP E at')]
 else if p=11 then[(⟨5,0,0,0,0,[]⟩,aN.aP E at')]
 else if p=13\/p=15 then
   let L:=zN f E H at' (if p=15 then 99 else a)
   (if L.2.2=1/\L.2.1≠t then[(⟨2,L.2.1,t,0,0,[]⟩,-1)]else[])++[(⟨5,0,0,0,0,[]⟩,L.1)]
 else if p=14 then
   let L:=zN f E H at' a
   if L.2.2=1/\L.2.1≠t-1 then[(⟨4,t,t,0,0,[]⟩,-1),(⟨6,0,t,0,0,[]⟩,(at':Int)+1),(⟨2,L.2.1,t-1,0,0,[]⟩,-1),(⟨5,0,0,0,0,[]⟩,L.1)]
   else[(⟨6,0,t,0,0,[]⟩,L.1)]
 else if p=16 then
   let g:=fs.getD a.toNat .z
   [(⟨7,if g.g=1 then t-g.a+1 else wd f+20,0,0,a,args t g.a⟩,-1)]
 else if p=17 then[(⟨8,t,t,0,a,[]⟩,-1)]
 else if p=18 then[(⟨9,0,t-1,t,a,[]⟩,-1)]
 else if p=19 then[(⟨11,0,0,0,0,[]⟩,-1)]
 else[]
def step (fs:List Fn)(f:Fn)(E O H:List Int)(at':Nat):List (Ln×Int):=eU fs f E O H at' (aN.op f.b at') (arg f.b at') (bx f (H.getD at' 0-1))
def first(f:Fn):List (Ln×Int):=(List.range f.l.toNat).map fun(i:Nat)=>(⟨1,f.a+(i:Int),0,0,0,[]⟩,-1)
def uy (fs:List Fn)(f:Fn)(E O H:List Int):Nat->List (Ln×Int)×List Int
 |0=>(first f,[])
 |i+1=>((uy fs f E O H i).1++(if 0<=H.getD i 0 then step fs f E O H i else[]),(uy fs f E O H i).2++[((uy fs f E O H i).1.length:Int)])
def last (f:Fn):List (Ln×Int):=if f.g=0 then[(⟨1,wd f+20,0,0,0,[]⟩,-1),(⟨10,0,wd f+20,0,0,[]⟩,-1)]else[(⟨10,0,wd f,0,0,[]⟩,-1)]
def raw (fs:List Fn)(f:Fn)(E O H:List Int):List (Ln×Int):=(uy fs f E O H f.b.length).1++last f
end Lw
section
def gD (W:World)(b:Nat)(v0 v1 v2 v3 v4:Value):Prop:=
 b <W.heap.size/\(W.cell? ⟨b,0,none⟩=some v0/\W.cell? ⟨b,1,none⟩=some v1/\W.cell? ⟨b,2,none⟩=some v2/\W.cell? ⟨b,3,none⟩=some v3/\W.cell? ⟨b,4,none⟩=some v4)/\
   W.frozen? ⟨b,0,none⟩=false/\W.frozen? ⟨b,1,none⟩=false/\W.frozen? ⟨b,2,none⟩=false/\W.frozen? ⟨b,3,none⟩=false/\W.frozen? ⟨b,4,none⟩=false
theorem gD.cK {W W':World}{b:Nat}{row:Option Nat}{v0 v1 v2 v3 v4:Value}(h:gD W b v0 v1 v2 v3 v4)(hg:W.grownBy W' row)(hne:row≠some b):gD W' b v0 v1 v2 v3 v4:=by obtain⟨h0,⟨c0,c1,c2,c3,c4⟩,f0,f1,f2,f3,f4⟩:=h;have hb:=hg.block b h0 (fun e=>hne e.symm);have hc:∀i,W'.cell? ⟨b,i,none⟩=W.cell? ⟨b,i,none⟩:=fun i=>World.cell?_of_block hb;have hf:∀i,W'.frozen? ⟨b,i,none⟩=W.frozen? ⟨b,i,none⟩:=fun i=>by{unfold World.frozen?;rw[hb]};exact⟨aj h0 hg.size,⟨(hc _).trans c0,(hc _).trans c1,(hc _).trans c2,(hc _).trans c3,(hc _).trans c4⟩,(hf _).trans f0,(hf _).trans f1,(hf _).trans f2,(hf _).trans f3,(hf _).trans f4⟩
theorem gD.new (W:World)(v0 v1 v2 v3 v4:Value)(t:TypeId):gD (W.alloc (.cells #[v0,v1,v2,v3,v4] t)) W.heap.size v0 v1 v2 v3 v4:=by refine⟨by simp,⟨?_,?_,?_,?_,?_⟩,?_,?_,?_,?_,?_⟩<;>go_simp
theorem gD.Aq {W:World}{b:Nat}{v0 v1 v2 v3 v4:Value}(h:gD W b v0 v1 v2 v3 v4)(x:Value):gD (W.setCell ⟨b,1,none⟩ x) b v0 x v2 v3 v4:=by obtain⟨h0,⟨c0,c1,c2,c3,c4⟩,f0,f1,f2,f3,f4⟩:=h;refine⟨by simpa[World.setCell]using h0,⟨?_,?_,?_,?_,?_⟩,?_,?_,?_,?_,?_⟩<;>go_simp
theorem gD.wF {W:World}{b:Nat}{v0 v1 v2 v3 v4:Value}(h:gD W b v0 v1 v2 v3 v4)(x:Value):gD (W.setCell ⟨b,4,none⟩ x) b v0 v1 v2 v3 x:=by obtain⟨h0,⟨c0,c1,c2,c3,c4⟩,f0,f1,f2,f3,f4⟩:=h;refine⟨by simpa[World.setCell]using h0,⟨?_,?_,?_,?_,?_⟩,?_,?_,?_,?_,?_⟩<;>go_simp
structure PS (w:World)(m0 N gE gO:Nat)(a:Option Addr)(len cap:Nat)(E O:List Int)(S:List Nat)(b:Bool)(W:World):Prop where
 fV:Below w.heap.size w W
 hm:m0<=W.heap.size
 iN:w.heap.size<=N/\N<m0
 iE:w.heap.size<=gE/\gE<m0
 iO:w.heap.size<=gO/\gO<m0
 ne:N≠gE/\N≠gO/\gE≠gO
 rE:W.ownsRow w.heap.size 2 1 (.slice (some ⟨gE,0,none⟩) len len) len (E.map iv)
 rO:W.ownsRow w.heap.size 2 1 (.slice (some ⟨gO,0,none⟩) len len) len (O.map iv)
 st:∃v,gD W N (.slice a len cap) v (.slice (some ⟨gE,0,none⟩) len len) (.slice (some ⟨gO,0,none⟩) len len) (.bool b)/\W.ownsRow m0 2 1 v S.length ((eP S.reverse).map iv)
variable {w : World} {m0 N gE gO : Nat} {a : Option Addr} {len cap : Nat} {E O : List Int} {S : List Nat} {b : Bool} {W : World}
theorem PS.kept {W':World}(h:PS w m0 N gE gO a len cap E O S b W)(hB:Below W.heap.size W W'):PS w m0 N gE gO a len cap E O S b W':=by obtain⟨v,hb,hr⟩:=h.st;exact{h with fV:=h.fV.trans (hB.mono h.fV.size),hm:=Nat.le_trans h.hm hB.size,rE:=aM h.rE hB,rO:=aM h.rO hB,st:=⟨v,hb.cK (row:=none) ⟨hB.os,hB.tape,hB.output,hB.size,fun k hk _=>hB.block k hk⟩ (by simp),aM hr hB⟩}
theorem jD {W:World}{n₀ e k n:Nat}{v:Value}{xs:List Value}(h:W.ownsRow n₀ e k v n xs):∃a cap,v= .slice a n cap:=by rcases h.2 with⟨rfl,h0⟩|⟨g,cap,cur,rfl,_⟩;{exact⟨none,0,by rw[h0]⟩};exact⟨_,cap,rfl⟩
theorem PS.apart (h:PS w m0 N gE gO a len cap E O S b W){v:Value}{n:Nat}{xs:List Value}(hr:W.ownsRow m0 2 1 v n xs):∀g,v.ownBlock=some g->g≠N/\g≠gE/\g≠gO:=by intro g hg;have h1:=(hr.lt g hg).1;have:=h.iN;have:=h.iE;have:=h.iO;omega
theorem PS.row {wA:World}{v:Value}{n:Nat}{xs:List Value}(hs:PS w m0 N gE gO a len cap E O S b W)(hr:W.ownsRow m0 2 1 v n xs)(hg:W.grownBy wA v.ownBlock){v':Value}{S':List Nat}(hown:wA.ownsRow m0 2 1 v' S'.length ((eP S'.reverse).map iv)):PS w m0 N gE gO a len cap E O S' b (wA.setCell ⟨N,1,none⟩ v'):=by have hap:=hs.apart hr;have hN:=hs.iN;have D6:=hs.iE;have D7:=hs.iO;obtain⟨n1,n2,n3⟩:=hs.ne;obtain⟨vv,hb,-⟩:=hs.st;have D8:=hb.cK hg (fun e=>by have:=hap N e;omega);have hg2:=aH wA ⟨N,1,none⟩ v';have off:∀{g:Nat}{ys:List Value},W.ownsRow w.heap.size 2 1 (.slice (some ⟨g,0,none⟩) len len) len ys->(∀x,v.ownBlock=some x->x≠g)->g≠N->(wA.setCell ⟨N,1,none⟩ v').ownsRow w.heap.size 2 1 (.slice (some ⟨g,0,none⟩) len len) len ys:=by{intro g ys hrg h1 h2;have e1:wA.ownsRow w.heap.size 2 1 (.slice (some ⟨g,0,none⟩) len len) len ys:=hrg.kept hg (.inr (fun e=>h1 g e.symm rfl));exact dB e1 hg2 h2};have hB1:=hs.fV.grown hg hs.fV.size (fun j ej=>by have:=(hr.lt j ej).1;omega);refine⟨hB1.setCell (p:=⟨N,1,none⟩) hN.1 _,?_,hN,D6,D7,hs.ne,off hs.rE (fun x hx=>(hap x hx).2.1) (by omega),off hs.rO (fun x hx=>(hap x hx).2.2) (by omega),v',D8.Aq v',?_⟩;{have h1:=hs.hm;have h2:=hg.size;simp[World.setCell];omega};refine hown.kept hg2 ?_;rcases hv:v'.ownBlock with _|x;{exact .inl rfl};refine .inr ?_;have:=(hown.lt x hv).1;simp only[ne_eq,af];omega
theorem PS.iQ {t:Nat}(hs:PS w m0 N gE gO a len cap E O (t::S) b W):∃g c,gD W N (.slice a len cap) (.slice (some ⟨g,0,none⟩) (S.length+1) c) (.slice (some ⟨gE,0,none⟩) len len) (.slice (some ⟨gO,0,none⟩) len len) (.bool b)/\W.ownsRow m0 2 1 (.slice (some ⟨g,0,none⟩) (S.length+1) c) (S.length+1) ((eP (t::S).reverse).map iv)/\W.cell? ⟨g,S.length,none⟩=some (.int .i64 (t:Int)):=by obtain⟨v,hb,hr⟩:=hs.st;rw[List.length_cons]at hr;obtain⟨g,c,rfl⟩:=ownsRow_succ hr;refine⟨g,c,hb,hr,?_⟩;have:=qf (xs:=eP (t::S).reverse) hr (k:=S.length) (by simp) 0;rw[this];simp[eP]
end
end Go.Proofs.Ytghjooipkofodab
