/-
  Own texts for a law: Wlk5 Wlk6 Rw0 RwA7 Rw2 LinS Low0 Low1 LinM
-/
import Derived.Test.YtlbkdlnalgkjeaaLB13
import Derived.Lib.AppendZerosOnto
import Derived.Laws.AppendOwn
namespace Go.Proofs.Ytlbkdlnalgkjeaa
open Go.RowKit Go.Shelf
set_option linter.all false
set_option maxRecDepth 100000
set_option maxHeartbeats 16000000
namespace Mn
open Hg
end Mn
theorem add_zero (g j:Nat):(⟨g,0,none⟩:Addr).add j=⟨g,j,none⟩:=by unfold Addr.add;split<;>simp_all
theorem CM.mem {c:WC}{W0:World}{q:CC}{pile loc mem kH:List Int}{n gp cp:Nat}{W W':World}(Q:CQ c W0 q)(h:CM c W0 q pile loc mem n gp cp W)(hg:W.grownBy W' (some c.M))(hr:W'.ownsRow 0 2 1 (.slice (some ⟨c.M,0,none⟩) 64 c.Mc) 64 (kH.map iv)):CM c W0 q pile loc kH n gp cp W':=by obtain⟨o1,o2,o3⟩:=h.co.ord;have h4:=h.n4;have iM:=Q.zy;exact⟨⟨h.wk.gX.grow hg (.inr (.inr rfl)),h.wk.box.bM hg (by simpa using Ne.symm Q.tab.ne),hr⟩,h.co.bM hg (by simp only[ne_eq,af];omega) (by simp only[ne_eq,af];omega) (by simp only[ne_eq,af];omega),h.n4,h.gX.grow hg (.inr (.inr rfl))⟩
structure RC where
 B:Nat
 M:Nat
 Mc:Nat
 cb:Nat
 co:Nat
 Cc:Nat
 cs:List (List Ln)
def RC.bS (c:RC)(aC code:Int):List Value:=
 [.slice (some ⟨c.cb,c.co,none⟩) c.cs.length c.Cc, .slice (some ⟨c.M,0,none⟩) 64 c.Mc, .int .i64 aC, .int .i64 code]
structure jk (c:RC)(W0 W:World):Prop where
 os:W.os=W0.os
 tape:W.tape=W0.tape
 out:W.output=W0.output
 size:W0.heap.size<=W.heap.size
 blk:∀i,i<W0.heap.size->i≠c.B->i≠c.M->W.heap[i]?=W0.heap[i]?
theorem jk.refl (c:RC)(W:World):jk c W W:=⟨rfl,rfl,rfl,Nat.le_refl _,fun _ _ _ _=>rfl⟩
theorem jk.trans {c:RC}{W0 W1 W2:World}(h:jk c W0 W1)(k:jk c W1 W2):jk c W0 W2:=
 ⟨k.os.trans h.os,k.tape.trans h.tape,k.out.trans h.out,Nat.le_trans h.size k.size,fun i hi h1 h2=>(k.blk i (aj hi h.size) h1 h2).trans (h.blk i hi h1 h2)⟩
theorem jk.below {c:RC}{W W':World}(h:Below W.heap.size W W'):jk c W W':=⟨h.os,h.tape,h.output,h.size,fun i hi _ _=>h.block i hi⟩
theorem jk.grow {c:RC}{W0 W W':World}{r:Nat}(h:jk c W0 W)(hg:W.grownBy W' (some r))(hr:W0.heap.size<=r\/r=c.B\/r=c.M):jk c W0 W':=
 ⟨hg.os.trans h.os,hg.tape.trans h.tape,hg.output.trans h.out,Nat.le_trans h.size hg.size,fun i hi h1 h2=>(hg.block i (aj hi h.size) (by
   simp only[ne_eq,af]
   rcases hr with hr|rfl|rfl
   · omega
   · exact h1
   · exact h2)).trans (h.blk i hi h1 h2)⟩
def yH (W:World)(b off:Nat)(cs:List (List Ln)):Prop:=∀k,k<cs.length->∃a m c,W.cell? ⟨b,off+k,none⟩=some (.slice a m c)/\LL W a m (cs.getD k [])
theorem yH.kept {W W':World}{b off:Nat}{cs:List (List Ln)}(h:yH W b off cs)(hB:Below W.heap.size W W'):yH W' b off cs:=fun k hk=>by
 obtain⟨a,m,c,h1,h2⟩:=h k hk
 exact⟨a,m,c,(hB.cell (p:=⟨b,off+k,none⟩) (World.block_lt_of_cell? _ _ h1)).trans h1,h2.kept hB⟩
structure BH (c:RC)(W0:World):Prop where
 ls:∀W,jk c W0 W->yH W c.cb c.co c.cs
 val:Rl.xD c.cs
 ne:c.B≠c.M
 EU:c.cb<W0.heap.size/\c.cb≠c.B/\c.cb≠c.M
structure RK (c:RC)(W0 W:World)(mem:List Int)(aC code:Int):Prop where
 gX:jk c W0 W
 box:bE W c.B (c.bS aC code)
 row:W.ownsRow 0 2 1 (.slice (some ⟨c.M,0,none⟩) 64 c.Mc) 64 (mem.map iv)
theorem RK.kept {c:RC}{W0 W W':World}{mem:List Int}{aC code:Int}(h:RK c W0 W mem aC code)(hB:Below W.heap.size W W'):RK c W0 W' mem aC code:=
 ⟨h.gX.trans (jk.below hB),h.box.kept hB,h.row.kept (row:=none) ⟨hB.os,hB.tape,hB.output,hB.size,fun k hk _=>hB.block k hk⟩ (.inr (by simp[Value.ownBlock]))⟩
theorem RK.bM {c:RC}{W0 W W':World}{mem:List Int}{aC code:Int}{r:Nat}(h:RK c W0 W mem aC code)(hg:W.grownBy W' (some r))(hr:W0.heap.size<=r)(h1:r≠c.B)(h2:r≠c.M):RK c W0 W' mem aC code:=
 ⟨h.gX.grow hg (.inl hr),h.box.bM hg (by simpa using h1),h.row.kept hg (.inr (by simpa[Value.ownBlock]using Ne.symm h2))⟩
theorem RK.set {c:RC}{W0 W:World}{mem:List Int}{aC code:Int}(T:BH c W0)(h:RK c W0 W mem aC code)(x:Int):RK c W0 (W.setCell ⟨c.B,2,none⟩ (.int .i64 x)) mem x code/\RK c W0 (W.setCell ⟨c.B,3,none⟩ (.int .i64 x)) mem aC x:=by
 have hr:∀o v,(W.setCell ⟨c.B,o,none⟩ v).ownsRow 0 2 1 (.slice (some ⟨c.M,0,none⟩) 64 c.Mc) 64 (mem.map iv):=fun o v=>
  h.row.kept (row:=some c.B) (aA W ⟨c.B,o,none⟩ v) (.inr (by simpa[Value.ownBlock]using Ne.symm T.ne))
 have ha:∀o v,jk c W0 (W.setCell ⟨c.B,o,none⟩ v):=fun o v=>h.gX.grow (aA W ⟨c.B,o,none⟩ v) (.inr (.inl rfl))
 exact⟨⟨ha _ _,h.box.set 2 _,hr _ _⟩,⟨ha _ _,h.box.set 3 _,hr _ _⟩⟩
structure RQ where
 w:World
 k:Nat
 d:Nat
 gb:Nat
 gc:Nat
 lb:Nat
 lo:Nat
 ln:Nat
 lc:Nat
 R:Mn.Rs
structure uT (c:RC)(W0:World)(q:RQ):Prop where
 tab:BH c W0
 lt:q.k<c.cs.length
 dp:q.d<12
 gX:jk c W0 q.w
 lines:∀W,jk c W0 W->LL W (some ⟨q.lb,q.lo,none⟩) q.ln (c.cs.getD q.k [])
 aK:c.B<q.w.heap.size
 zy:c.M<q.w.heap.size
structure RM (c:RC)(W0:World)(q:RQ)(bx mem:List Int)(n:Nat)(wr:World):Prop where
 wk:RK c W0 wr mem n 0
 br:wr.ownsRow q.w.heap.size 2 1 (.slice (some ⟨q.gb,0,none⟩) 40 q.gc) 40 (bx.map iv)
 gX:jk c q.w wr
structure RI (c:RC)(W0:World)(q:RQ)(at':Nat)(bx mem:List Int)(n:Nat)(wr:World):Prop where
 nb:n<=200000
 m:RM c W0 q bx mem n wr
 good:Rl.Good c.cs q.k at' bx mem
 run:Rl.run c.cs (n+1) n q.d q.k at' bx mem=q.R
section
variable {c : RC} {W0 : World} {q : RQ} {at' : Nat} {bx mem : List Int} {n m : Nat} {W W' wr : World}
theorem RM.kept (h:RM c W0 q bx mem n W)(hB:Below W.heap.size W W'):RM c W0 q bx mem n W':=
 ⟨h.wk.kept hB,aF h.br hB,h.gX.trans (jk.below hB)⟩
theorem RM.gb (h:RM c W0 q bx mem n W):q.w.heap.size<=q.gb/\q.gb<W.heap.size:=h.br.lt q.gb rfl
theorem RM.aC (Q:uT c W0 q)(h:RM c W0 q bx mem n W)(m:Nat):RM c W0 q bx mem m (W.setCell ⟨c.B,2,none⟩ (.int .i64 (m:Int))):=by have h4:=h.gb;have iB:=Q.aK;have hg:=aA W ⟨c.B,2,none⟩ (.int .i64 (m:Int));exact⟨(h.wk.set Q.tab (m:Int)).1,h.br.kept hg (.inr (by simp only[Value.ownBlock,ne_eq,af];omega)),h.gX.grow hg (.inr (.inl rfl))⟩
theorem RM.lK (Q:uT c W0 q)(h:RM c W0 q bx mem n W)(i:Nat)(x:Int):RM c W0 q (bx.set i x) mem n (W.setCell ⟨q.gb,i,none⟩ (.int .i64 x)):=by have h4:=h.gb;have iB:=Q.aK;have iM:=Q.zy;have s0:=Q.gX.size;have hg:W.grownBy (W.setCell ⟨q.gb,i,none⟩ (.int .i64 x)) (some q.gb):=aA W ⟨q.gb,i,none⟩ (.int .i64 x);have hst:=(h.br.stored i (.int .i64 x)).1;rw[←bn]at hst;exact⟨h.wk.bM hg (by omega) (by omega) (by omega),hst,h.gX.grow hg (.inl (by omega))⟩
theorem RM.kH (Q:uT c W0 q)(h:RM c W0 q bx mem n W){kH:List Int}(hg:W.grownBy W' (some c.M))(hr:W'.ownsRow 0 2 1 (.slice (some ⟨c.M,0,none⟩) 64 c.Mc) 64 (kH.map iv)):RM c W0 q bx kH n W':=by have h4:=h.gb;have iM:=Q.zy;exact⟨⟨h.wk.gX.grow hg (.inr (.inr rfl)),h.wk.box.bM hg (by simpa using Ne.symm Q.tab.ne),hr⟩,h.br.kept hg (.inr (by simp only[Value.ownBlock,ne_eq,af];omega)),h.gX.grow hg (.inr (.inr rfl))⟩
theorem RI.next (Q:uT c W0 q)(h:RI c W0 q at' bx mem (m+1) wr){a2:Nat}{b2 m2:List Int}(hs:Rl.bC c.cs q.k at' bx mem= .next a2 b2 m2):Rl.Good c.cs q.k a2 b2 m2/\Rl.run c.cs (m+1) m q.d q.k a2 b2 m2=q.R:=by have F:=Rl.dZ Q.tab.val Q.lt h.good;rw[hs]at F;exact⟨F,by rw[←h.run,Rl.jb hs]⟩
theorem RI.sj (h:RI c W0 q at' bx mem (m+1) wr){v:Int}(hs:Rl.bC c.cs q.k at' bx mem= .sj v):q.R= .done v mem m:=by rw[←h.run,Rl.qP hs]
theorem RI.halt (h:RI c W0 q at' bx mem (m+1) wr){e:Int}(hs:Rl.bC c.cs q.k at' bx mem= .halt e):q.R= .stop e mem m:=by rw[←h.run,Rl.run_halt hs]
theorem RM.box (h:RM c W0 q bx mem n W)(hl:bx.length=40){j:Nat}(hj:j<40):W.cell? ⟨q.gb,j,none⟩=some (.int .i64 (bx.getD j 0)):=tJ h.br hl hj
theorem uT.line (Q:uT c W0 q)(hA:jk c W0 W)(hl:at'<(c.cs.getD q.k []).length):at'<q.ln/\q.lb<W.heap.size/\LC W q.lb (q.lo+at'*6) (Rl.line c.cs q.k at'):=by obtain⟨h1,h2,h3|⟨b,o,e,hb,hx⟩⟩:=Q.lines W hA;{omega};simp only[af,Addr.mk.injEq,and_true]at e;obtain⟨e1,e2⟩:=e;subst e1 e2;exact⟨by omega,hb,hx at' (by omega)⟩
end
theorem sG {W W':World}{n₀ e k n:Nat}{v:Value}{xs:List Value}(h:W.ownsRow n₀ e k v n xs)(hb:∀g,v.ownBlock=some g->W'.heap[g]?=W.heap[g]?):W'.ownsRow n₀ e k v n xs:=by rcases h with⟨h1,h2|⟨g,c,cur,h3,h4,h5,h6⟩⟩;{exact⟨h1, .inl h2⟩};exact⟨h1, .inr ⟨g,c,cur,h3,h4,(hb g (by rw[h3];rfl)).trans h5,h6⟩⟩
theorem RM.call {c:RC}{W0:World}{q:RQ}{bx mem kH:List Int}{n l:Nat}{W W':World}(Q:uT c W0 q)(h:RM c W0 q bx mem n W)(hwk:RK c W0 W' kH l 0)(ha:jk c W W'):RM c W0 q bx kH l W':=by have h4:=h.gb;have iB:=Q.aK;have iM:=Q.zy;refine⟨hwk,sG h.br (fun g e=>?_),h.gX.trans ha⟩;simp only[Value.ownBlock,af]at e;subst e;exact ha.blk _ (by omega) (by omega) (by omega)
def zZ (W:World)(a:Option Addr)(n:Nat)(cs:List (List Ln)):Prop:=cs.length=n/\n<=maxLen/\(n=0\/∃b off,a=some ⟨b,off,none⟩/\b<W.heap.size/\yH W b off cs)
theorem zZ.kept {W W':World}{a:Option Addr}{n:Nat}{cs:List (List Ln)}(h:zZ W a n cs)(hB:Below W.heap.size W W'):zZ W' a n cs:=by obtain⟨h1,h2,h3|⟨b,off,h3,h4,h5⟩⟩:=h;{exact⟨h1,h2, .inl h3⟩};exact⟨h1,h2, .inr ⟨b,off,h3,aj h4 hB.size,h5.kept hB⟩⟩
structure z8 (w w':World)(B:Nat)(R:Mn.Rs):Prop where
 lt:w.heap.size<=B/\B<w'.heap.size
 aC:w'.cell? ⟨B,2,none⟩=some (.int .i64 R.left)
 code:w'.cell? ⟨B,3,none⟩=some (.int .i64 R.code)
 mem:∃M mc,w'.cell? ⟨B,1,none⟩=some (.slice (some ⟨M,0,none⟩) 64 mc)/\w'.ownsRow w.heap.size 2 1 (.slice (some ⟨M,0,none⟩) 64 mc) 64 (R.mem.map iv)
theorem Rl.no {cs:List (List Ln)}{k aC:Int}{args mem:List Int}(h:¬(Rl.valid cs=true/\(0<=k/\k<cs.length)/\args.length<=3/\Mn.words args/\Mm.ok mem=true/\0<=aC/\aC<=200000)):Rl.isOk cs k args mem aC=false:=Bool.eq_false_iff.2 fun h'=>h (Rl.lU.1 h')
def nW (cs:List (List Ln))(k:Int)(args mem:List Int)(aC:Int)(w:World)(e:Ending)(w':World):Prop:=
 ∃(B:Nat)(v:Int)(ok:Bool),Rl.isOk cs k args mem aC=ok/\e= .returned (.tuple #[.int .i64 v, .pointer (some ⟨B,0,none⟩), .bool ok])/\Below w.heap.size w w'/\(ok=true->v=(Rl.out cs k args mem aC.toNat).value/\z8 w w' B (Rl.out cs k args mem aC.toNat))/\(ok=false->v=0)
theorem nW.no {cs:List (List Ln)}{k:Int}{args mem:List Int}{aC:Int}{w w':World}{B:Nat}(h:¬(Rl.valid cs=true/\(0<=k/\k<cs.length)/\args.length<=3/\Mn.words args/\Mm.ok mem=true/\0<=aC/\aC<=200000))(hB:Below w.heap.size w w'):
   nW cs k args mem aC w (.returned (.tuple #[.int .i64 0, .pointer (some ⟨B,0,none⟩), .bool false])) w':=⟨B,0,false,Rl.no h,rfl,hB,fun h=>(by cases h),fun _=>rfl⟩
section
open Go.ChangeShapes Go.WideShapes Go.ChangeAt Go.RowKit Go.Shelf Go.Deep
def xP (W:World)(n₀ g n c:Nat)(cs:List (List Ln)):Prop:=
 ∃vs:List Value,vs.length=n/\cs.length=n/\W.ownsRow n₀ 26 1 (.slice (some ⟨g,0,none⟩) n c) n vs/\∀j,j<n->vz W (n₀+1) (vs.getD j undef) (cs.getD j [])
theorem vz.uZ {W W':World}{n₀:Nat}{v:Value}{fs:List Ln}(h:vz W n₀ v fs)(hB:Below W.heap.size W W'):vz W' n₀ v fs:=by obtain⟨g,cap,vs,rfl,h1,h2⟩:=h;exact⟨g,cap,vs,rfl,aF h1 hB,h2.kept hB⟩
theorem xP.kept {W W':World}{n₀ g n c:Nat}{cs:List (List Ln)}(h:xP W n₀ g n c cs)(hB:Below W.heap.size W W'):xP W' n₀ g n c cs:=by obtain⟨vs,h1,h2,h3,h4⟩:=h;exact⟨vs,h1,h2,aF h3 hB,fun j hj=>(h4 j hj).uZ hB⟩
theorem xP.lt {W:World}{n₀ g n c:Nat}{cs:List (List Ln)}(h:xP W n₀ g n c cs):n₀<=g/\g<W.heap.size:=by obtain⟨vs,h1,h2,h3,h4⟩:=h;exact World.ownsRow.lt h3 g rfl
end
namespace Lw
open Hg (arg)
def wd (f:Fn):Int:=f.a+f.l
def bx (f:Fn)(h:Int):Int:=wd f+h
def zG (f:Fn)(E H:List Int)(at':Nat)(dp:Int):Int×Int×Int:=
 if dp.toNat<(aG.eU f.b E at' at').length then
   let t:=((aG.eU f.b E at' at').getD dp.toNat (-1)).toNat
   if aG.op f.b t=9 then((t:Int)+1,0,0)else if aG.op f.b t=10 then(aG.aH E t,bx f (H.getD t 0-1),arg f.b t)else(aG.aH E t,bx f (H.getD t 0),arg f.b t)
 else((f.b.length:Int)-1,bx f 0,f.g)
def args (t:Int)(n:Int):List Int:=(List.range n.toNat).map fun(i:Nat)=>t-n+1+(i:Int)
def cZ (fs:List Fn)(f:Fn)(E O H:List Int)(at':Nat)(p a t:Int):List (Ln×Int):=
 if p=1 then[(⟨1,t+1,0,0,a,[]⟩,-1)]
 else if p=2 then[(⟨2,t+1,a,0,0,[]⟩,-1)]
 else if p=3\/p=4 then[(⟨2,a,t,0,0,[]⟩,-1)]
 else if p=5 then[(⟨3,t-1,t-1,t,a,[]⟩,-1)]
 else if p=6 then[(⟨4,t,t,0,0,[]⟩,-1)]
 else if p=10 then[(⟨4,t,t,0,0,[]⟩,-1),(⟨6,0,t,0,0,[]⟩,if 0<=aG.aH O at' then aG.aH O at'+1 else aG.aH E at')]
 else if p=11 then[(⟨5,0,0,0,0,[]⟩,aG.aH E at')]
 else if p=13\/p=15 then
   let L:=zG f E H at' (if p=15 then 99 else a)
   (if L.2.2=1/\L.2.1≠t then[(⟨2,L.2.1,t,0,0,[]⟩,-1)]else[])++[(⟨5,0,0,0,0,[]⟩,L.1)]
 else if p=14 then
   let L:=zG f E H at' a
   if L.2.2=1/\L.2.1≠t-1 then[(⟨4,t,t,0,0,[]⟩,-1),(⟨6,0,t,0,0,[]⟩,(at':Int)+1),(⟨2,L.2.1,t-1,0,0,[]⟩,-1),(⟨5,0,0,0,0,[]⟩,L.1)]
   else[(⟨6,0,t,0,0,[]⟩,L.1)]
 else if p=16 then
   let g:=fs.getD a.toNat .z
   [(⟨7,if g.g=1 then t-g.a+1 else wd f+20,0,0,a,args t g.a⟩,-1)]
 else if p=17 then[(⟨8,t,t,0,a,[]⟩,-1)]
 else if p=18 then[(⟨9,0,t-1,t,a,[]⟩,-1)]
 else if p=19 then[(⟨11,0,0,0,0,[]⟩,-1)]
 else[]
def step (fs:List Fn)(f:Fn)(E O H:List Int)(at':Nat):List (Ln×Int):=cZ fs f E O H at' (aG.op f.b at') (arg f.b at') (bx f (H.getD at' 0-1))
def first(f:Fn):List (Ln×Int):=(List.range f.l.toNat).map fun(i:Nat)=>(⟨1,f.a+(i:Int),0,0,0,[]⟩,-1)
def tO (fs:List Fn)(f:Fn)(E O H:List Int):Nat->List (Ln×Int)×List Int
 |0=>(first f,[])
 |i+1=>((tO fs f E O H i).1++(if 0<=H.getD i 0 then step fs f E O H i else[]),(tO fs f E O H i).2++[((tO fs f E O H i).1.length:Int)])
def last (f:Fn):List (Ln×Int):=if f.g=0 then[(⟨1,wd f+20,0,0,0,[]⟩,-1),(⟨10,0,wd f+20,0,0,[]⟩,-1)]else[(⟨10,0,wd f,0,0,[]⟩,-1)]
def raw (fs:List Fn)(f:Fn)(E O H:List Int):List (Ln×Int):=(tO fs f E O H f.b.length).1++last f
end Lw
structure LX where
 B:Nat
 ha:Option Addr
 hc:Nat
 ea:Option Addr
 ec:Nat
 ba:Option Addr
 bc:Nat
 fs:List Fn
 f:Fn
 E:List Int
 O:List Int
 H:List Int
def LX.bS (c:LX)(v vg:Value):List Value:=
 [v,vg, .int .i64 (Lw.wd c.f), .slice c.ha c.f.b.length c.hc, .slice c.ea c.f.b.length c.ec, .slice c.ba c.f.b.length c.bc, .int .i64 c.f.g]
structure TX (c:LX)(W0:World):Prop where
 lt:W0.heap.size<=c.B
 hH:IL W0 c.ha c.f.b.length c.H
 hE:IL W0 c.ea c.f.b.length c.E
 hS:SL W0 c.ba c.f.b.length c.f.b
 acc:Hg.Acc c.fs c.f c.E c.O c.H
 ok:0<=c.f.a/\c.f.a<=3/\0<=c.f.l/\c.f.l<=3/\(c.f.g=0\/c.f.g=1)/\c.f.b.length<=80
 all:St.bV c.f.b=true
 val:Mn.xD c.fs
structure MK (c:LX)(W0 W:World)(v vg:Value)(out:List (Ln×Int))(P:Nat->Prop):Prop where
 jc:Below W0.heap.size W0 W
 box:bE W c.B (c.bS v vg)
 sz:c.B+1<=W.heap.size
 row:∃vs:List Lv,W.ownsRow (c.B+1) 45 6 v out.length (aN vs)/\vs.length=out.length/\bZ W (c.B+1) out.length vs (out.map (·.1))/\∀j,j<out.length->∀g,(vs.getD j dW).2.2.2.2.2.ownBlock=some g->vg.ownBlock≠some g/\P g
 Bz:OI W (c.B+1) vg (out.map (·.2))
structure FX (c:LX)(v vg v' wZ:Value)(W W':World):Prop where
 os:W'.os=W.os
 tape:W'.tape=W.tape
 out:W'.output=W.output
 size:W.heap.size<=W'.heap.size
 blk:∀i,i<W.heap.size->i≠c.B->v.ownBlock≠some i->vg.ownBlock≠some i->W'.heap[i]?=W.heap[i]?
 v1:v'.ownBlock=v.ownBlock\/∃g,v'.ownBlock=some g/\W.heap.size<=g
 g1:wZ.ownBlock=vg.ownBlock\/∃g,wZ.ownBlock=some g/\W.heap.size<=g
theorem FX.refl (c:LX)(v vg:Value)(W:World):FX c v vg v vg W W:=⟨rfl,rfl,rfl,Nat.le_refl _,fun _ _ _ _ _=>rfl, .inl rfl, .inl rfl⟩
theorem FX.trans {c:LX}{v vg v' wZ v2 CR:Value}{W W' W2:World}(h:FX c v vg v' wZ W W')(k:FX c v' wZ v2 CR W' W2):FX c v vg v2 CR W W2:=by refine⟨k.os.trans h.os,k.tape.trans h.tape,k.out.trans h.out,Nat.le_trans h.size k.size,fun i hi hB hv hg=>?_,?_,?_⟩;{refine(k.blk i (aj hi h.size) hB ?_ ?_).trans (h.blk i hi hB hv hg);{rcases h.v1 with e|⟨g,e,hge⟩;{rw[e];exact hv};rw[e];simp only[ne_eq,af];omega};rcases h.g1 with e|⟨g,e,hge⟩;{rw[e];exact hg};rw[e];simp only[ne_eq,af];omega};{rcases k.v1 with e|⟨g,e,hge⟩;{rw[e];exact h.v1};exact .inr ⟨g,e,Nat.le_trans h.size hge⟩};rcases k.g1 with e|⟨g,e,hge⟩;{rw[e];exact h.g1};exact .inr ⟨g,e,Nat.le_trans h.size hge⟩
theorem FX.below {c:LX}{v vg:Value}{W W':World}(h:Below W.heap.size W W'):FX c v vg v vg W W':=⟨h.os,h.tape,h.output,h.size,fun i hi _ _ _=>h.block i hi, .inl rfl, .inl rfl⟩
theorem FX.rows {c:LX}{v vg v' wZ:Value}{W W':World}(h:FX c v vg v' wZ W W'){n₀ e k n:Nat}{u:Value}{xs:List Value}(hr:W.ownsRow n₀ e k u n xs)(hn:∀g,u.ownBlock=some g->g≠c.B/\v.ownBlock≠some g/\vg.ownBlock≠some g):W'.ownsRow n₀ e k u n xs:=by refine⟨hr.1,?_⟩;rcases hr.2 with h'|⟨g',cap',cur,h',h1,h2,r⟩;{exact .inl h'};have hg:=hn g' (by rw[h'];rfl);exact .inr ⟨g',cap',cur,h',h1,(h.blk g' (Array.getElem?_eq_some_iff.1 h2).1 hg.1 hg.2.1 hg.2.2).trans h2,r⟩
theorem MK.kept {c:LX}{W0 W W':World}{v vg:Value}{out:List (Ln×Int)}{P:Nat->Prop}(h:MK c W0 W v vg out P)(hB:Below W.heap.size W W'):MK c W0 W' v vg out P:=by obtain⟨vs,h1,h2,h3,h4⟩:=h.row;exact⟨h.jc.trans (hB.mono h.jc.size),h.box.kept hB,Nat.le_trans h.sz hB.size,⟨vs,aF h1 hB,h2,h3.kept hB,h4⟩,h.Bz.kept hB⟩
theorem iU {W:World}{n₀ e k n:Nat}{v:Value}{xs:List Value}(h:W.ownsRow n₀ e k v n xs){g:Nat}(hg:v.ownBlock=some g):n₀<=g/\g<W.heap.size:=World.ownsRow.lt h g hg
theorem gK {W:World}{b0 b1 e0 e1 k0 k1 n0 n1:Nat}{u v:Value}{xs ys:List Value}(h0:W.ownsRow b0 e0 k0 u n0 xs)(h1:W.ownsRow b1 e1 k1 v n1 ys)(he:e0≠e1){g:Nat}(hg:u.ownBlock=some g):v.ownBlock≠some g:=by intro hv;rcases h0.2 with⟨rfl,-⟩|⟨g0,c0,Ew,rfl,-,hb0,-⟩;{cases hg};rcases h1.2 with⟨rfl,-⟩|⟨g1,c1,Ex,rfl,-,hb1,-⟩;{cases hv};simp only[Value.ownBlock,af]at hg hv;subst hg;subst hv;rw[hb0]at hb1;cases hb1;exact he rfl
theorem ed {W W':World}{n₀ e k n:Nat}{u:Value}{xs:List Value}{row:Option Nat}(h:W.ownsRow n₀ e k u n xs)(hg:W.grownBy W' row)(hne:∀g,u.ownBlock=some g->row≠some g):W'.ownsRow n₀ e k u n xs:=by refine⟨h.1,?_⟩;rcases h.2 with h'|⟨g',cap',cur,h',h1,h2,r⟩;{exact .inl h'};exact .inr ⟨g',cap',cur,h',h1,(hg.block g' (Array.getElem?_eq_some_iff.1 h2).1 (fun e=>hne g' (by rw[h'];rfl) e.symm)).trans h2,r⟩
theorem bZ.bM {W W':World}{n₀ k:Nat}{vs:List Lv}{fs:List Ln}{row:Option Nat}(h:bZ W n₀ k vs fs)(hg:W.grownBy W' row)(hne:∀j,j<k->∀g,(vs.getD j dW).2.2.2.2.2.ownBlock=some g->row≠some g):bZ W' n₀ k vs fs:=fun j hj=>by
 obtain⟨h0,h1,h2,h3,h4,h5⟩:=h j hj
 exact⟨h0,h1,h2,h3,h4,ed h5 hg (hne j hj)⟩
theorem gN {w w1 w2:World}{row:Option Nat}(h:Below w.heap.size w w1)(hg:w1.grownBy w2 row)(hr:∀g,row=some g->w.heap.size<=g):Below w.heap.size w w2:=
 ⟨hg.os.trans h.os,hg.tape.trans h.tape,hg.output.trans h.output,Nat.le_trans h.size hg.size,fun k hk=>(hg.block k (aj hk h.size) (fun e=>by have:=hr k e.symm;omega)).trans (h.block k hk)⟩
theorem kg (xs ys:List Lv):aN (xs++ys)=aN xs++aN ys:=by simp[aN]
theorem TX.il {c:LX}{W0 W:World}(T:TX c W0){v vg:Value}{out:List (Ln×Int)}{P:Nat->Prop}(K:MK c W0 W v vg out P):IL W c.ha c.f.b.length c.H/\IL W c.ea c.f.b.length c.E/\SL W c.ba c.f.b.length c.f.b:=
 ⟨T.hH.kept K.jc,T.hE.kept K.jc,T.hS.kept K.jc⟩
theorem MK.line {c:LX}{W0 W W1 W2:World}{v vg v':Value}{out:List (Ln×Int)}{P:Nat->Prop}(K:MK c W0 W v vg out P)(hW:W0.heap.size<=c.B)(hB1:Below W.heap.size W W1)(x:Ln)(la:Option Addr)(ln lc:Nat)(hx:OI W (c.B+1) (.slice la ln lc) x.l)(hap:∀g,(Value.slice la ln lc).ownBlock=some g->vg.ownBlock≠some g/\P g)(vs:List Lv)(hvs:W.ownsRow (c.B+1) 45 6 v out.length (aN vs)/\vs.length=out.length/\bZ W (c.B+1) out.length vs (out.map (·.1))/\∀j,j<out.length->∀g,(vs.getD j dW).2.2.2.2.2.ownBlock=some g->vg.ownBlock≠some g/\P g)(hrow:W2.ownsRow (c.B+1) 45 6 v' (out.length+1) (aN vs++[.int .i64 x.k, .int .i64 x.d, .int .i64 x.a, .int .i64 x.b, .int .i64 x.n, .slice la ln lc]))(hg:W1.grownBy W2 v.ownBlock)(hat:v'.ownBlock=v.ownBlock\/v'.ownBlock=some W1.heap.size)(tg:Int):Below W0.heap.size W0 (W2.setCell ⟨c.B,0,none⟩ v')/\bE (W2.setCell ⟨c.B,0,none⟩ v') c.B (c.bS v' vg)/\c.B+1<=(W2.setCell ⟨c.B,0,none⟩ v').heap.size/\(∃vs:List Lv,(W2.setCell ⟨c.B,0,none⟩ v').ownsRow (c.B+1) 45 6 v' (out++[(x,tg)]).length (aN vs)/\vs.length=(out++[(x,tg)]).length/\bZ (W2.setCell ⟨c.B,0,none⟩ v') (c.B+1) (out++[(x,tg)]).length vs ((out++[(x,tg)]).map (·.1))/\∀j,j<(out++[(x,tg)]).length->∀g,(vs.getD j dW).2.2.2.2.2.ownBlock=some g->vg.ownBlock≠some g/\P g)/\OI (W2.setCell ⟨c.B,0,none⟩ v') (c.B+1) vg (out.map (·.2))/\FX c v vg v' vg W (W2.setCell ⟨c.B,0,none⟩ v'):=by obtain⟨r1,r2,r3,r4⟩:=hvs;have vB:∀g,v.ownBlock=some g->c.B+1<=g:=fun g hg=>(iU r1 hg).1;have gs:=aA W2 ⟨c.B,0,none⟩ v';have bx1:=K.box.kept hB1;have Ey:=bx1.bM hg (fun e=>by have:=vB c.B e;omega);have Ez:=Ey.set 0 v';have hint:2≠45:=by{decide};have gB:∀g,vg.ownBlock=some g->c.B+1<=g:=fun g hg=>(iU K.Bz hg).1;have CS:OI W1 (c.B+1) vg (out.map (·.2)):=K.Bz.kept hB1;have r1':=aF r1 hB1;have EA:OI W2 (c.B+1) vg (out.map (·.2)):=ed CS hg (fun g e=>gK CS r1' hint e);have EB:OI (W2.setCell ⟨c.B,0,none⟩ v') (c.B+1) vg (out.map (·.2)):=ed EA gs (fun g e=>by have:=gB g e;simp only[ne_eq,af];omega);have t1:=r3.kept hB1;have t2:bZ W2 (c.B+1) out.length vs (out.map (·.1)):=t1.bM hg (fun j hj g e=>gK (t1 j hj).2.2.2.2.2 r1' hint e);have t3:bZ (W2.setCell ⟨c.B,0,none⟩ v') (c.B+1) out.length vs (out.map (·.1)):=t2.bM gs (fun j hj g e=>by have:=(iU (t2 j hj).2.2.2.2.2 e).1;simp only[ne_eq,af];omega);have x1:=hx.kept hB1;have x2:OI W2 (c.B+1) (.slice la ln lc) x.l:=ed x1 hg (fun g e=>gK x1 r1' hint e);have x3:OI (W2.setCell ⟨c.B,0,none⟩ v') (c.B+1) (.slice la ln lc) x.l:=ed x2 gs (fun g e=>by have:=(iU x2 e).1;simp only[ne_eq,af];omega);have hr3:=ed hrow gs (fun g e=>by have:=(iU hrow e).1;simp only[ne_eq,af];omega);have b1:=K.jc.trans (hB1.mono K.jc.size);have b2:=gN b1 hg (fun g e=>by have:=vB g e;omega);have b3:=gN b2 gs (fun g e=>by cases e;exact hW);refine⟨b3,Ez,?_,⟨vs++[(x.k,x.d,x.a,x.b,x.n, .slice la ln lc)],?_,?_,fun j hj=>?_,fun j hj g e=>?_⟩,EB,⟨(gs.os.trans hg.os).trans hB1.os,(gs.tape.trans hg.tape).trans hB1.tape,(gs.output.trans hg.output).trans hB1.output,Nat.le_trans hB1.size (Nat.le_trans hg.size gs.size),fun i hi hb hv hv2=>?_,?_, .inl rfl⟩⟩;{exact Nat.le_trans K.sz (Nat.le_trans hB1.size (Nat.le_trans hg.size gs.size))};{rw[kg,List.length_append,List.length_singleton];exact hr3};{rw[List.length_append,List.length_append,r2];rfl};{rw[List.length_append,List.length_singleton]at hj;by_cases hjl:j<out.length;{have e1:(vs++[(x.k,x.d,x.a,x.b,x.n,Value.slice la ln lc)]).getD j dW=vs.getD j dW:=by{rw[ah,List.getElem?_append_left (by omega),←ah]};have e2:((out++[(x,tg)]).map (·.1)).getD j .z=(out.map (·.1)).getD j .z:=by{rw[List.map_append,ah,List.getElem?_append_left (by simpa using hjl),←ah]};rw[e1,e2];exact t3 j hjl};have ej:j=out.length:=by{omega};have e1:(vs++[(x.k,x.d,x.a,x.b,x.n,Value.slice la ln lc)]).getD j dW=(x.k,x.d,x.a,x.b,x.n,Value.slice la ln lc):=by{rw[ah,List.getElem?_append_right (by omega),r2,ej];simp};have e2:((out++[(x,tg)]).map (·.1)).getD j .z=x:=by{rw[List.map_append,ah,List.getElem?_append_right (by simp;omega)];simp[ej]};rw[e1,e2];exact⟨rfl,rfl,rfl,rfl,rfl,x3⟩};{rw[List.length_append,List.length_singleton]at hj;by_cases hjl:j<out.length;{have e1:(vs++[(x.k,x.d,x.a,x.b,x.n,Value.slice la ln lc)]).getD j dW=vs.getD j dW:=by{rw[ah,List.getElem?_append_left (by omega),←ah]};rw[e1]at e;exact r4 j hjl g e};have ej:j=out.length:=by{omega};have e1:(vs++[(x.k,x.d,x.a,x.b,x.n,Value.slice la ln lc)]).getD j dW=(x.k,x.d,x.a,x.b,x.n,Value.slice la ln lc):=by{rw[ah,List.getElem?_append_right (by omega),r2,ej];simp};rw[e1]at e;exact hap g e};{exact(gs.block i (aj hi (Nat.le_trans hB1.size hg.size)) (by simpa using hb)).trans ((hg.block i (aj hi hB1.size) (fun e=>hv e.symm)).trans (hB1.block i hi))};rcases hat with e|e;{exact .inl e};exact .inr ⟨_,e,hB1.size⟩
def BM (vs:List Lv)(j:Nat):Value:=(vs.getD j dW).2.2.2.2.2
def ui (W:World)(n₀:Nat)(v:Value)(fs:List Ln)(vs:List Lv):Prop:=
 W.ownsRow n₀ 45 6 v fs.length (aN vs)/\vs.length=fs.length/\bZ W n₀ fs.length vs fs/\∀i j,i<j->j<fs.length->∀g,(BM vs i).ownBlock=some g->(BM vs j).ownBlock≠some g
theorem ui.kept {W W':World}{n₀:Nat}{v:Value}{fs:List Ln}{vs:List Lv}(h:ui W n₀ v fs vs)(hB:Below W.heap.size W W'):ui W' n₀ v fs vs:=⟨aF h.1 hB,h.2.1,h.2.2.1.kept hB,h.2.2.2⟩
theorem marksK_ext {ys:List Int}{n:Nat}{k0:Int}(hl:ys.length=n)(h:∀j,j<n->ys.getD j 0=k0+(j:Int)):ys=(List.range n).map fun(j:Nat)=>k0+(j:Int):=by apply List.ext_getElem;{rw[hl];simp};intro j h1 h2;have:=h j (by omega);rw[ah,ai h1]at this;simpa using this
def marksK (k0:Int)(n:Nat):List Int:=(List.range n).map fun(j:Nat)=>k0+(j:Int)
theorem marksK_len (k0:Int)(n:Nat):(marksK k0 n).length=n:=by simp[marksK]
def kL (k0:Int)(fs:List Ln):Nat->Int
 |0=>k0
 |i+1=>kL k0 fs i+5+((fs.getD i .z).l.length:Int)
def markL (k0:Int)(fs:List Ln)(j:Nat):Ln:=⟨kL k0 fs j,kL k0 fs j+1,kL k0 fs j+1+1,kL k0 fs j+1+1+1,kL k0 fs j+1+1+1+1,marksK (kL k0 fs j+1+1+1+1+1) (fs.getD j .z).l.length⟩
def mkL (k0:Int)(fs:List Ln):List Ln:=(List.range fs.length).map (markL k0 fs)
theorem mkL_get {k0:Int}{fs:List Ln}{j:Nat}(h:j<fs.length):(mkL k0 fs).getD j .z=markL k0 fs j:=by simp[mkL,ah,h]
theorem mkL_len (k0:Int)(fs:List Ln):(mkL k0 fs).length=fs.length:=by simp[mkL]
theorem set_self {α:Type}{l:List α}{k:Nat}{x d:α}(h:k<l.length):(l.set k x).getD k d=x:=by rw[ah,List.getElem?_set_self h];rfl
theorem set_ne {α:Type}{l:List α}{k j:Nat}{x d:α}(h:j≠k):(l.set k x).getD j d=l.getD j d:=by rw[ah,List.getElem?_set_ne (by omega),←ah]
theorem encLn_set5 (vs:List Lv)(k:Nat)(x y z p q:Int)(h:k<vs.length):aN (vs.set k (x,y,z,p,q,BM vs k))=(((((aN vs).set (k*6) (.int .i64 x)).set (k*6+1) (.int .i64 y)).set (k*6+2) (.int .i64 z)).set (k*6+3) (.int .i64 p)).set (k*6+4) (.int .i64 q):=by rw[jQ];have hg:=(ek vs k h).2.2.2.2.2;apply List.ext_getElem?;intro i;by_cases e:i=k*6+5;{subst e;have hl:k*6+5<(aN vs).length:=by{rw[fM];omega};rw[List.getElem?_set_self (by simpa using hl),List.getElem?_set_ne (by omega),List.getElem?_set_ne (by omega),List.getElem?_set_ne (by omega),List.getElem?_set_ne (by omega),List.getElem?_set_ne (by omega),hg];rfl};rw[List.getElem?_set_ne (by omega)]
theorem lst_set {vs:List Lv}{k j:Nat}{x y z p q:Int}(h:k<vs.length):BM (vs.set k (x,y,z,p,q,BM vs k)) j=BM vs j:=by by_cases e:j=k;{subst e;show((vs.set j _).getD j dW).2.2.2.2.2=_;rw[set_self h]};show((vs.set k _).getD j dW).2.2.2.2.2=_;rw[set_ne e];rfl
theorem ui.ints {W:World}{n₀ g cap k:Nat}{fs:List Ln}{vs:List Lv}(h:ui W n₀ (.slice (some ⟨g,0,none⟩) fs.length cap) fs vs)(hk:k<fs.length)(x y z p q:Int):ui (((((W.setCell ⟨g,k*6,none⟩ (.int .i64 x)).setCell ⟨g,k*6+1,none⟩ (.int .i64 y)).setCell ⟨g,k*6+2,none⟩ (.int .i64 z)).setCell ⟨g,k*6+3,none⟩ (.int .i64 p)).setCell ⟨g,k*6+4,none⟩ (.int .i64 q)) n₀ (.slice (some ⟨g,0,none⟩) fs.length cap) (fs.set k ⟨x,y,z,p,q,(fs.getD k .z).l⟩) (vs.set k (x,y,z,p,q,BM vs k))/\W.grownBy (((((W.setCell ⟨g,k*6,none⟩ (.int .i64 x)).setCell ⟨g,k*6+1,none⟩ (.int .i64 y)).setCell ⟨g,k*6+2,none⟩ (.int .i64 z)).setCell ⟨g,k*6+3,none⟩ (.int .i64 p)).setCell ⟨g,k*6+4,none⟩ (.int .i64 q)) (some g):=by obtain⟨hrow,hl,ht,hp⟩:=h;have h1:=hrow.stored (k*6) (.int .i64 x);have h2:=h1.1.stored (k*6+1) (.int .i64 y);have h3:=h2.1.stored (k*6+2) (.int .i64 z);have h4:=h3.1.stored (k*6+3) (.int .i64 p);have h5:=h4.1.stored (k*6+4) (.int .i64 q);have hg:=aJ (aJ (aJ (aJ h1.2 h2.2) h3.2) h4.2) h5.2;have hint:2≠45:=by{decide};refine⟨⟨?_,by simp[hl],?_,?_⟩,hg⟩;{rw[List.length_set,encLn_set5 _ _ _ _ _ _ _ (by omega)];exact h5.1};{intro j hj;rw[List.length_set]at hj;obtain⟨t0,t1,t2,t3,t4,t5⟩:=ht j hj;have t6:=ed t5 hg (fun b e=>gK t5 hrow hint e);by_cases e:j=k;{subst e;rw[set_self (by omega),set_self hj];exact⟨rfl,rfl,rfl,rfl,rfl,t6⟩};rw[set_ne e,set_ne e];exact⟨t0,t1,t2,t3,t4,t6⟩};intro i j hij hj b;rw[List.length_set]at hj;rw[lst_set (by omega),lst_set (by omega)];exact hp i j hij hj b
theorem ui.list {W W':World}{n₀ k:Nat}{v:Value}{fs:List Ln}{vs:List Lv}{ys:List Int}(h:ui W n₀ v fs vs)(hk:k<fs.length)(hg:W.grownBy W' (BM vs k).ownBlock)(hos:OI W' n₀ (BM vs k) ys):ui W' n₀ v (fs.set k ⟨(fs.getD k .z).k,(fs.getD k .z).d,(fs.getD k .z).a,(fs.getD k .z).b,(fs.getD k .z).n,ys⟩) vs:=by obtain⟨hrow,hl,ht,hp⟩:=h;have hint:45≠2:=by{decide};refine⟨?_,by simp[hl],?_,?_⟩;{rw[List.length_set];exact ed hrow hg (fun b e=>gK hrow (ht k hk).2.2.2.2.2 hint e)};{intro j hj;rw[List.length_set]at hj;obtain⟨t0,t1,t2,t3,t4,t5⟩:=ht j hj;by_cases e:j=k;{subst e;rw[set_self hj];exact⟨t0,t1,t2,t3,t4,hos⟩};rw[set_ne e];refine⟨t0,t1,t2,t3,t4,ed t5 hg (fun b e1 e2=>?_)⟩;rcases Nat.lt_or_ge j k with hlt|hge;{exact hp j k hlt hk b e1 e2};exact hp k j (by omega) hj b e2 e1};intro i j hij hj b;rw[List.length_set]at hj;exact hp i j hij hj b
def ApartL (vs:List Lv)(v:Value)(n:Nat)(w w':World):Prop:=∀b,b<w.heap.size->v.ownBlock≠some b->(∀j,j<n->(BM vs j).ownBlock≠some b)->w'.heap[b]?=w.heap[b]?
theorem below_of_grownO {w w1 w2:World}{n₀:Nat}{r:Option Nat}(h:Below n₀ w w1)(hg:w1.grownBy w2 r)(hn:∀g,r=some g->n₀<=g)(hs:n₀<=w1.heap.size):Below n₀ w w2:=
 ⟨hg.os.trans h.os,hg.tape.trans h.tape,hg.output.trans h.output,Nat.le_trans h.size hg.size,fun k hk=>(hg.block k (by omega) (fun e=>by have:=hn k e.symm;omega)).trans (h.block k hk)⟩
theorem ui.mono {W:World}{n₀ n₁:Nat}{v:Value}{fs:List Ln}{vs:List Lv}(h:ui W n₁ v fs vs)(hn:n₀<=n₁):ui W n₀ v fs vs:=by refine⟨?_,h.2.1,h.2.2.1.mono hn,h.2.2.2⟩;refine⟨h.1.1,?_⟩;rcases h.1.2 with h'|⟨g',cap',cur,h',hb,r⟩;{exact .inl h'};exact .inr ⟨g',cap',cur,h',Nat.le_trans hn hb,r⟩
theorem ui.ll {W:World}{n₀ g n cap:Nat}{fs:List Ln}{vs:List Lv}(h:ui W n₀ (.slice (some ⟨g,0,none⟩) n cap) fs vs)(hn:fs.length=n):LL W (some ⟨g,0,none⟩) n fs:=by have h1:=h.1;have h3:=h.2.2.1;rw[hn]at h1 h3;exact jK h1 hn h3
end Go.Proofs.Ytlbkdlnalgkjeaa
