/-
  Own texts for a law: Wlk6 Rw0 RwA7 Rw2 LinS Low0 Pile1 Low1 LinM LinT ExL Draw1
-/
import Derived.Test.YtpipjiinmhopmaaGreatMA10
import Derived.Lib.AppendZerosOnto
import Derived.Laws.AppendOwn
import Derived.Deep.AppendLies
namespace Go.Proofs.YtpipjiinmhopmaaGreat
open Go.RowKit Go.Shelf
set_option linter.all false
set_option maxRecDepth 100000
set_option maxHeartbeats 16000000
theorem CM.mem {c:WC}{W0:World}{q:CC}{pile loc mem zg:List Int}{n gp cp:Nat}{W W':World}(Q:CQ c W0 q)(h:CM c W0 q pile loc mem n gp cp W)(hg:W.grownBy W' (some c.M))(hr:W'.ownsRow 0 2 1 (.slice (some ⟨c.M,0,none⟩) 64 c.Mc) 64 (zg.map iv)):CM c W0 q pile loc zg n gp cp W':=by obtain⟨o1,o2,o3⟩:=h.co.ord;have h4:=h.n4;have iM:=Q.R9;exact⟨⟨h.wk.pO.grow hg (.inr (.inr rfl)),h.wk.box.bT hg (by simpa using Ne.symm Q.zi.ne),hr⟩,h.co.bT hg (by simp only[ne_eq,af];omega) (by simp only[ne_eq,af];omega) (by simp only[ne_eq,af];omega),h.n4,h.pO.grow hg (.inr (.inr rfl))⟩
structure RC where
 B:Nat
 M:Nat
 Mc:Nat
 cb:Nat
 co:Nat
 Cc:Nat
 cs:List (List Ln)
def RC.eF (c:RC)(bi code:Int):List Value:=
 [.slice (some ⟨c.cb,c.co,none⟩) c.cs.length c.Cc, .slice (some ⟨c.M,0,none⟩) 64 c.Mc, .int .i64 bi, .int .i64 code]
structure vU (c:RC)(W0 W:World):Prop where
 os:W.os=W0.os
 tape:W.tape=W0.tape
 out:W.output=W0.output
 size:W0.heap.size<=W.heap.size
 blk:∀i,i<W0.heap.size->i≠c.B->i≠c.M->W.heap[i]?=W0.heap[i]?
theorem vU.refl (c:RC)(W:World):vU c W W:=⟨rfl,rfl,rfl,Nat.le_refl _,fun _ _ _ _=>rfl⟩
theorem vU.trans {c:RC}{W0 W1 W2:World}(h:vU c W0 W1)(k:vU c W1 W2):vU c W0 W2:=
 ⟨k.os.trans h.os,k.tape.trans h.tape,k.out.trans h.out,Nat.le_trans h.size k.size,fun i hi h1 h2=>(k.blk i (aj hi h.size) h1 h2).trans (h.blk i hi h1 h2)⟩
theorem vU.below {c:RC}{W W':World}(h:Below W.heap.size W W'):vU c W W':=⟨h.os,h.tape,h.output,h.size,fun i hi _ _=>h.block i hi⟩
theorem vU.grow {c:RC}{W0 W W':World}{r:Nat}(h:vU c W0 W)(hg:W.grownBy W' (some r))(hr:W0.heap.size<=r\/r=c.B\/r=c.M):vU c W0 W':=
 ⟨hg.os.trans h.os,hg.tape.trans h.tape,hg.output.trans h.out,Nat.le_trans h.size hg.size,fun i hi h1 h2=>(hg.block i (aj hi h.size) (by
   simp only[ne_eq,af]
   rcases hr with hr|rfl|rfl
   · omega
   · exact h1
   · exact h2)).trans (h.blk i hi h1 h2)⟩
def TG (W:World)(b off:Nat)(cs:List (List Ln)):Prop:=∀k,k<cs.length->∃a m c,W.cell? ⟨b,off+k,none⟩=some (.slice a m c)/\LL W a m (cs.getD k [])
theorem TG.kept {W W':World}{b off:Nat}{cs:List (List Ln)}(h:TG W b off cs)(hB:Below W.heap.size W W'):TG W' b off cs:=fun k hk=>by
 obtain⟨a,m,c,h1,h2⟩:=h k hk
 exact⟨a,m,c,(hB.cell (p:=⟨b,off+k,none⟩) (World.block_lt_of_cell? _ _ h1)).trans h1,h2.kept hB⟩
structure TaR (c:RC)(W0:World):Prop where
 ls:∀W,vU c W0 W->TG W c.cb c.co c.cs
 val:Rl.Nw c.cs
 ne:c.B≠c.M
 cbn:c.cb<W0.heap.size/\c.cb≠c.B/\c.cb≠c.M
structure RK (c:RC)(W0 W:World)(mem:List Int)(bi code:Int):Prop where
 pO:vU c W0 W
 box:bu W c.B (c.eF bi code)
 row:W.ownsRow 0 2 1 (.slice (some ⟨c.M,0,none⟩) 64 c.Mc) 64 (mem.map iv)
theorem RK.kept {c:RC}{W0 W W':World}{mem:List Int}{bi code:Int}(h:RK c W0 W mem bi code)(hB:Below W.heap.size W W'):RK c W0 W' mem bi code:=
 ⟨h.pO.trans (vU.below hB),h.box.kept hB,h.row.kept (row:=none) ⟨hB.os,hB.tape,hB.output,hB.size,fun k hk _=>hB.block k hk⟩ (.inr (by simp[Value.ownBlock]))⟩
theorem RK.bT {c:RC}{W0 W W':World}{mem:List Int}{bi code:Int}{r:Nat}(h:RK c W0 W mem bi code)(hg:W.grownBy W' (some r))(hr:W0.heap.size<=r)(h1:r≠c.B)(h2:r≠c.M):RK c W0 W' mem bi code:=
 ⟨h.pO.grow hg (.inl hr),h.box.bT hg (by simpa using h1),h.row.kept hg (.inr (by simpa[Value.ownBlock]using Ne.symm h2))⟩
theorem RK.set {c:RC}{W0 W:World}{mem:List Int}{bi code:Int}(T:TaR c W0)(h:RK c W0 W mem bi code)(x:Int):RK c W0 (W.setCell ⟨c.B,2,none⟩ (.int .i64 x)) mem x code/\RK c W0 (W.setCell ⟨c.B,3,none⟩ (.int .i64 x)) mem bi x:=by
 have hr:∀o v,(W.setCell ⟨c.B,o,none⟩ v).ownsRow 0 2 1 (.slice (some ⟨c.M,0,none⟩) 64 c.Mc) 64 (mem.map iv):=fun o v=>
  h.row.kept (row:=some c.B) (aB W ⟨c.B,o,none⟩ v) (.inr (by simpa[Value.ownBlock]using Ne.symm T.ne))
 have ha:∀o v,vU c W0 (W.setCell ⟨c.B,o,none⟩ v):=fun o v=>h.pO.grow (aB W ⟨c.B,o,none⟩ v) (.inr (.inl rfl))
 exact⟨⟨ha _ _,h.box.set 2 _,hr _ _⟩,⟨ha _ _,h.box.set 3 _,hr _ _⟩⟩
structure RQ where
 w:World
 k:Nat
 d:Nat
 gb:Nat
 gc:Nat
 lb:Nat
 lo:Nat
 ln:Nat
 lc:Nat
 R:Mn.Rs
structure P6 (c:RC)(W0:World)(q:RQ):Prop where
 zi:TaR c W0
 lt:q.k<c.cs.length
 dp:q.d<12
 pO:vU c W0 q.w
 lines:∀W,vU c W0 W->LL W (some ⟨q.lb,q.lo,none⟩) q.ln (c.cs.getD q.k [])
 cK:c.B<q.w.heap.size
 R9:c.M<q.w.heap.size
structure RM (c:RC)(W0:World)(q:RQ)(bx mem:List Int)(n:Nat)(wr:World):Prop where
 wk:RK c W0 wr mem n 0
 br:wr.ownsRow q.w.heap.size 2 1 (.slice (some ⟨q.gb,0,none⟩) 40 q.gc) 40 (bx.map iv)
 pO:vU c q.w wr
structure RI (c:RC)(W0:World)(q:RQ)(aH:Nat)(bx mem:List Int)(n:Nat)(wr:World):Prop where
 nb:n<=200000
 m:RM c W0 q bx mem n wr
 good:Rl.Good c.cs q.k aH bx mem
 run:Rl.run c.cs (n+1) n q.d q.k aH bx mem=q.R
section
variable {c : RC} {W0 : World} {q : RQ} {aH : Nat} {bx mem : List Int} {n m : Nat} {W W' wr : World}
theorem RM.kept (h:RM c W0 q bx mem n W)(hB:Below W.heap.size W W'):RM c W0 q bx mem n W':=
 ⟨h.wk.kept hB,aI h.br hB,h.pO.trans (vU.below hB)⟩
theorem RM.gb (h:RM c W0 q bx mem n W):q.w.heap.size<=q.gb/\q.gb<W.heap.size:=h.br.lt q.gb rfl
theorem RM.bi (Q:P6 c W0 q)(h:RM c W0 q bx mem n W)(m:Nat):RM c W0 q bx mem m (W.setCell ⟨c.B,2,none⟩ (.int .i64 (m:Int))):=by have h4:=h.gb;have iB:=Q.cK;have hg:=aB W ⟨c.B,2,none⟩ (.int .i64 (m:Int));exact⟨(h.wk.set Q.zi (m:Int)).1,h.br.kept hg (.inr (by simp only[Value.ownBlock,ne_eq,af];omega)),h.pO.grow hg (.inr (.inl rfl))⟩
theorem RM.Aa (Q:P6 c W0 q)(h:RM c W0 q bx mem n W)(i:Nat)(x:Int):RM c W0 q (bx.set i x) mem n (W.setCell ⟨q.gb,i,none⟩ (.int .i64 x)):=by have h4:=h.gb;have iB:=Q.cK;have iM:=Q.R9;have s0:=Q.pO.size;have hg:W.grownBy (W.setCell ⟨q.gb,i,none⟩ (.int .i64 x)) (some q.gb):=aB W ⟨q.gb,i,none⟩ (.int .i64 x);have hst:=(h.br.stored i (.int .i64 x)).1;rw[←dJ]at hst;exact⟨h.wk.bT hg (by omega) (by omega) (by omega),hst,h.pO.grow hg (.inl (by omega))⟩
theorem RM.zg (Q:P6 c W0 q)(h:RM c W0 q bx mem n W){zg:List Int}(hg:W.grownBy W' (some c.M))(hr:W'.ownsRow 0 2 1 (.slice (some ⟨c.M,0,none⟩) 64 c.Mc) 64 (zg.map iv)):RM c W0 q bx zg n W':=by have h4:=h.gb;have iM:=Q.R9;exact⟨⟨h.wk.pO.grow hg (.inr (.inr rfl)),h.wk.box.bT hg (by simpa using Ne.symm Q.zi.ne),hr⟩,h.br.kept hg (.inr (by simp only[Value.ownBlock,ne_eq,af];omega)),h.pO.grow hg (.inr (.inr rfl))⟩
theorem RI.next (Q:P6 c W0 q)(h:RI c W0 q aH bx mem (m+1) wr){a2:Nat}{b2 m2:List Int}(hs:Rl.fK c.cs q.k aH bx mem= .next a2 b2 m2):Rl.Good c.cs q.k a2 b2 m2/\Rl.run c.cs (m+1) m q.d q.k a2 b2 m2=q.R:=by have F:=Rl.mQ Q.zi.val Q.lt h.good;rw[hs]at F;exact⟨F,by rw[←h.run,Rl.sW hs]⟩
theorem RI.KP (h:RI c W0 q aH bx mem (m+1) wr){v:Int}(hs:Rl.fK c.cs q.k aH bx mem= .KP v):q.R= .done v mem m:=by rw[←h.run,Rl.Ij hs]
theorem RI.halt (h:RI c W0 q aH bx mem (m+1) wr){e:Int}(hs:Rl.fK c.cs q.k aH bx mem= .halt e):q.R= .stop e mem m:=by rw[←h.run,Rl.run_halt hs]
theorem RM.box (h:RM c W0 q bx mem n W)(hl:bx.length=40){j:Nat}(hj:j<40):W.cell? ⟨q.gb,j,none⟩=some (.int .i64 (bx.getD j 0)):=Lp h.br hl hj
theorem P6.line (Q:P6 c W0 q)(hA:vU c W0 W)(hl:aH<(c.cs.getD q.k []).length):aH<q.ln/\q.lb<W.heap.size/\LC W q.lb (q.lo+aH*6) (Rl.line c.cs q.k aH):=by obtain⟨h1,h2,h3|⟨b,o,e,hb,hx⟩⟩:=Q.lines W hA;{omega};simp only[af,Addr.mk.injEq,and_true]at e;obtain⟨e1,e2⟩:=e;subst e1 e2;exact⟨by omega,hb,hx aH (by omega)⟩
end
theorem Lc {W W':World}{n₀ e k n:Nat}{v:Value}{xs:List Value}(h:W.ownsRow n₀ e k v n xs)(hb:∀g,v.ownBlock=some g->W'.heap[g]?=W.heap[g]?):W'.ownsRow n₀ e k v n xs:=by rcases h with⟨h1,h2|⟨g,c,cur,h3,h4,h5,h6⟩⟩;{exact⟨h1, .inl h2⟩};exact⟨h1, .inr ⟨g,c,cur,h3,h4,(hb g (by rw[h3];rfl)).trans h5,h6⟩⟩
theorem RM.call {c:RC}{W0:World}{q:RQ}{bx mem zg:List Int}{n l:Nat}{W W':World}(Q:P6 c W0 q)(h:RM c W0 q bx mem n W)(hwk:RK c W0 W' zg l 0)(ha:vU c W W'):RM c W0 q bx zg l W':=by have h4:=h.gb;have iB:=Q.cK;have iM:=Q.R9;refine⟨hwk,Lc h.br (fun g e=>?_),h.pO.trans ha⟩;simp only[Value.ownBlock,af]at e;subst e;exact ha.blk _ (by omega) (by omega) (by omega)
def LSo (W:World)(a:Option Addr)(n:Nat)(cs:List (List Ln)):Prop:=cs.length=n/\n<=maxLen/\(n=0\/∃b off,a=some ⟨b,off,none⟩/\b<W.heap.size/\TG W b off cs)
theorem LSo.kept {W W':World}{a:Option Addr}{n:Nat}{cs:List (List Ln)}(h:LSo W a n cs)(hB:Below W.heap.size W W'):LSo W' a n cs:=by obtain⟨h1,h2,h3|⟨b,off,h3,h4,h5⟩⟩:=h;{exact⟨h1,h2, .inl h3⟩};exact⟨h1,h2, .inr ⟨b,off,h3,aj h4 hB.size,h5.kept hB⟩⟩
structure aah (w w':World)(B:Nat)(R:Mn.Rs):Prop where
 lt:w.heap.size<=B/\B<w'.heap.size
 bi:w'.cell? ⟨B,2,none⟩=some (.int .i64 R.left)
 code:w'.cell? ⟨B,3,none⟩=some (.int .i64 R.code)
 mem:∃M mc,w'.cell? ⟨B,1,none⟩=some (.slice (some ⟨M,0,none⟩) 64 mc)/\w'.ownsRow w.heap.size 2 1 (.slice (some ⟨M,0,none⟩) 64 mc) 64 (R.mem.map iv)
theorem Rl.no {cs:List (List Ln)}{k bi:Int}{args mem:List Int}(h:¬(Rl.valid cs=true/\(0<=k/\k<cs.length)/\args.length<=3/\Mn.words args/\Mm.ok mem=true/\0<=bi/\bi<=200000)):Rl.isOk cs k args mem bi=false:=Bool.eq_false_iff.2 fun h'=>h (Rl.BA.1 h')
def ES (cs:List (List Ln))(k:Int)(args mem:List Int)(bi:Int)(w:World)(e:Ending)(w':World):Prop:=
 ∃(B:Nat)(v:Int)(ok:Bool),Rl.isOk cs k args mem bi=ok/\e= .returned (.tuple #[.int .i64 v, .pointer (some ⟨B,0,none⟩), .bool ok])/\Below w.heap.size w w'/\(ok=true->v=(Rl.out cs k args mem bi.toNat).value/\aah w w' B (Rl.out cs k args mem bi.toNat))/\(ok=false->v=0)
theorem ES.no {cs:List (List Ln)}{k:Int}{args mem:List Int}{bi:Int}{w w':World}{B:Nat}(h:¬(Rl.valid cs=true/\(0<=k/\k<cs.length)/\args.length<=3/\Mn.words args/\Mm.ok mem=true/\0<=bi/\bi<=200000))(hB:Below w.heap.size w w'):
   ES cs k args mem bi w (.returned (.tuple #[.int .i64 0, .pointer (some ⟨B,0,none⟩), .bool false])) w':=⟨B,0,false,Rl.no h,rfl,hB,fun h=>(by cases h),fun _=>rfl⟩
section
open Go.ChangeShapes Go.WideShapes Go.ChangeAt Go.RowKit Go.Shelf Go.Deep
def SF (W:World)(n₀ g n c:Nat)(cs:List (List Ln)):Prop:=
 ∃vs:List Value,vs.length=n/\cs.length=n/\W.ownsRow n₀ 24 1 (.slice (some ⟨g,0,none⟩) n c) n vs/\∀j,j<n->nE W (n₀+1) (vs.getD j undef) (cs.getD j [])
theorem nE.Pt {W W':World}{n₀:Nat}{v:Value}{fs:List Ln}(h:nE W n₀ v fs)(hB:Below W.heap.size W W'):nE W' n₀ v fs:=by obtain⟨g,cap,vs,rfl,h1,h2⟩:=h;exact⟨g,cap,vs,rfl,aI h1 hB,h2.kept hB⟩
theorem SF.kept {W W':World}{n₀ g n c:Nat}{cs:List (List Ln)}(h:SF W n₀ g n c cs)(hB:Below W.heap.size W W'):SF W' n₀ g n c cs:=by obtain⟨vs,h1,h2,h3,h4⟩:=h;exact⟨vs,h1,h2,aI h3 hB,fun j hj=>(h4 j hj).Pt hB⟩
theorem SF.lt {W:World}{n₀ g n c:Nat}{cs:List (List Ln)}(h:SF W n₀ g n c cs):n₀<=g/\g<W.heap.size:=by obtain⟨vs,h1,h2,h3,h4⟩:=h;exact World.ownsRow.lt h3 g rfl
end
namespace Lw
open Hg (arg)
def wd (f:Fn):Int:=f.a+f.l
def bx (f:Fn)(h:Int):Int:=wd f+h
def eG (f:Fn)(E H:List Int)(aH:Nat)(dp:Int):Int×Int×Int:=
 if dp.toNat<(aG.dA f.b E aH aH).length then
   let t:=((aG.dA f.b E aH aH).getD dp.toNat (-1)).toNat
   if aG.op f.b t=9 then((t:Int)+1,0,0)else if aG.op f.b t=10 then(aG.aW E t,bx f (H.getD t 0-1),arg f.b t)else(aG.aW E t,bx f (H.getD t 0),arg f.b t)
 else((f.b.length:Int)-1,bx f 0,f.g)
def args (t:Int)(n:Int):List Int:=(List.range n.toNat).map fun(i:Nat)=>t-n+1+(i:Int)
def iL (fs:List Fn)(f:Fn)(E O H:List Int)(aH:Nat)(p a t:Int):List (Ln×Int):=
 if p=1 then[(⟨1,t+1,0,0,a,[]⟩,-1)]
 else if p=2 then[(⟨2,t+1,a,0,0,[]⟩,-1)]
 else if p=3\/p=4 then[(⟨2,a,t,0,0,[]⟩,-1)]
 else if p=5 then[(⟨3,t-1,t-1,t,a,[]⟩,-1)]
 else if p=6 then[(⟨4,t,t,0,0,[]⟩,-1)]
 else if p=10 then[(⟨4,t,t,0,0,[]⟩,-1),(⟨6,0,t,0,0,[]⟩,if 0<=aG.aW O aH then aG.aW O aH+1 else aG.aW E aH)]
 else if p=11 then[(⟨5,0,0,0,0,[]⟩,aG.aW E aH)]
 else if p=13\/p=15 then
   let L:=eG f E H aH (if p=15 then 99 else a)
   (if L.2.2=1/\L.2.1≠t then[(⟨2,L.2.1,t,0,0,[]⟩,-1)]else[])++[(⟨5,0,0,0,0,[]⟩,L.1)]
 else if p=14 then
   let L:=eG f E H aH a
   if L.2.2=1/\L.2.1≠t-1 then[(⟨4,t,t,0,0,[]⟩,-1),(⟨6,0,t,0,0,[]⟩,(aH:Int)+1),(⟨2,L.2.1,t-1,0,0,[]⟩,-1),(⟨5,0,0,0,0,[]⟩,L.1)]
   else[(⟨6,0,t,0,0,[]⟩,L.1)]
 else if p=16 then
   let g:=fs.getD a.toNat .z
   [(⟨7,if g.g=1 then t-g.a+1 else wd f+20,0,0,a,args t g.a⟩,-1)]
 else if p=17 then[(⟨8,t,t,0,a,[]⟩,-1)]
 else if p=18 then[(⟨9,0,t-1,t,a,[]⟩,-1)]
 else if p=19 then[(⟨11,0,0,0,0,[]⟩,-1)]
 else[]
def step (fs:List Fn)(f:Fn)(E O H:List Int)(aH:Nat):List (Ln×Int):=iL fs f E O H aH (aG.op f.b aH) (arg f.b aH) (bx f (H.getD aH 0-1))
def first(f:Fn):List (Ln×Int):=(List.range f.l.toNat).map fun(i:Nat)=>(⟨1,f.a+(i:Int),0,0,0,[]⟩,-1)
def fe (fs:List Fn)(f:Fn)(E O H:List Int):Nat->List (Ln×Int)×List Int
 |0=>(first f,[])
 |i+1=>((fe fs f E O H i).1++(if 0<=H.getD i 0 then step fs f E O H i else[]),(fe fs f E O H i).2++[((fe fs f E O H i).1.length:Int)])
def last (f:Fn):List (Ln×Int):=if f.g=0 then[(⟨1,wd f+20,0,0,0,[]⟩,-1),(⟨10,0,wd f+20,0,0,[]⟩,-1)]else[(⟨10,0,wd f,0,0,[]⟩,-1)]
def raw (fs:List Fn)(f:Fn)(E O H:List Int):List (Ln×Int):=(fe fs f E O H f.b.length).1++last f
def qf (fs:List Fn)(f:Fn)(E O H:List Int):List Int:=(fe fs f E O H f.b.length).2
def Kw (st:List Int)(x:Ln×Int):Ln:=if 0<=x.2 then{x.1 with n:=st.getD x.2.toNat 0}else x.1
def func (fs:List Fn)(f:Fn)(E O H:List Int):List Ln:=if(raw fs f E O H).length<=300 then(raw fs f E O H).map (Kw (qf fs f E O H))else[]
def fO (fs:List Fn)(d:ByteArray)(k:Int):List Ln:=
 if Hg.valid fs d=true/\0<=k/\k<fs.length then func fs (Mn.fn fs k.toNat) (aG.ends (Mn.fn fs k.toNat).b) (aG.aT (Mn.fn fs k.toNat).b) (Mn.tq fs k.toNat)else[]
theorem KZ {α:Type}{q:Prop}[Decidable q]{x y:List α}{n:Nat}(hx:x.length<=n)(hy:y.length<=n):(if q then x else y).length<=n:=by split<;>assumption
theorem Hr (fs:List Fn)(f:Fn)(E O H:List Int)(aH:Nat):(step fs f E O H aH).length<=4:=by unfold step iL;simp only;(repeat' (refine KZ ?_ ?_));(all_goals first|(simp;done)|skip);all_goals rw[List.length_append];(have h1:∀(q:Prop)[Decidable q](x:Ln×Int),(if q then[x]else[]).length<=1:=fun q _ x=>by split<;>simp);exact Nat.le_trans (Nat.add_le_add_right (h1 _ _) _) (by simp)
theorem sV (fs:List Fn)(f:Fn)(E O H:List Int):∀i,(fe fs f E O H i).1.length<=f.l.toNat+4*i/\(fe fs f E O H i).2.length=i
 |0=>⟨by simp[fe,first],rfl⟩
 | i +1=>by
   have ih:=sV fs f E O H i
   have hs:=Hr fs f E O H i
   refine⟨?_,?_⟩
   · unfold fe
     simp only[List.length_append]
     split
     · omega
     · simp;omega
   · unfold fe
     simp only[List.length_append,List.length_singleton,ih.2]
end Lw
section
def pW (W:World)(b:Nat)(v0 v1 v2 v3 v4:Value):Prop:=
 b <W.heap.size/\(W.cell? ⟨b,0,none⟩=some v0/\W.cell? ⟨b,1,none⟩=some v1/\W.cell? ⟨b,2,none⟩=some v2/\W.cell? ⟨b,3,none⟩=some v3/\W.cell? ⟨b,4,none⟩=some v4)/\
   W.frozen? ⟨b,0,none⟩=false/\W.frozen? ⟨b,1,none⟩=false/\W.frozen? ⟨b,2,none⟩=false/\W.frozen? ⟨b,3,none⟩=false/\W.frozen? ⟨b,4,none⟩=false
theorem pW.bT {W W':World}{b:Nat}{row:Option Nat}{v0 v1 v2 v3 v4:Value}(h:pW W b v0 v1 v2 v3 v4)(hg:W.grownBy W' row)(hne:row≠some b):pW W' b v0 v1 v2 v3 v4:=by obtain⟨h0,⟨c0,c1,c2,c3,c4⟩,f0,f1,f2,f3,f4⟩:=h;have hb:=hg.block b h0 (fun e=>hne e.symm);have hc:∀i,W'.cell? ⟨b,i,none⟩=W.cell? ⟨b,i,none⟩:=fun i=>World.cell?_of_block hb;have hf:∀i,W'.frozen? ⟨b,i,none⟩=W.frozen? ⟨b,i,none⟩:=fun i=>by{unfold World.frozen?;rw[hb]};exact⟨aj h0 hg.size,⟨(hc _).trans c0,(hc _).trans c1,(hc _).trans c2,(hc _).trans c3,(hc _).trans c4⟩,(hf _).trans f0,(hf _).trans f1,(hf _).trans f2,(hf _).trans f3,(hf _).trans f4⟩
theorem pW.new (W:World)(v0 v1 v2 v3 v4:Value)(t:TypeId):pW (W.alloc (.cells #[v0,v1,v2,v3,v4] t)) W.heap.size v0 v1 v2 v3 v4:=by refine⟨by simp,⟨?_,?_,?_,?_,?_⟩,?_,?_,?_,?_,?_⟩<;>go_simp
theorem pW.aau {W:World}{b:Nat}{v0 v1 v2 v3 v4:Value}(h:pW W b v0 v1 v2 v3 v4)(x:Value):pW (W.setCell ⟨b,1,none⟩ x) b v0 x v2 v3 v4:=by obtain⟨h0,⟨c0,c1,c2,c3,c4⟩,f0,f1,f2,f3,f4⟩:=h;refine⟨by simpa[World.setCell]using h0,⟨?_,?_,?_,?_,?_⟩,?_,?_,?_,?_,?_⟩<;>go_simp
theorem pW.P8 {W:World}{b:Nat}{v0 v1 v2 v3 v4:Value}(h:pW W b v0 v1 v2 v3 v4)(x:Value):pW (W.setCell ⟨b,4,none⟩ x) b v0 v1 v2 v3 x:=by obtain⟨h0,⟨c0,c1,c2,c3,c4⟩,f0,f1,f2,f3,f4⟩:=h;refine⟨by simpa[World.setCell]using h0,⟨?_,?_,?_,?_,?_⟩,?_,?_,?_,?_,?_⟩<;>go_simp
structure PS (w:World)(m0 N gE gO:Nat)(a:Option Addr)(len cap:Nat)(E O:List Int)(S:List Nat)(b:Bool)(W:World):Prop where
 eZ:Below w.heap.size w W
 hm:m0<=W.heap.size
 iN:w.heap.size<=N/\N<m0
 iE:w.heap.size<=gE/\gE<m0
 iO:w.heap.size<=gO/\gO<m0
 ne:N≠gE/\N≠gO/\gE≠gO
 rE:W.ownsRow w.heap.size 2 1 (.slice (some ⟨gE,0,none⟩) len len) len (E.map iv)
 rO:W.ownsRow w.heap.size 2 1 (.slice (some ⟨gO,0,none⟩) len len) len (O.map iv)
 st:∃v,pW W N (.slice a len cap) v (.slice (some ⟨gE,0,none⟩) len len) (.slice (some ⟨gO,0,none⟩) len len) (.bool b)/\W.ownsRow m0 2 1 v S.length ((jB S.reverse).map iv)
variable {w : World} {m0 N gE gO : Nat} {a : Option Addr} {len cap : Nat} {E O : List Int} {S : List Nat} {b : Bool} {W : World}
theorem PS.kept {W':World}(h:PS w m0 N gE gO a len cap E O S b W)(hB:Below W.heap.size W W'):PS w m0 N gE gO a len cap E O S b W':=by obtain⟨v,hb,hr⟩:=h.st;exact{h with eZ:=h.eZ.trans (hB.mono h.eZ.size),hm:=Nat.le_trans h.hm hB.size,rE:=aI h.rE hB,rO:=aI h.rO hB,st:=⟨v,hb.bT (row:=none) ⟨hB.os,hB.tape,hB.output,hB.size,fun k hk _=>hB.block k hk⟩ (by simp),aI hr hB⟩}
theorem dw {W:World}{n₀ e k n:Nat}{v:Value}{xs:List Value}(h:W.ownsRow n₀ e k v n xs):∃a cap,v= .slice a n cap:=by rcases h.2 with⟨rfl,h0⟩|⟨g,cap,cur,rfl,_⟩;{exact⟨none,0,by rw[h0]⟩};exact⟨_,cap,rfl⟩
theorem PS.apart (h:PS w m0 N gE gO a len cap E O S b W){v:Value}{n:Nat}{xs:List Value}(hr:W.ownsRow m0 2 1 v n xs):∀g,v.ownBlock=some g->g≠N/\g≠gE/\g≠gO:=by intro g hg;have h1:=(hr.lt g hg).1;have:=h.iN;have:=h.iE;have:=h.iO;omega
theorem PS.row {wA:World}{v:Value}{n:Nat}{xs:List Value}(hs:PS w m0 N gE gO a len cap E O S b W)(hr:W.ownsRow m0 2 1 v n xs)(hg:W.grownBy wA v.ownBlock){v':Value}{S':List Nat}(hown:wA.ownsRow m0 2 1 v' S'.length ((jB S'.reverse).map iv)):PS w m0 N gE gO a len cap E O S' b (wA.setCell ⟨N,1,none⟩ v'):=by have hap:=hs.apart hr;have hN:=hs.iN;have hEi:=hs.iE;have hOi:=hs.iO;obtain⟨n1,n2,n3⟩:=hs.ne;obtain⟨vv,hb,-⟩:=hs.st;have rD:=hb.bT hg (fun e=>by have:=hap N e;omega);have hg2:=aB wA ⟨N,1,none⟩ v';have off:∀{g:Nat}{ys:List Value},W.ownsRow w.heap.size 2 1 (.slice (some ⟨g,0,none⟩) len len) len ys->(∀x,v.ownBlock=some x->x≠g)->g≠N->(wA.setCell ⟨N,1,none⟩ v').ownsRow w.heap.size 2 1 (.slice (some ⟨g,0,none⟩) len len) len ys:=by{intro g ys hrg h1 h2;have e1:wA.ownsRow w.heap.size 2 1 (.slice (some ⟨g,0,none⟩) len len) len ys:=hrg.kept hg (.inr (fun e=>h1 g e.symm rfl));exact je e1 hg2 h2};have hB1:=hs.eZ.grown hg hs.eZ.size (fun j ej=>by have:=(hr.lt j ej).1;omega);refine⟨hB1.setCell (p:=⟨N,1,none⟩) hN.1 _,?_,hN,hEi,hOi,hs.ne,off hs.rE (fun x hx=>(hap x hx).2.1) (by omega),off hs.rO (fun x hx=>(hap x hx).2.2) (by omega),v',rD.aau v',?_⟩;{have h1:=hs.hm;have h2:=hg.size;simp[World.setCell];omega};refine hown.kept hg2 ?_;rcases hv:v'.ownBlock with _|x;{exact .inl rfl};refine .inr ?_;have:=(hown.lt x hv).1;simp only[ne_eq,af];omega
theorem PS.iI {t:Nat}(hs:PS w m0 N gE gO a len cap E O (t::S) b W):∃g c,pW W N (.slice a len cap) (.slice (some ⟨g,0,none⟩) (S.length+1) c) (.slice (some ⟨gE,0,none⟩) len len) (.slice (some ⟨gO,0,none⟩) len len) (.bool b)/\W.ownsRow m0 2 1 (.slice (some ⟨g,0,none⟩) (S.length+1) c) (S.length+1) ((jB (t::S).reverse).map iv)/\W.cell? ⟨g,S.length,none⟩=some (.int .i64 (t:Int)):=by obtain⟨v,hb,hr⟩:=hs.st;rw[List.length_cons]at hr;obtain⟨g,c,rfl⟩:=ownsRow_succ hr;refine⟨g,c,hb,hr,?_⟩;have:=jg (xs:=jB (t::S).reverse) hr (k:=S.length) (by simp) 0;rw[this];simp[jB]
end
structure LX where
 B:Nat
 ha:Option Addr
 hc:Nat
 ea:Option Addr
 ec:Nat
 ba:Option Addr
 bc:Nat
 fs:List Fn
 f:Fn
 E:List Int
 O:List Int
 H:List Int
def LX.eF (c:LX)(v vg:Value):List Value:=
 [v,vg, .int .i64 (Lw.wd c.f), .slice c.ha c.f.b.length c.hc, .slice c.ea c.f.b.length c.ec, .slice c.ba c.f.b.length c.bc, .int .i64 c.f.g]
structure TX (c:LX)(W0:World):Prop where
 lt:W0.heap.size<=c.B
 hH:IL W0 c.ha c.f.b.length c.H
 hE:IL W0 c.ea c.f.b.length c.E
 hS:SL W0 c.ba c.f.b.length c.f.b
 acc:Hg.Acc c.fs c.f c.E c.O c.H
 ok:0<=c.f.a/\c.f.a<=3/\0<=c.f.l/\c.f.l<=3/\(c.f.g=0\/c.f.g=1)/\c.f.b.length<=80
 all:St.bD c.f.b=true
 val:Mn.Nw c.fs
structure MK (c:LX)(W0 W:World)(v vg:Value)(out:List (Ln×Int))(P:Nat->Prop):Prop where
 eZ:Below W0.heap.size W0 W
 box:bu W c.B (c.eF v vg)
 sz:c.B+1<=W.heap.size
 row:∃vs:List Lv,W.ownsRow (c.B+1) 67 6 v out.length (bV vs)/\vs.length=out.length/\gy W (c.B+1) out.length vs (out.map (·.1))/\∀j,j<out.length->∀g,(vs.getD j dQ).2.2.2.2.2.ownBlock=some g->vg.ownBlock≠some g/\P g
 Cb:OI W (c.B+1) vg (out.map (·.2))
structure FX (c:LX)(v vg v' nR:Value)(W W':World):Prop where
 os:W'.os=W.os
 tape:W'.tape=W.tape
 out:W'.output=W.output
 size:W.heap.size<=W'.heap.size
 blk:∀i,i<W.heap.size->i≠c.B->v.ownBlock≠some i->vg.ownBlock≠some i->W'.heap[i]?=W.heap[i]?
 v1:v'.ownBlock=v.ownBlock\/∃g,v'.ownBlock=some g/\W.heap.size<=g
 g1:nR.ownBlock=vg.ownBlock\/∃g,nR.ownBlock=some g/\W.heap.size<=g
theorem FX.refl (c:LX)(v vg:Value)(W:World):FX c v vg v vg W W:=⟨rfl,rfl,rfl,Nat.le_refl _,fun _ _ _ _ _=>rfl, .inl rfl, .inl rfl⟩
theorem FX.trans {c:LX}{v vg v' nR v2 x8:Value}{W W' W2:World}(h:FX c v vg v' nR W W')(k:FX c v' nR v2 x8 W' W2):FX c v vg v2 x8 W W2:=by refine⟨k.os.trans h.os,k.tape.trans h.tape,k.out.trans h.out,Nat.le_trans h.size k.size,fun i hi hB hv hg=>?_,?_,?_⟩;{refine(k.blk i (aj hi h.size) hB ?_ ?_).trans (h.blk i hi hB hv hg);{rcases h.v1 with e|⟨g,e,hge⟩;{rw[e];exact hv};rw[e];simp only[ne_eq,af];omega};rcases h.g1 with e|⟨g,e,hge⟩;{rw[e];exact hg};rw[e];simp only[ne_eq,af];omega};{rcases k.v1 with e|⟨g,e,hge⟩;{rw[e];exact h.v1};exact .inr ⟨g,e,Nat.le_trans h.size hge⟩};rcases k.g1 with e|⟨g,e,hge⟩;{rw[e];exact h.g1};exact .inr ⟨g,e,Nat.le_trans h.size hge⟩
theorem FX.below {c:LX}{v vg:Value}{W W':World}(h:Below W.heap.size W W'):FX c v vg v vg W W':=⟨h.os,h.tape,h.output,h.size,fun i hi _ _ _=>h.block i hi, .inl rfl, .inl rfl⟩
theorem FX.rows {c:LX}{v vg v' nR:Value}{W W':World}(h:FX c v vg v' nR W W'){n₀ e k n:Nat}{u:Value}{xs:List Value}(hr:W.ownsRow n₀ e k u n xs)(hn:∀g,u.ownBlock=some g->g≠c.B/\v.ownBlock≠some g/\vg.ownBlock≠some g):W'.ownsRow n₀ e k u n xs:=by refine⟨hr.1,?_⟩;rcases hr.2 with h'|⟨g',cap',cur,h',h1,h2,r⟩;{exact .inl h'};have hg:=hn g' (by rw[h'];rfl);exact .inr ⟨g',cap',cur,h',h1,(h.blk g' (Array.getElem?_eq_some_iff.1 h2).1 hg.1 hg.2.1 hg.2.2).trans h2,r⟩
theorem MK.kept {c:LX}{W0 W W':World}{v vg:Value}{out:List (Ln×Int)}{P:Nat->Prop}(h:MK c W0 W v vg out P)(hB:Below W.heap.size W W'):MK c W0 W' v vg out P:=by obtain⟨vs,h1,h2,h3,h4⟩:=h.row;exact⟨h.eZ.trans (hB.mono h.eZ.size),h.box.kept hB,Nat.le_trans h.sz hB.size,⟨vs,aI h1 hB,h2,h3.kept hB,h4⟩,h.Cb.kept hB⟩
theorem MK.fG {c:LX}{W0 W:World}{v vg:Value}{out:List (Ln×Int)}{P P':Nat->Prop}(h:MK c W0 W v vg out P)(hP:∀g,P g->P' g):MK c W0 W v vg out P':=by obtain⟨vs,h1,h2,h3,h4⟩:=h.row;exact⟨h.eZ,h.box,h.sz,⟨vs,h1,h2,h3,fun j hj g e=>⟨(h4 j hj g e).1,hP g (h4 j hj g e).2⟩⟩,h.Cb⟩
theorem bX {W:World}{n₀ e k n:Nat}{v:Value}{xs:List Value}(h:W.ownsRow n₀ e k v n xs){g:Nat}(hg:v.ownBlock=some g):n₀<=g/\g<W.heap.size:=World.ownsRow.lt h g hg
theorem eU {W:World}{b0 b1 e0 e1 k0 k1 n0 n1:Nat}{u v:Value}{xs ys:List Value}(h0:W.ownsRow b0 e0 k0 u n0 xs)(h1:W.ownsRow b1 e1 k1 v n1 ys)(he:e0≠e1){g:Nat}(hg:u.ownBlock=some g):v.ownBlock≠some g:=by intro hv;rcases h0.2 with⟨rfl,-⟩|⟨g0,c0,ajH,rfl,-,hb0,-⟩;{cases hg};rcases h1.2 with⟨rfl,-⟩|⟨g1,c1,ajI,rfl,-,hb1,-⟩;{cases hv};simp only[Value.ownBlock,af]at hg hv;subst hg;subst hv;rw[hb0]at hb1;cases hb1;exact he rfl
theorem cZ {W W':World}{n₀ e k n:Nat}{u:Value}{xs:List Value}{row:Option Nat}(h:W.ownsRow n₀ e k u n xs)(hg:W.grownBy W' row)(hne:∀g,u.ownBlock=some g->row≠some g):W'.ownsRow n₀ e k u n xs:=by refine⟨h.1,?_⟩;rcases h.2 with h'|⟨g',cap',cur,h',h1,h2,r⟩;{exact .inl h'};exact .inr ⟨g',cap',cur,h',h1,(hg.block g' (Array.getElem?_eq_some_iff.1 h2).1 (fun e=>hne g' (by rw[h'];rfl) e.symm)).trans h2,r⟩
theorem gy.bT {W W':World}{n₀ k:Nat}{vs:List Lv}{fs:List Ln}{row:Option Nat}(h:gy W n₀ k vs fs)(hg:W.grownBy W' row)(hne:∀j,j<k->∀g,(vs.getD j dQ).2.2.2.2.2.ownBlock=some g->row≠some g):gy W' n₀ k vs fs:=fun j hj=>by
 obtain⟨h0,h1,h2,h3,h4,h5⟩:=h j hj
 exact⟨h0,h1,h2,h3,h4,cZ h5 hg (hne j hj)⟩
theorem dG {w w1 w2:World}{row:Option Nat}(h:Below w.heap.size w w1)(hg:w1.grownBy w2 row)(hr:∀g,row=some g->w.heap.size<=g):Below w.heap.size w w2:=
 ⟨hg.os.trans h.os,hg.tape.trans h.tape,hg.output.trans h.output,Nat.le_trans h.size hg.size,fun k hk=>(hg.block k (aj hk h.size) (fun e=>by have:=hr k e.symm;omega)).trans (h.block k hk)⟩
theorem oG (xs ys:List Lv):bV (xs++ys)=bV xs++bV ys:=by simp[bV]
theorem A7 {ops:Array Oper}{o:Oper}{a:Act}{K:Act->World->Prop}{Q:Exit->Act->World->Prop}{E:Prop}(w:World)(hgd:o.guard=none)(s x:Operand)(t:TypeId)(ho:o.op= .call {callee:= .builtin .append,args:=#[s,x],argTypes:=#[t,t]})(base:Nat)(e:TypeId)(i:TypeInfo)(z:Value)(size bytes:Nat)(ht:Tryz.prog.underlying t=some (.slice e))(hi:Tryz.prog.info? e=some i)(hz:i.zero=some z)(hsize:i.size=size)(hby:i.bytes=bytes)(hzs:z.cells.size=size)(hsz:0<size)(v:Value)(n:Nat)(xs:List Value)(hs:a.eval s=v)(hown:w.ownsRow base e size v n xs)(ad:Addr)(m c:Nat)(news:List Value)(hx:a.eval x= .slice (some ad) m c)(hl:news.length=m*size)(hnews:∀j u,news[j]?=some u->w.cell? (ad.add j)=some u)(h1:∀u∈news,u.oneCell'=true)(h63:n+m<=maxLen)(hbytes:(n+m)*bytes<=140737488355328)(hbase:base<=w.heap.size)(h:∀v' w',w'.ownsRow base e size v' (n+m) (xs++news)->w.grownBy w' v.ownBlock->(v'= .slice none 0 0↔v= .slice none 0 0/\m=0)->(v'.ownBlock=v.ownBlock\/v'.ownBlock=some w.heap.size)->K (a.put o.dst v') w'):if Region.wanted o (yielded ops a.tmps)=true then Oper.wp Tryz.prog o a w K Q else E:=by have hw:Region.wanted o (yielded ops a.tmps)=true:=by{simp[Region.wanted,hgd]};rw[ay hw];obtain⟨v',w',hr,h2,h3,h4,h5⟩:=run_append_own_at (P:=Tryz.prog) w base t o.type e i z size bytes ht hi hz hsize hby hzs hsz v n xs hown ad m c news hl hnews h1 h63 hbytes hbase;unfold Oper.wp execOp;simp only[ho,resolve,invoke,builtin,Sem.run_bind,Sem.run_pure,Result.andThen_ok,List.map_toArray,List.map_cons,List.map_nil,hs,hx,hr];exact h v' w' h2 h3 h4 h5
theorem xP (W W':World)(p q r s t u:Value)(ty:TypeId)(H:Nat)(hH:W.heap.size=H)(hc:∀i,W'.cell? ⟨H,i,none⟩=(W.alloc (.cells #[p,q,r,s,t,u] ty)).cell? ⟨H,i,none⟩):∀j y,[p,q,r,s,t,u][j]?=some y->W'.cell? ((⟨H,0,none⟩:Addr).add j)=some y:=by subst hH;intro j y hy;(have hadd:(⟨W.heap.size,0,none⟩:Addr).add j=⟨W.heap.size,j,none⟩:=by unfold Addr.add;split<;>simp_all);rw[hadd,hc,World.cell?_alloc_at _ _ _ _ rfl];simpa using hy
theorem TX.il {c:LX}{W0 W:World}(T:TX c W0){v vg:Value}{out:List (Ln×Int)}{P:Nat->Prop}(K:MK c W0 W v vg out P):IL W c.ha c.f.b.length c.H/\IL W c.ea c.f.b.length c.E/\SL W c.ba c.f.b.length c.f.b:=
 ⟨T.hH.kept K.eZ,T.hE.kept K.eZ,T.hS.kept K.eZ⟩
theorem MK.line {c:LX}{W0 W W1 W2:World}{v vg v':Value}{out:List (Ln×Int)}{P:Nat->Prop}(K:MK c W0 W v vg out P)(hW:W0.heap.size<=c.B)(hB1:Below W.heap.size W W1)(x:Ln)(la:Option Addr)(ln lc:Nat)(hx:OI W (c.B+1) (.slice la ln lc) x.l)(hap:∀g,(Value.slice la ln lc).ownBlock=some g->vg.ownBlock≠some g/\P g)(vs:List Lv)(hvs:W.ownsRow (c.B+1) 67 6 v out.length (bV vs)/\vs.length=out.length/\gy W (c.B+1) out.length vs (out.map (·.1))/\∀j,j<out.length->∀g,(vs.getD j dQ).2.2.2.2.2.ownBlock=some g->vg.ownBlock≠some g/\P g)(hrow:W2.ownsRow (c.B+1) 67 6 v' (out.length+1) (bV vs++[.int .i64 x.k, .int .i64 x.d, .int .i64 x.a, .int .i64 x.b, .int .i64 x.n, .slice la ln lc]))(hg:W1.grownBy W2 v.ownBlock)(hat:v'.ownBlock=v.ownBlock\/v'.ownBlock=some W1.heap.size)(tg:Int):Below W0.heap.size W0 (W2.setCell ⟨c.B,0,none⟩ v')/\bu (W2.setCell ⟨c.B,0,none⟩ v') c.B (c.eF v' vg)/\c.B+1<=(W2.setCell ⟨c.B,0,none⟩ v').heap.size/\(∃vs:List Lv,(W2.setCell ⟨c.B,0,none⟩ v').ownsRow (c.B+1) 67 6 v' (out++[(x,tg)]).length (bV vs)/\vs.length=(out++[(x,tg)]).length/\gy (W2.setCell ⟨c.B,0,none⟩ v') (c.B+1) (out++[(x,tg)]).length vs ((out++[(x,tg)]).map (·.1))/\∀j,j<(out++[(x,tg)]).length->∀g,(vs.getD j dQ).2.2.2.2.2.ownBlock=some g->vg.ownBlock≠some g/\P g)/\OI (W2.setCell ⟨c.B,0,none⟩ v') (c.B+1) vg (out.map (·.2))/\FX c v vg v' vg W (W2.setCell ⟨c.B,0,none⟩ v'):=by obtain⟨r1,r2,r3,r4⟩:=hvs;have vB:∀g,v.ownBlock=some g->c.B+1<=g:=fun g hg=>(bX r1 hg).1;have gs:=aB W2 ⟨c.B,0,none⟩ v';have bx1:=K.box.kept hB1;have bx2:=bx1.bT hg (fun e=>by have:=vB c.B e;omega);have bx3:=bx2.set 0 v';have hint:2≠67:=by{decide};have gB:∀g,vg.ownBlock=some g->c.B+1<=g:=fun g hg=>(bX K.Cb hg).1;have ZM:OI W1 (c.B+1) vg (out.map (·.2)):=K.Cb.kept hB1;have r1':=aI r1 hB1;have og2:OI W2 (c.B+1) vg (out.map (·.2)):=cZ ZM hg (fun g e=>eU ZM r1' hint e);have og3:OI (W2.setCell ⟨c.B,0,none⟩ v') (c.B+1) vg (out.map (·.2)):=cZ og2 gs (fun g e=>by have:=gB g e;simp only[ne_eq,af];omega);have t1:=r3.kept hB1;have t2:gy W2 (c.B+1) out.length vs (out.map (·.1)):=t1.bT hg (fun j hj g e=>eU (t1 j hj).2.2.2.2.2 r1' hint e);have t3:gy (W2.setCell ⟨c.B,0,none⟩ v') (c.B+1) out.length vs (out.map (·.1)):=t2.bT gs (fun j hj g e=>by have:=(bX (t2 j hj).2.2.2.2.2 e).1;simp only[ne_eq,af];omega);have x1:=hx.kept hB1;have x2:OI W2 (c.B+1) (.slice la ln lc) x.l:=cZ x1 hg (fun g e=>eU x1 r1' hint e);have x3:OI (W2.setCell ⟨c.B,0,none⟩ v') (c.B+1) (.slice la ln lc) x.l:=cZ x2 gs (fun g e=>by have:=(bX x2 e).1;simp only[ne_eq,af];omega);have hr3:=cZ hrow gs (fun g e=>by have:=(bX hrow e).1;simp only[ne_eq,af];omega);have b1:=K.eZ.trans (hB1.mono K.eZ.size);have b2:=dG b1 hg (fun g e=>by have:=vB g e;omega);have b3:=dG b2 gs (fun g e=>by cases e;exact hW);refine⟨b3,bx3,?_,⟨vs++[(x.k,x.d,x.a,x.b,x.n, .slice la ln lc)],?_,?_,fun j hj=>?_,fun j hj g e=>?_⟩,og3,⟨(gs.os.trans hg.os).trans hB1.os,(gs.tape.trans hg.tape).trans hB1.tape,(gs.output.trans hg.output).trans hB1.output,Nat.le_trans hB1.size (Nat.le_trans hg.size gs.size),fun i hi hb hv hv2=>?_,?_, .inl rfl⟩⟩;{exact Nat.le_trans K.sz (Nat.le_trans hB1.size (Nat.le_trans hg.size gs.size))};{rw[oG,List.length_append,List.length_singleton];exact hr3};{rw[List.length_append,List.length_append,r2];rfl};{rw[List.length_append,List.length_singleton]at hj;by_cases hjl:j<out.length;{have e1:(vs++[(x.k,x.d,x.a,x.b,x.n,Value.slice la ln lc)]).getD j dQ=vs.getD j dQ:=by{rw[ah,List.getElem?_append_left (by omega),←ah]};have e2:((out++[(x,tg)]).map (·.1)).getD j .z=(out.map (·.1)).getD j .z:=by{rw[List.map_append,ah,List.getElem?_append_left (by simpa using hjl),←ah]};rw[e1,e2];exact t3 j hjl};have ej:j=out.length:=by{omega};have e1:(vs++[(x.k,x.d,x.a,x.b,x.n,Value.slice la ln lc)]).getD j dQ=(x.k,x.d,x.a,x.b,x.n,Value.slice la ln lc):=by{rw[ah,List.getElem?_append_right (by omega),r2,ej];simp};have e2:((out++[(x,tg)]).map (·.1)).getD j .z=x:=by{rw[List.map_append,ah,List.getElem?_append_right (by simp;omega)];simp[ej]};rw[e1,e2];exact⟨rfl,rfl,rfl,rfl,rfl,x3⟩};{rw[List.length_append,List.length_singleton]at hj;by_cases hjl:j<out.length;{have e1:(vs++[(x.k,x.d,x.a,x.b,x.n,Value.slice la ln lc)]).getD j dQ=vs.getD j dQ:=by{rw[ah,List.getElem?_append_left (by omega),←ah]};rw[e1]at e;exact r4 j hjl g e};have ej:j=out.length:=by{omega};have e1:(vs++[(x.k,x.d,x.a,x.b,x.n,Value.slice la ln lc)]).getD j dQ=(x.k,x.d,x.a,x.b,x.n,Value.slice la ln lc):=by{rw[ah,List.getElem?_append_right (by omega),r2,ej];simp};rw[e1]at e;exact hap g e};{exact(gs.block i (aj hi (Nat.le_trans hB1.size hg.size)) (by simpa using hb)).trans ((hg.block i (aj hi hB1.size) (fun e=>hv e.symm)).trans (hB1.block i hi))};rcases hat with e|e;{exact .inl e};exact .inr ⟨_,e,hB1.size⟩
theorem MK.goal {c:LX}{W0 W W1 W2:World}{v vg nR:Value}{out:List (Ln×Int)}{P:Nat->Prop}{x:Ln}{tg:Int}(hW:W0.heap.size<=c.B)(hb:Below W0.heap.size W0 W)(hbx:bu W c.B (c.eF v vg))(hsz:c.B+1<=W.heap.size)(hvs:∃vs:List Lv,W.ownsRow (c.B+1) 67 6 v (out++[(x,tg)]).length (bV vs)/\vs.length=(out++[(x,tg)]).length/\gy W (c.B+1) (out++[(x,tg)]).length vs ((out++[(x,tg)]).map (·.1))/\∀j,j<(out++[(x,tg)]).length->∀g,(vs.getD j dQ).2.2.2.2.2.ownBlock=some g->vg.ownBlock≠some g/\P g)(hgo:OI W (c.B+1) vg (out.map (·.2)))(hB1:Below W.heap.size W W1)(hrow:W2.ownsRow (c.B+1) 2 1 nR (out.length+1) ((out.map (·.2)).map iv++[.int .i64 tg]))(hg:W1.grownBy W2 vg.ownBlock)(hat:nR.ownBlock=vg.ownBlock\/nR.ownBlock=some W1.heap.size):MK c W0 (W2.setCell ⟨c.B,1,none⟩ nR) v nR (out++[(x,tg)]) P/\FX c v vg v nR W (W2.setCell ⟨c.B,1,none⟩ nR):=by obtain⟨vs,r1,r2,r3,r4⟩:=hvs;have gB:∀g,vg.ownBlock=some g->c.B+1<=g:=fun g hg=>(bX hgo hg).1;have gs:=aB W2 ⟨c.B,1,none⟩ nR;have bx3:=((hbx.kept hB1).bT hg (fun e=>by have:=gB c.B e;omega)).set 1 nR;have hint:67≠2:=by{decide};have ZM:OI W1 (c.B+1) vg (out.map (·.2)):=hgo.kept hB1;have s1:=aI r1 hB1;have s2:=cZ s1 hg (fun g e=>eU s1 ZM hint e);have s3:=cZ s2 gs (fun g e=>by have:=(bX s2 e).1;simp only[ne_eq,af];omega);have t1:=r3.kept hB1;have t2:=t1.bT hg (fun j hj g e=>(r4 j hj g e).1);have t3:=t2.bT gs (fun j hj g e=>by have:=(bX (t2 j hj).2.2.2.2.2 e).1;simp only[ne_eq,af];omega);have hr3:=cZ hrow gs (fun g e=>by have:=(bX hrow e).1;simp only[ne_eq,af];omega);have b1:=hb.trans (hB1.mono hb.size);have b2:=dG b1 hg (fun g e=>by have:=gB g e;omega);have b3:=dG b2 gs (fun g e=>by cases e;exact hW);refine⟨⟨b3,bx3,Nat.le_trans hsz (Nat.le_trans hB1.size (Nat.le_trans hg.size gs.size)),⟨vs,s3,r2,t3,fun j hj g e=>?_⟩,?_⟩,⟨(gs.os.trans hg.os).trans hB1.os,(gs.tape.trans hg.tape).trans hB1.tape,(gs.output.trans hg.output).trans hB1.output,Nat.le_trans hB1.size (Nat.le_trans hg.size gs.size),fun i hi hb hv hv2=>?_, .inl rfl,?_⟩⟩;{rcases hat with e'|e';{rw[e'];exact r4 j hj g e};rw[e'];have:=(bX (t1 j hj).2.2.2.2.2 e).2;refine⟨?_,(r4 j hj g e).2⟩;simp only[ne_eq,af];omega};{show World.ownsRow _ _ _ _ _ _ _;rw[List.map_append,List.length_append,List.map_append,List.length_map];exact hr3};{exact(gs.block i (aj hi (Nat.le_trans hB1.size hg.size)) (by simpa using hb)).trans ((hg.block i (aj hi hB1.size) (fun e=>hv2 e.symm)).trans (hB1.block i hi))};rcases hat with e|e;{exact .inl e};exact .inr ⟨_,e,hB1.size⟩
def lu (vs:List Lv)(j:Nat):Value:=(vs.getD j dQ).2.2.2.2.2
def vL (W:World)(n₀:Nat)(v:Value)(fs:List Ln)(vs:List Lv):Prop:=
 W.ownsRow n₀ 67 6 v fs.length (bV vs)/\vs.length=fs.length/\gy W n₀ fs.length vs fs/\∀i j,i<j->j<fs.length->∀g,(lu vs i).ownBlock=some g->(lu vs j).ownBlock≠some g
theorem vL.kept {W W':World}{n₀:Nat}{v:Value}{fs:List Ln}{vs:List Lv}(h:vL W n₀ v fs vs)(hB:Below W.heap.size W W'):vL W' n₀ v fs vs:=⟨aI h.1 hB,h.2.1,h.2.2.1.kept hB,h.2.2.2⟩
theorem DF {ys:List Int}{n:Nat}{k0:Int}(hl:ys.length=n)(h:∀j,j<n->ys.getD j 0=k0+(j:Int)):ys=(List.range n).map fun(j:Nat)=>k0+(j:Int):=by apply List.ext_getElem;{rw[hl];simp};intro j h1 h2;have:=h j (by omega);rw[ah,ai h1]at this;simpa using this
def qB (k0:Int)(n:Nat):List Int:=(List.range n).map fun(j:Nat)=>k0+(j:Int)
theorem C9 (k0:Int)(n:Nat):(qB k0 n).length=n:=by simp[qB]
def kL (k0:Int)(fs:List Ln):Nat->Int
 |0=>k0
 |i+1=>kL k0 fs i+5+((fs.getD i .z).l.length:Int)
def ET (k0:Int)(fs:List Ln)(j:Nat):Ln:=⟨kL k0 fs j,kL k0 fs j+1,kL k0 fs j+1+1,kL k0 fs j+1+1+1,kL k0 fs j+1+1+1+1,qB (kL k0 fs j+1+1+1+1+1) (fs.getD j .z).l.length⟩
def RA (k0:Int)(fs:List Ln):List Ln:=(List.range fs.length).map (ET k0 fs)
theorem Li {k0:Int}{fs:List Ln}{j:Nat}(h:j<fs.length):(RA k0 fs).getD j .z=ET k0 fs j:=by simp[RA,ah,h]
theorem Mk (k0:Int)(fs:List Ln):(RA k0 fs).length=fs.length:=by simp[RA]
theorem gQ {α:Type}{l:List α}{k:Nat}{x d:α}(h:k<l.length):(l.set k x).getD k d=x:=by rw[ah,List.getElem?_set_self h];rfl
theorem qy {α:Type}{l:List α}{k j:Nat}{x d:α}(h:j≠k):(l.set k x).getD j d=l.getD j d:=by rw[ah,List.getElem?_set_ne (by omega),←ah]
theorem CV (vs:List Lv)(k:Nat)(x y z p q:Int)(h:k<vs.length):bV (vs.set k (x,y,z,p,q,lu vs k))=(((((bV vs).set (k*6) (.int .i64 x)).set (k*6+1) (.int .i64 y)).set (k*6+2) (.int .i64 z)).set (k*6+3) (.int .i64 p)).set (k*6+4) (.int .i64 q):=by rw[jN];have hg:=(eQ vs k h).2.2.2.2.2;apply List.ext_getElem?;intro i;by_cases e:i=k*6+5;{subst e;have hl:k*6+5<(bV vs).length:=by{rw[kF];omega};rw[List.getElem?_set_self (by simpa using hl),List.getElem?_set_ne (by omega),List.getElem?_set_ne (by omega),List.getElem?_set_ne (by omega),List.getElem?_set_ne (by omega),List.getElem?_set_ne (by omega),hg];rfl};rw[List.getElem?_set_ne (by omega)]
theorem sH {vs:List Lv}{k j:Nat}{x y z p q:Int}(h:k<vs.length):lu (vs.set k (x,y,z,p,q,lu vs k)) j=lu vs j:=by by_cases e:j=k;{subst e;show((vs.set j _).getD j dQ).2.2.2.2.2=_;rw[gQ h]};show((vs.set k _).getD j dQ).2.2.2.2.2=_;rw[qy e];rfl
theorem vL.ints {W:World}{n₀ g cap k:Nat}{fs:List Ln}{vs:List Lv}(h:vL W n₀ (.slice (some ⟨g,0,none⟩) fs.length cap) fs vs)(hk:k<fs.length)(x y z p q:Int):vL (((((W.setCell ⟨g,k*6,none⟩ (.int .i64 x)).setCell ⟨g,k*6+1,none⟩ (.int .i64 y)).setCell ⟨g,k*6+2,none⟩ (.int .i64 z)).setCell ⟨g,k*6+3,none⟩ (.int .i64 p)).setCell ⟨g,k*6+4,none⟩ (.int .i64 q)) n₀ (.slice (some ⟨g,0,none⟩) fs.length cap) (fs.set k ⟨x,y,z,p,q,(fs.getD k .z).l⟩) (vs.set k (x,y,z,p,q,lu vs k))/\W.grownBy (((((W.setCell ⟨g,k*6,none⟩ (.int .i64 x)).setCell ⟨g,k*6+1,none⟩ (.int .i64 y)).setCell ⟨g,k*6+2,none⟩ (.int .i64 z)).setCell ⟨g,k*6+3,none⟩ (.int .i64 p)).setCell ⟨g,k*6+4,none⟩ (.int .i64 q)) (some g):=by obtain⟨hrow,hl,ht,hp⟩:=h;have h1:=hrow.stored (k*6) (.int .i64 x);have h2:=h1.1.stored (k*6+1) (.int .i64 y);have h3:=h2.1.stored (k*6+2) (.int .i64 z);have h4:=h3.1.stored (k*6+3) (.int .i64 p);have h5:=h4.1.stored (k*6+4) (.int .i64 q);have hg:=aO (aO (aO (aO h1.2 h2.2) h3.2) h4.2) h5.2;have hint:2≠67:=by{decide};refine⟨⟨?_,by simp[hl],?_,?_⟩,hg⟩;{rw[List.length_set,CV _ _ _ _ _ _ _ (by omega)];exact h5.1};{intro j hj;rw[List.length_set]at hj;obtain⟨t0,t1,t2,t3,t4,t5⟩:=ht j hj;have t6:=cZ t5 hg (fun b e=>eU t5 hrow hint e);by_cases e:j=k;{subst e;rw[gQ (by omega),gQ hj];exact⟨rfl,rfl,rfl,rfl,rfl,t6⟩};rw[qy e,qy e];exact⟨t0,t1,t2,t3,t4,t6⟩};intro i j hij hj b;rw[List.length_set]at hj;rw[sH (by omega),sH (by omega)];exact hp i j hij hj b
theorem vL.list {W W':World}{n₀ k:Nat}{v:Value}{fs:List Ln}{vs:List Lv}{ys:List Int}(h:vL W n₀ v fs vs)(hk:k<fs.length)(hg:W.grownBy W' (lu vs k).ownBlock)(hos:OI W' n₀ (lu vs k) ys):vL W' n₀ v (fs.set k ⟨(fs.getD k .z).k,(fs.getD k .z).d,(fs.getD k .z).a,(fs.getD k .z).b,(fs.getD k .z).n,ys⟩) vs:=by obtain⟨hrow,hl,ht,hp⟩:=h;have hint:67≠2:=by{decide};refine⟨?_,by simp[hl],?_,?_⟩;{rw[List.length_set];exact cZ hrow hg (fun b e=>eU hrow (ht k hk).2.2.2.2.2 hint e)};{intro j hj;rw[List.length_set]at hj;obtain⟨t0,t1,t2,t3,t4,t5⟩:=ht j hj;by_cases e:j=k;{subst e;rw[gQ hj];exact⟨t0,t1,t2,t3,t4,hos⟩};rw[qy e];refine⟨t0,t1,t2,t3,t4,cZ t5 hg (fun b e1 e2=>?_)⟩;rcases Nat.lt_or_ge j k with hlt|hge;{exact hp j k hlt hk b e1 e2};exact hp k j (by omega) hj b e2 e1};intro i j hij hj b;rw[List.length_set]at hj;exact hp i j hij hj b
def Jy (vs:List Lv)(v:Value)(n:Nat)(w w':World):Prop:=∀b,b<w.heap.size->v.ownBlock≠some b->(∀j,j<n->(lu vs j).ownBlock≠some b)->w'.heap[b]?=w.heap[b]?
theorem kT {w w1 w2:World}{n₀:Nat}{r:Option Nat}(h:Below n₀ w w1)(hg:w1.grownBy w2 r)(hn:∀g,r=some g->n₀<=g)(hs:n₀<=w1.heap.size):Below n₀ w w2:=
 ⟨hg.os.trans h.os,hg.tape.trans h.tape,hg.output.trans h.output,Nat.le_trans h.size hg.size,fun k hk=>(hg.block k (by omega) (fun e=>by have:=hn k e.symm;omega)).trans (h.block k hk)⟩
theorem AO {W W':World}{n₀ e k n:Nat}{v:Value}{xs:List Value}(h:W.ownsRow n₀ e k v n xs)(hb:∀g,n₀<=g->g<W.heap.size->W'.heap[g]?=W.heap[g]?):W'.ownsRow n₀ e k v n xs:=by refine⟨h.1,?_⟩;rcases h.2 with h'|⟨g',cap',cur,h',h1,h2,r⟩;{exact .inl h'};exact .inr ⟨g',cap',cur,h',h1,(hb g' h1 (Array.getElem?_eq_some_iff.1 h2).1).trans h2,r⟩
theorem vL.same {W W':World}{n₀:Nat}{v:Value}{fs:List Ln}{vs:List Lv}(h:vL W n₀ v fs vs)(hb:∀g,n₀<=g->g<W.heap.size->W'.heap[g]?=W.heap[g]?):vL W' n₀ v fs vs:=
 ⟨AO h.1 hb,h.2.1,fun j hj=>by
   obtain⟨t0,t1,t2,t3,t4,t5⟩:=h.2.2.1 j hj
   exact⟨t0,t1,t2,t3,t4,AO t5 hb⟩,h.2.2.2⟩
theorem vL.mono {W:World}{n₀ n₁:Nat}{v:Value}{fs:List Ln}{vs:List Lv}(h:vL W n₁ v fs vs)(hn:n₀<=n₁):vL W n₀ v fs vs:=by refine⟨?_,h.2.1,h.2.2.1.mono hn,h.2.2.2⟩;refine⟨h.1.1,?_⟩;rcases h.1.2 with h'|⟨g',cap',cur,h',hb,r⟩;{exact .inl h'};exact .inr ⟨g',cap',cur,h',Nat.le_trans hn hb,r⟩
theorem vL.ll {W:World}{n₀ g n cap:Nat}{fs:List Ln}{vs:List Lv}(h:vL W n₀ (.slice (some ⟨g,0,none⟩) n cap) fs vs)(hn:fs.length=n):LL W (some ⟨g,0,none⟩) n fs:=by have h1:=h.1;have h3:=h.2.2.1;rw[hn]at h1 h3;exact xB h1 hn h3
section
open Go.ChangeShapes Go.WideShapes Go.ChangeAt Go.RowKit Go.Shelf Go.Deep
theorem Ap (a:Option Addr)(len cap:Nat)(fs:List Ln)(h20:len<=1048576)(hsm:yh len fs)(w:World)(hs:LL w a len fs):Calls Tryz.prog 22 #[.slice a len cap] w fun e w'=>∃g c vs,e= .returned (.slice (some ⟨g,0,none⟩) len c)/\vL w' w.heap.size (.slice (some ⟨g,0,none⟩) len c) fs vs/\Below w.heap.size w w':=by obtain⟨hl,hm,hrow⟩:=hs;have HL:Hid (fs.length=len):=hl;have KE:=ae hsm;clear hm hl hsm;obtain⟨i0,hi,hz0,hz1,hz2⟩:=info_parts mP;obtain⟨wm,hmk,hown,hgrow⟩:=run_make_full (P:=Tryz.prog) w w.heap.size 24 67 i0 _ 6 Tryz.underlying24 hi hz0 hz1 .i64 .i64 len (by rw[hz2];omega) (by simp only[maxLen];omega) (Nat.le_refl _);have hBm:Below w.heap.size w wm:=⟨hgrow.os,hgrow.tape,hgrow.output,hgrow.size,fun k hk=>hgrow.block k hk (by simp)⟩;have hown0:wm.ownsRow w.heap.size 67 6 (.slice (some ⟨w.heap.size,0,none⟩) len len) len (bV (List.replicate len dQ)):=by{rw[←ug];exact hown};clear hown hgrow;go_enter Tryz.func22,Tryz.ntmps22;go_wp2;go_loopw [4] (fun i wr=>∃(k:Nat)(vs:List Lv),i= .int .i64 k/\k<=len/\vs.length=len/\gy wr (w.heap.size+1) k vs fs/\(∀i j,i<j->j<k->∀g,(lu vs i).ownBlock=some g->(lu vs j).ownBlock≠some g)/\wr.ownsRow w.heap.size 67 6 (.slice (some ⟨w.heap.size,0,none⟩) len len) len (bV vs)/\Below w.heap.size w wr) (fun i _=>len-(intOf i).toNat);(case atStart=>exact⟨0,_,rfl,Nat.zero_le _,by simp,fun j hj=>by omega,fun i j h1 h2=>by omega,hown0,hBm⟩);case round=>obtain⟨k,vs,rfl,hk,hvl,hvs,hap,hown,hB⟩:=hrel;have HY:=ae (ak hvl hvs);have fD:=ae hap;clear hap hvl hvs hown0 hBm;by_cases hlt:k<len;{rcases hrow with h0|⟨b,off,rfl,hb,hx⟩;{omega};obtain⟨x0,x1,x2,x3,x4,ba,bl,bc,x5,hsl⟩:=hx k hlt;have hx0:=(hB.cell (p:=⟨b,off+k*6,none⟩) hb).trans x0;have hx1:=(hB.cell (p:=⟨b,off+k*6+1,none⟩) hb).trans x1;have hx2:=(hB.cell (p:=⟨b,off+k*6+2,none⟩) hb).trans x2;have hx3:=(hB.cell (p:=⟨b,off+k*6+3,none⟩) hb).trans x3;have hx4:=(hB.cell (p:=⟨b,off+k*6+4,none⟩) hb).trans x4;have hx5:=(hB.cell (p:=⟨b,off+k*6+5,none⟩) hb).trans x5;have DX:=KE.out k hlt;obtain⟨⟨p,d,aa,bb,n,bd⟩,hpq⟩:∃x,fs.getD k .z=x:=⟨_,rfl⟩;rw[hpq]at hx0 hx1 hx2 hx3 hx4 hsl DX;simp only at hx0 hx1 hx2 hx3 hx4 hsl DX;have HP:Hid (fs.getD k .z=⟨p,d,aa,bb,n,bd⟩):=hpq;have hcon:=wX p d aa bb n bd ba bl bc (by have:=hsl.1;omega) _ (hsl.kept hB);have abH:w.heap.size<wr.heap.size:=(World.ownsRow.lt hown _ rfl).2;clear hx hpq x0 x1 x2 x3 x4 x5 hsl DX;go_wp2_with fail;refine hcon.mono ?_;rintro e w1 ⟨gb,cb,rfl,hos,hB1⟩;dsimp only;clear hcon;have hB2:=hB.trans (hB1.mono hB.size);have hown1:=aI hown hB1;have DY:=hos.mono (n₀:=w.heap.size+1) (by omega);have HGB:Hid (wr.heap.size<=gb):=(World.ownsRow.lt hos gb rfl).1;obtain⟨hvl,hvs⟩:=HY.out;have J2:=hvs.kept hB1;obtain⟨g0,g1,g2,g3,g4,g5⟩:=eQ vs k (by omega);have hc0:=(World.ownsRow.cellAt hown1 (k*6) (by omega)).trans g0;have hc1:=(World.ownsRow.cellAt hown1 (k*6+1) (by omega)).trans g1;have hc2:=(World.ownsRow.cellAt hown1 (k*6+2) (by omega)).trans g2;have hc3:=(World.ownsRow.cellAt hown1 (k*6+3) (by omega)).trans g3;have hc4:=(World.ownsRow.cellAt hown1 (k*6+4) (by omega)).trans g4;have R7:=(World.ownsRow.cellAt hown1 (k*6+5) (by omega)).trans g5;obtain⟨⟨p',d',a',b',n',v'⟩,J3⟩:∃x,vs.getD k dQ=x:=⟨_,rfl⟩;rw[J3]at hc0 hc1 hc2 hc3 hc4 R7;simp only at hc0 hc1 hc2 hc3 hc4 R7;have hf0:=hown1.frozenAt (k*6);have hf1:=hown1.frozenAt (k*6+1);have hf2:=hown1.frozenAt (k*6+2);have hf3:=hown1.frozenAt (k*6+3);have hf4:=hown1.frozenAt (k*6+4);have hf5:=hown1.frozenAt (k*6+5);have iC:=hown1.stored (k*6) (.int .i64 p);have pF:=iC.1.stored (k*6+1) (.int .i64 d);have wN:=pF.1.stored (k*6+2) (.int .i64 aa);have wO:=wN.1.stored (k*6+3) (.int .i64 bb);have wP:=wO.1.stored (k*6+4) (.int .i64 n);have qN:=wP.1.stored (k*6+5) (.slice (some ⟨gb,0,none⟩) bl cb);have hgr:=(aO (aO (aO (aO (aO iC.2 pF.2) wN.2) wO.2) wP.2) qN.2);have UO:=J2.other hgr (by omega);have nN:OI _ (w.heap.size+1) (.slice (some ⟨gb,0,none⟩) bl cb) bd:=DY.bT hgr (fun g hgg=>by have:=(World.ownsRow.lt DY g hgg).1;omega);rw[←jN vs k (p,d,aa,bb,n,(.slice (some ⟨gb,0,none⟩) bl cb))]at qN;have HST:=ae (ak qN.1 (ak UO nN));clear hvl hvs J2 g0 g1 g2 g3 g4 g5 J3 iC pF wN wO wP qN hgr UO nN DY hos;have hB3:=((((((hB2.setCell (p:=⟨w.heap.size,k*6,none⟩) (Nat.le_refl _) (.int .i64 p)).setCell (p:=⟨w.heap.size,k*6+1,none⟩) (Nat.le_refl _) (.int .i64 d)).setCell (p:=⟨w.heap.size,k*6+2,none⟩) (Nat.le_refl _) (.int .i64 aa)).setCell (p:=⟨w.heap.size,k*6+3,none⟩) (Nat.le_refl _) (.int .i64 bb)).setCell (p:=⟨w.heap.size,k*6+4,none⟩) (Nat.le_refl _) (.int .i64 n)).setCell (p:=⟨w.heap.size,k*6+5,none⟩) (Nat.le_refl _) (.slice (some ⟨gb,0,none⟩) bl cb));go_wp2;go_roundw;(case rel=>obtain⟨hvl,hvs⟩:=HY.out;obtain⟨s1,s2,s3⟩:=HST.out;refine⟨k+1,vs.set k (p,d,aa,bb,n,(.slice (some ⟨gb,0,none⟩) bl cb)),by simp,by omega,by simp[hvl],fun j hj=>?_,fun i j h1 h2 g hi=>?_,s1,hB3⟩;rotate_left;{have e0:lu (vs.set k (p,d,aa,bb,n,(.slice (some ⟨gb,0,none⟩) bl cb))) i=lu vs i:=by{unfold lu;rw[ah,List.getElem?_set_ne (by omega),←ah]};rw[e0]at hi;by_cases e:j=k;{subst e;have e1:lu (vs.set j (p,d,aa,bb,n,(.slice (some ⟨gb,0,none⟩) bl cb))) j= .slice (some ⟨gb,0,none⟩) bl cb:=by{unfold lu;rw[ah,List.getElem?_set_self (by omega)];rfl};rw[e1];have h3:=(World.ownsRow.lt (hvs i (by omega)).2.2.2.2.2 g hi).2;have h4:=HGB.out;simp only[Value.ownBlock,ne_eq,af];omega};have e1:lu (vs.set k (p,d,aa,bb,n,(.slice (some ⟨gb,0,none⟩) bl cb))) j=lu vs j:=by{unfold lu;rw[ah,List.getElem?_set_ne (by omega),←ah]};rw[e1];exact fD.out i j h1 (by omega) g hi};by_cases e:j=k;{subst e;have e1:(vs.set j (p,d,aa,bb,n,(.slice (some ⟨gb,0,none⟩) bl cb))).getD j dQ=(p,d,aa,bb,n,(.slice (some ⟨gb,0,none⟩) bl cb)):=by{rw[ah,List.getElem?_set_self (by omega)];rfl};rw[e1,HP.out];exact⟨rfl,rfl,rfl,rfl,rfl,s3⟩};have e1:(vs.set k (p,d,aa,bb,n,(.slice (some ⟨gb,0,none⟩) bl cb))).getD j dQ=vs.getD j dQ:=by{rw[ah,List.getElem?_set_ne (by omega),←ah]};rw[e1];exact s2 j (by omega));case measure=>simp[intOf];omega};have hke:k=len:=by{omega};subst hke;clear hrow;go_wp2;go_ret;obtain⟨hvl,hvs⟩:=HY.out;refine⟨_,_,vs,rfl,⟨by rw[HL.out];exact hown,by rw[HL.out];exact hvl,by rw[HL.out];exact hvs.mono (by omega),by rw[HL.out];exact fD.out⟩,hB⟩
theorem uh (n₀:Nat)(v:Value)(xs:List Int)(k0:Int)(h0:1<=k0)(h1:k0<=2000000000000000000)(hn:xs.length<=2000000)(w:World)(hs:OI w n₀ v xs):Calls Tryz.prog 26 #[v, .int .i64 k0] w fun e w'=>e= .returned (.int .i64 (k0+(xs.length:Int)))/\OI w' n₀ v (qB k0 xs.length)/\w.grownBy w' v.ownBlock:=by obtain⟨a,cap,rfl,-⟩:=hs.slice;obtain⟨n,hln⟩:∃n,xs.length=n:=⟨_,rfl⟩;have hgg:w.grownBy w (Value.slice a n cap).ownBlock:=World.grownBy.refl _ _;unfold OI at hs ⊢;rw[C9];rw[hln]at hs hn ⊢;go_enter Tryz.func26,Tryz.ntmps26;go_wp2;go_loopw [1,5] (fun m i wr=>∃(k:Nat)(ys:List Int),m= .int .i64 (k0+(k:Int))/\i= .int .i64 k/\k<=n/\ys.length=n/\(∀j,j<k->ys.getD j 0=k0+(j:Int))/\wr.ownsRow n₀ 2 1 (.slice a n cap) n (ys.map iv)/\w.grownBy wr (Value.slice a n cap).ownBlock) (fun _ i _=>n-(intOf i).toNat);(case atStart=>exact⟨0,xs,by congr 1;omega,rfl,Nat.zero_le _,hln,by simp,hs,hgg⟩);case round=>obtain⟨k,ys,rfl,rfl,hk,hyl,hys,hown,hg⟩:=hrel;have HY:Hid (ys.length=n/\∀j,j<k->ys.getD j 0=k0+(j:Int)):=⟨hyl,hys⟩;clear hs hgg;by_cases hlt:k<n;{rcases hown.2 with⟨h',h0⟩|⟨g,cap',cur,h',_⟩;{omega};cases h';have hc0:=hown.cellAt k (by omega);rw[List.getElem?_map,ai (by omega)]at hc0;simp only[Option.map_some,iv]at hc0;obtain⟨p',hp'⟩:∃x,ys[k]=x:=⟨_,rfl⟩;rw[hp']at hc0;have hf0:=hown.frozenAt k;have iC:=hown.stored k (.int .i64 (k0+(k:Int)));rw[←dJ ys k]at iC;have HST:=ae iC.1;have HG:=ae (aO hg iC.2);clear hyl hys hp' iC hown hg;go_wp2;go_roundw;(case rel=>obtain⟨hyl,hys⟩:=HY.out;refine⟨k+1,ys.set k (k0+(k:Int)),by congr 1<;>omega,by simp,by omega,by simp[hyl],fun j hj=>?_,HST.out,HG.out⟩;by_cases e:j=k;{subst e;rw[ah,List.getElem?_set_self (by omega)];rfl};rw[←hys j (by omega),ah,List.getElem?_set_ne (by omega),←ah]);case measure=>simp[intOf];omega};have hke:k=n:=by{omega};subst hke;clear hyl hys;have HOW:=ae (ak hown hg);clear hown hg;go_wp2;go_ret;obtain⟨hyl,hys⟩:=HY.out;have e:ys=qB k0 k:=DF hyl hys;rw[←e];exact⟨rfl,HOW.out.1,HOW.out.2⟩
theorem DI {k0:Int}{fs:List Ln}(h:∀j,j<fs.length->(fs.getD j .z).l.length<=1048576):∀i,i<=fs.length->k0<=kL k0 fs i/\kL k0 fs i<=k0+1048581*i
 |0,_=>by simp[kL]
 | i+1,hi=>by
   have:=DI (k0:=k0) h i (by omega)
   have:=h i (by omega)
   simp only[kL]
   omega
theorem wo (n₀:Nat)(v:Value)(fs:List Ln)(vs:List Lv)(k0:Int)(hk0:1<=k0)(hk1:k0<=1500000000000000000)(h4:fs.length<=1048576)(h3:∀j,j<fs.length->(fs.getD j .z).l.length<=1048576)(w:World)(hn:n₀<=w.heap.size)(hs:vL w n₀ v fs vs):Calls Tryz.prog 25 #[v, .int .i64 k0] w fun e w'=>e= .returned (.int .i64 (kL k0 fs fs.length))/\(∃vs',vL w' n₀ v (RA k0 fs) vs'/\∀j,lu vs' j=lu vs j)/\Below n₀ w w'/\Jy vs v fs.length w w':=by obtain⟨a,cap,rfl⟩:=dw hs.1;have hBr:=Below.refl n₀ w;go_enter Tryz.func25,Tryz.ntmps25;go_wp2;go_loopw [1,5] (fun m i wr=>∃(k:Nat)(gs:List Ln)(us:List Lv),m= .int .i64 (kL k0 fs k)/\i= .int .i64 k/\k<=fs.length/\gs.length=fs.length/\(∀j,j<k->gs.getD j .z=ET k0 fs j)/\(∀j,k<=j->gs.getD j .z=fs.getD j .z)/\vL wr n₀ (.slice a fs.length cap) gs us/\Below n₀ w wr/\n₀<=wr.heap.size/\(∀j,lu us j=lu vs j)/\Jy vs (.slice a fs.length cap) fs.length w wr) (fun _ i _=>fs.length-(intOf i).toNat);(case atStart=>exact⟨0,fs,vs,rfl,rfl,Nat.zero_le _,rfl,fun j hj=>by omega,fun j _=>rfl,hs,hBr,hn,fun _=>rfl,fun _ _ _ _=>rfl⟩);case round=>clear hs hBr;obtain⟨k,gs,us,rfl,rfl,hk,hgl,hg1,hg2,E5,hB,hsz,XR,hAb⟩:=hrel;have XT:=ae (ak XR hAb);clear XR hAb;have hbd:=DI (k0:=k0) h3 k hk;by_cases hlt:k<fs.length;{have hst:=E5;obtain⟨hrow,MX,hte,hpw⟩:=hst;rw[hgl]at hrow MX hte;rcases hrow.2 with⟨h',h0⟩|⟨g,cap',cur,h',hge,_,_,_,_,_⟩;{omega};cases h';obtain⟨e0,e1,e2,e3,e4,e5⟩:=eQ us k (by omega);have c0:=(hrow.cellAt (k*6) (by omega)).trans e0;have c1:=(hrow.cellAt (k*6+1) (by omega)).trans e1;have c2:=(hrow.cellAt (k*6+2) (by omega)).trans e2;have c3:=(hrow.cellAt (k*6+3) (by omega)).trans e3;have c4:=(hrow.cellAt (k*6+4) (by omega)).trans e4;have c5:=(hrow.cellAt (k*6+5) (by omega)).trans e5;have z0:=hrow.frozenAt (k*6);have z1:=hrow.frozenAt (k*6+1);have z2:=hrow.frozenAt (k*6+2);have z3:=hrow.frozenAt (k*6+3);have z4:=hrow.frozenAt (k*6+4);have hbl:(gs.getD k .z).l.length=(fs.getD k .z).l.length:=by{rw[hg2 k (Nat.le_refl _)]};have hb3:=h3 k hlt;have hol:=(hte k hlt).2.2.2.2.2;obtain⟨ua,uc,hue,-⟩:=hol.slice;obtain⟨⟨x',y',q',r',s',u'⟩,hxu⟩:∃x,us.getD k dQ=x:=⟨_,rfl⟩;have hlk:lu us k=u':=by{unfold lu;rw[hxu]};rw[hxu]at c0 c1 c2 c3 c4 c5 hue hol;simp only at c0 c1 c2 c3 c4 c5 hue hol;rw[hbl]at hue;subst hue;have zU:=vL.ints (g:=g) (cap:=cap) (k:=k) (fs:=gs) (vs:=us) (W:=wr) (n₀:=n₀) (by rw[hgl];exact E5) (by omega) (kL k0 fs k) (kL k0 fs k+1) (kL k0 fs k+1+1) (kL k0 fs k+1+1+1) (kL k0 fs k+1+1+1+1);obtain⟨zU,iD⟩:=zU;rw[hgl]at zU;have MZ:=(zU.2.2.1 k (by rw[List.length_set];omega)).2.2.2.2.2;rw[gQ (by omega),gQ (by omega),hlk]at MZ;simp only at MZ;have hcon:=uh n₀ _ (gs.getD k .z).l (kL k0 fs k+1+1+1+1+1) (by omega) (by omega) (by omega) _ MZ;rw[hbl]at hcon;have HG:=ae (ak hgl (ak hg1 hg2));have aeB:=ae (ak zU iD);have HXU:=ae (ak hlk (ak MX hol));obtain⟨K,hK⟩:∃K,kL k0 fs k=K:=⟨_,rfl⟩;obtain⟨B,M0⟩:∃B,(fs.getD k .z).l.length=B:=⟨_,rfl⟩;have ZN:=ae (ak hK M0);rw[hK]at hbd hcon;rw[M0]at hcon c5 hb3;rw[hK];clear E5 zU iD hrow hte hpw MZ hxu MX hgl hg1 hg2 e0 e1 e2 e3 e4 e5 hK M0 hbl hol hlk;go_wp2_with fail;refine hcon.mono ?_;rintro x w3 ⟨rfl,aeC,hg3⟩;clear hcon;go_wp2;go_roundw;(case rel=>obtain⟨hgl,hg1,hg2⟩:=HG.out;obtain⟨zU,iD⟩:=aeB.out;obtain⟨hlk,MX,hol⟩:=HXU.out;obtain⟨hK,M0⟩:=ZN.out;rw[hK]at zU iD;have hlk2:lu (us.set k (K,K+1,K+1+1,K+1+1+1,K+1+1+1+1,lu us k)) k= .slice ua B uc:=by{rw[sH (by omega),hlk,M0]};have XU:=zU.list (k:=k) (ys:=qB (K+1+1+1+1+1) B) (by rw[List.length_set];omega) (by rw[hlk2];exact hg3) (by rw[hlk2];exact aeC);rw[gQ (by omega),List.set_set]at XU;refine⟨k+1,_,_,?_,by simp,by omega,?_,?_,?_,XU,?_,?_,?_,?_⟩;{simp only[kL,hK,M0];congr 1;omega};{simp[hgl]};{intro j hj;by_cases e:j=k;{subst e;rw[gQ (by omega),ET,hK,M0]};rw[qy e];exact hg1 j (by omega)};{intro j hj;rw[qy (by omega)];exact hg2 j (by omega)};{refine kT (kT hB iD (fun b e=>by cases e;exact hge) hsz) hg3 (fun b e=>?_) (Nat.le_trans hsz iD.size);rw[←M0]at e;exact(bX hol e).1};{exact Nat.le_trans hsz (Nat.le_trans iD.size hg3.size)};{intro j;rw[sH (by omega)];exact XT.out.1 j};intro b hb h1 h2;have e1:=XT.out.2 b hb h1 h2;have hb1:b<wr.heap.size:=aj hb hB.size;refine(hg3.block b (aj hb1 iD.size) (fun e=>h2 k hlt ?_)).trans ((iD.block b hb1 (fun e=>h1 e.symm)).trans e1);rw[←XT.out.1 k,hlk,M0];exact e.symm);case measure=>simp[intOf];omega};have hke:k=fs.length:=by{omega};subst hke;have e:gs=RA k0 fs:=by{apply List.ext_getElem;{rw[hgl,Mk]};intro j h1 h2;have:=(hg1 j (by omega)).trans (Li (k0:=k0) (fs:=fs) (by omega)).symm;simpa[ah,ai h1,ai h2]using this};have HOM:=ae E5;clear E5 hg1 hg2;go_wp2;go_ret;exact⟨rfl,⟨us,by rw[←e];exact HOM.out,XT.out.1⟩,hB,XT.out.2⟩
end
theorem OG.Nt {W W':World}{n₀ g n c:Nat}{xs:List Int}(h:OG W n₀ g n c xs)(hb:W'.heap[g]?=W.heap[g]?):OG W' n₀ g n c xs:=by refine⟨h.1,h.2.1,?_⟩;rcases h.2.2 with h'|⟨g',cap',cur,h',h1,h2,r⟩;{exact .inl h'};cases h';exact .inr ⟨_,_,cur,rfl,h1,hb.trans h2,r⟩
section
open Go.RowKit

def Bytes (w:World)(a:Option Addr)(len:Nat)(zs:List Int):Prop:=
 len<=maxLen/\(len=0\/∃b off,a=some ⟨b,off,none⟩/\b<w.heap.size/\(∀j,j<len->w.cell? ⟨b,off+j,none⟩=some (.int .u8 (zs.getD j 0)))/\∀j,0<=zs.getD j 0/\zs.getD j 0<=255)

def ib (w:World)(B:Nat)(a:Option Addr)(len cap:Nat)(zs:List Int):Prop:=
 B<w.heap.size/\(len=0\/∀x,a=some x->x.block<B)/\Bytes w a len zs/\
 w.cell? ⟨B,0,none⟩=some (.slice a len cap)/\
 w.frozen? ⟨B,1,none⟩=false/\w.frozen? ⟨B,2,none⟩=false/\
 (∃i:Nat,i<=len/\w.cell? ⟨B,1,none⟩=some (.int .i64 i))/\
 ∃h:Int,w.cell? ⟨B,2,none⟩=some (.int .i64 h)

theorem mf (W:World)(p:Addr)(v:Value):W.grownBy (W.setCell p v) (some p.block):=
 ⟨rfl,rfl,rfl,by simp[World.setCell],fun i _ hne=>Below.heap_setCell _ _ _ _ (fun e=>hne (by rw[e]))⟩
theorem vS (W:World)(n:Nat)(row:Option Nat):W.grownBy (W.drewN n) row:=⟨rfl,rfl,rfl,Nat.le_refl _,fun _ _ _=>rfl⟩
theorem dY {a b c:World}{row:Option Nat}(h:a.grownBy b row)(k:b.grownBy c row):a.grownBy c row:=
 ⟨k.os.trans h.os,k.tape.trans h.tape,k.output.trans h.output,Nat.le_trans h.size k.size,fun i hi hn=>(k.block i (aj hi h.size) hn).trans (h.block i hi hn)⟩
theorem Bytes.kept {w w':World}{a:Option Addr}{len:Nat}{zs:List Int}(h:Bytes w a len zs){row:Option Nat}(hg:w.grownBy w' row)(hr:len=0\/∀x,a=some x->some x.block≠row):Bytes w' a len zs:=by obtain⟨hl,h0|⟨b,off,rfl,hb,hcell,hz⟩⟩:=h;{exact⟨hl, .inl h0⟩};rcases hr with hr|hr;{exact⟨hl, .inl hr⟩};refine⟨hl, .inr ⟨b,off,rfl,aj hb hg.size,fun j hj=>?_,hz⟩⟩;exact(World.grownBy.cell_far hg ⟨b,off+j,none⟩ hb (hr ⟨b,off,none⟩ rfl)).trans (hcell j hj)
theorem ib.step {w w':World}{B:Nat}{a:Option Addr}{len cap:Nat}{zs:List Int}(hc:ib w B a len cap zs)(hg:w.grownBy w' (some B))(h0:w'.cell? ⟨B,0,none⟩=w.cell? ⟨B,0,none⟩)(hf:∀o,w'.frozen? ⟨B,o,none⟩=w.frozen? ⟨B,o,none⟩)(i:Nat)(hi:i<=len)(h1:w'.cell? ⟨B,1,none⟩=some (.int .i64 i))(h:Int)(h2:w'.cell? ⟨B,2,none⟩=some (.int .i64 h)):ib w' B a len cap zs:=by obtain⟨hB,hab,hrow,hc0,hf1,hf2,_,_⟩:=hc;exact⟨aj hB hg.size,hab,hrow.kept hg (hab.imp_right fun hab x e h=>by have:=hab x e;simp only[af]at h;omega),h0.trans hc0,(hf 1).trans hf1,(hf 2).trans hf2,⟨i,hi,h1⟩,h,h2⟩
theorem ib.kept {w w':World}{B:Nat}{a:Option Addr}{len cap:Nat}{zs:List Int}(hc:ib w B a len cap zs){row:Option Nat}(hg:w.grownBy w' row)(hr:some B≠row)(hr2:len=0\/∀x,a=some x->some x.block≠row):ib w' B a len cap zs:=by obtain⟨hB,hab,hrow,hc0,hf1,hf2,⟨i,hi,h1⟩,h,h2⟩:=hc;have c:∀o,w'.cell? ⟨B,o,none⟩=w.cell? ⟨B,o,none⟩:=fun o=>World.grownBy.cell_far hg _ hB hr;have f:∀o,w'.frozen? ⟨B,o,none⟩=w.frozen? ⟨B,o,none⟩:=fun o=>World.grownBy.frozen_far hg _ hB hr;exact⟨aj hB hg.size,hab,hrow.kept hg hr2,(c 0).trans hc0,(f 1).trans hf1,(f 2).trans hf2,⟨i,hi,(c 1).trans h1⟩,h,(c 2).trans h2⟩
theorem ib.one {w:World}{B:Nat}{a:Option Addr}{len cap:Nat}{zs:List Int}(hc:ib w B a len cap zs)(v:Int)(n:Nat):ib ((w.setCell ⟨B,2,none⟩ (.int .i64 v)).drewN n) B a len cap zs/\w.grownBy ((w.setCell ⟨B,2,none⟩ (.int .i64 v)).drewN n) (some B):=by have hg:w.grownBy ((w.setCell ⟨B,2,none⟩ (.int .i64 v)).drewN n) (some B):=dY (mf w ⟨B,2,none⟩ _) (vS _ _ _);refine⟨?_,hg⟩;have hc':=hc;obtain⟨hB,hab,hrow,hc0,hf1,hf2,⟨i,hi,hc1⟩,h,hc2⟩:=hc';exact hc.step hg (by go_simp) (fun o=>by go_simp) i hi (by go_simp) v (by go_simp)
theorem ib.two {w:World}{B:Nat}{a:Option Addr}{len cap:Nat}{zs:List Int}(hc:ib w B a len cap zs)(v:Int)(n:Nat)(j:Nat)(hj:j+1<=len):ib (((w.setCell ⟨B,2,none⟩ (.int .i64 v)).drewN n).setCell ⟨B,1,none⟩ (.int .i64 (j+1))) B a len cap zs/\w.grownBy (((w.setCell ⟨B,2,none⟩ (.int .i64 v)).drewN n).setCell ⟨B,1,none⟩ (.int .i64 (j+1))) (some B):=by obtain⟨hc',hg⟩:=hc.one v n;have hg2:w.grownBy (((w.setCell ⟨B,2,none⟩ (.int .i64 v)).drewN n).setCell ⟨B,1,none⟩ (.int .i64 (j+1))) (some B):=dY hg (mf _ ⟨B,1,none⟩ _);refine⟨?_,hg2⟩;have hc2:=hc;obtain⟨hB,hab,hrow,hc0,hf1,hf2,⟨i,hi,hc1⟩,h,hc3⟩:=hc2;exact hc.step hg2 (by go_simp) (fun o=>by go_simp) (j+1) hj (by go_simp) v (by go_simp)
theorem ib.new {w:World}{a:Option Addr}{len:Nat}(cap:Nat){zs:List Int}(hb:Bytes w a len zs)(v:Int)(t:TypeId):
   ib (w.alloc (.cells #[.slice a len cap, .int .i64 0, .int .i64 v] t)) w.heap.size a len cap zs:=
 ⟨by simp,hb.2.imp_right (fun⟨b,off,e,hlt,_⟩ x h=>by rw[e]at h;cases h;exact hlt),hb.kept (World.grownBy_alloc w _ none) (.inr (by simp)),by go_simp,by go_simp,by go_simp,⟨0,Nat.zero_le _,by go_simp⟩,v,by go_simp⟩
theorem Du (B:Nat)(a:Option Addr)(len cap:Nat)(zs:List Int)(w:World)(hc:ib w B a len cap zs):Calls Tryz.prog 70 #[.pointer (some ⟨B,0,none⟩)] w fun e w'=>∃x:Int,e= .returned (.int .i64 x)/\0<=x/\x<=255/\ib w' B a len cap zs/\w.grownBy w' (some B):=by have HC:Hid (ib w B a len cap zs):=hc;obtain⟨hB,hab,⟨hlen,hrow⟩,hc0,hf1,hf2,⟨i,hi,hc1⟩,h,hc2⟩:=hc;unfold maxLen at hlen;by_cases hlt:i<len;{rcases hrow with rfl|⟨b,off,rfl,hb,hcell,hz⟩;{omega};have hcj:=hcell i hlt;have hne:b<B:=hab.elim (fun h=>by omega) fun h=>h _ rfl;have hz1:=(hz i).1;have hz2:=(hz i).2;have bN:(i:Int)<(len:Int):=by{omega};clear hcell hz hab;go_enter Tryz.func70,Tryz.ntmps70;go_wp2;go_quiet (fail);go_wp2;go_quiet (fail);go_wp2;go_quiet (fail);go_wp2;go_ret;exact⟨_,rfl,(Wd.jk _).1,(Wd.jk _).2,HC.out.two _ _ i (by omega)⟩};have bN:¬(i:Int)<(len:Int):=by{omega};go_enter Tryz.func70,Tryz.ntmps70;go_wp2;go_quiet (fail);go_wp2;go_quiet (fail);go_wp2;go_ret;exact⟨_,rfl,(Wd.jk _).1,(Wd.jk _).2,by rw[World.drewN_drewN];exact HC.out.one _ _⟩
end
end Go.Proofs.YtpipjiinmhopmaaGreat
