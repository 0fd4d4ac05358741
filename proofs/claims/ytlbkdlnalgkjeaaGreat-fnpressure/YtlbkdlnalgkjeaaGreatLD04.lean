/-
  Own texts for a law: Gen1 QTail Phi Mod7 Nest6 Nest3 Nest4 SlOf LikeI Arr0 Mem1
-/
import Derived.Test.YtlbkdlnalgkjeaaGreatLD02
import Derived.Test.YtlbkdlnalgkjeaaGreatLD03
import Derived.StillTail
import Derived.OpenShut
import Derived.Deep.SlicePairs
import Derived.Deep.WholeRow
import Derived.Stop.BytesEq
import Derived.Laws.CopyOwn
import Derived.Laws.ResultCell
namespace Go.Proofs.YtlbkdlnalgkjeaaGreat
open Go.RowKit Go.Shelf
set_option linter.all false
set_option maxRecDepth 100000
set_option maxHeartbeats 16000000
section
structure KB (N B:Nat)(W W':World):Prop where
 os:W'.os=W.os
 tape:W'.tape=W.tape
 output:W'.output=W.output
 size:W.heap.size<=W'.heap.size
 block:∀k,k<N->k≠B->W'.heap[k]?=W.heap[k]?
theorem KB.refl (N B:Nat)(W:World):KB N B W W:=⟨rfl,rfl,rfl,Nat.le_refl _,fun _ _ _=>rfl⟩
theorem KB.trans {N B:Nat}{U V W:World}(h:KB N B U V)(k:KB N B V W):KB N B U W:=
 ⟨k.os.trans h.os,k.tape.trans h.tape,k.output.trans h.output,Nat.le_trans h.size k.size,fun i h1 h2=>(k.block i h1 h2).trans (h.block i h1 h2)⟩
theorem KB.grown {N B:Nat}{W W':World}{row:Option Nat}(hg:W.grownBy W' row)(hN:N<=W.heap.size)(h:∀k,row=some k->k=B\/N<=k):KB N B W W':=
 ⟨hg.os,hg.tape,hg.output,hg.size,fun i h1 h2=>hg.block i (by omega) (fun e=>by have:=h i e.symm;omega)⟩
theorem KB.below {N B:Nat}{W W':World}(hB:Below W.heap.size W W')(hN:N<=W.heap.size):KB N B W W':=
 ⟨hB.os,hB.tape,hB.output,hB.size,fun i h1 h2=>hB.block i (by omega)⟩
theorem KB.mono {N M B:Nat}{W W':World}(h:KB N B W W')(hM:M<=N):KB M B W W':=
 ⟨h.os,h.tape,h.output,h.size,fun i h1 h2=>h.block i (by omega) h2⟩
def Ty (W:World)(b:Nat)(t:TypeId):Prop:=∃cs fr,W.heap[b]?=some (.cells cs t fr)
theorem Ty.of {W W':World}{b:Nat}{t:TypeId}(h:Ty W b t)(e:W'.heap[b]?=W.heap[b]?):Ty W' b t:=by obtain⟨cs,fr,h⟩:=h;exact⟨cs,fr,e.trans h⟩
theorem Ty.lt {W:World}{b:Nat}{t:TypeId}(h:Ty W b t):b<W.heap.size:=by obtain⟨cs,fr,h⟩:=h;rcases Nat.lt_or_ge b W.heap.size with k|k;{exact k};rw[Array.getElem?_eq_none (by omega)]at h;cases h
theorem Ty.ne {W:World}{b d:Nat}{t u:TypeId}(h:Ty W b t)(k:Ty W d u)(hne:t≠u):b≠d:=by rintro rfl;obtain⟨cs,fr,h⟩:=h;obtain⟨cs',fr',k⟩:=k;rw[h]at k;simp only[af,Obj.cells.injEq]at k;exact hne k.2.1
theorem Ty.set {W:World}{b:Nat}{t:TypeId}(h:Ty W b t)(p:Addr)(x:Value):Ty (W.setCell p x) b t:=by by_cases e:b=p.block;{obtain⟨cs,fr,h⟩:=h;subst e;unfold Ty;simp[World.setCell,Array.getElem?_modify,h]};exact h.of (Below.heap_setCell _ _ _ _ e)
theorem Ty.row {W:World}{n₀ e k n g c:Nat}{xs:List Value}(h:W.ownsRow n₀ e k (.slice (some ⟨g,0,none⟩) n c) n xs):Ty W g e:=by rcases h.2 with⟨h',_⟩|⟨g',c',cur,h',_,hb,_⟩;{cases h'};cases h';exact⟨_,_,hb⟩
theorem BH {W W':World}{n₀ e k n b:Nat}{v:Value}{xs:List Value}(h:W.ownsRow n₀ e k v n xs)(hg:W.grownBy W' (some b))(hb:b<n₀):W'.ownsRow n₀ e k v n xs:=by refine World.ownsRow.kept h hg ?_;rcases hv:v.ownBlock with _|g;{exact .inl rfl};refine .inr ?_;have:=(h.lt g hv).1;simp only[ne_eq,af];omega
theorem xQ {W W':World}{n₀ e k n b:Nat}{v:Value}{xs:List Value}(h:W.ownsRow n₀ e k v n xs)(hg:W.grownBy W' (some b))(hb:∀g,v.ownBlock=some g->g≠b):W'.ownsRow n₀ e k v n xs:=by refine World.ownsRow.kept h hg ?_;rcases hv:v.ownBlock with _|g;{exact .inl rfl};refine .inr ?_;have:=hb g hv;simp only[ne_eq,af];omega
def rP (W:World)(N G nl:Nat)(u:Value):Prop:=
 ∃lb off lc,u= .slice (some ⟨lb,off,none⟩) nl lc/\N<=lb/\lb≠G/\nl<=lc/\lc<=maxLen/\Ty W lb 2/\∀j,j<nl->∃x:Int,W.cell? ⟨lb,off+j,none⟩=some (.int .i64 x)
theorem rP.of {W W':World}{N G nl:Nat}{u:Value}(h:rP W N G nl u)(hk:∀b,N<=b->Ty W b 2->W'.heap[b]?=W.heap[b]?):rP W' N G nl u:=by obtain⟨lb,off,lc,rfl,h1,h2,h3,h4,h5,h6⟩:=h;have e:=hk lb h1 h5;exact⟨lb,off,lc,rfl,h1,h2,h3,h4,h5.of e,fun j hj=>let⟨x,hx⟩:=h6 j hj;⟨x,(World.cell?_of_block e).trans hx⟩⟩
structure GC where
 N:Nat
 G:Nat
 B:Nat
 a:Option Addr
 len:Nat
 cap:Nat
 zs:List Int
 L:Int
 F:Nat
 nf:Nat
 fc:Nat
 gv:Int
def GC.dV (c:GC)(v u:Value):List Value:=
 [.pointer (some ⟨c.B,0,none⟩),v, .int .i64 c.L, .slice (some ⟨c.F,0,none⟩) c.nf c.fc,u, .int .i64 c.gv]
structure GS (c:GC)(n:Nat)(v:Value)(nl:Nat)(u:Value)(W:World):Prop where
 cur:fZ W c.B c.a c.len c.cap c.zs
 ix:c.B<c.N/\c.N<=c.G/\c.F<c.N/\c.F≠c.B
 box:aU W c.G (c.dV v u)
 ty:Ty W c.G 108
 row:∃l,W.ownsRow c.N 111 2 v n (encS l)
 dN:rP W c.N c.G nl u
 fn:∀j,j<c.nf->∃p q:Int,0<=p/\p<=3/\W.cell? ⟨c.F,j*4,none⟩=some (.int .i64 p)/\W.cell? ⟨c.F,j*4+2,none⟩=some (.int .i64 q)
 nf:0<c.nf/\c.nf<=3/\c.nf<=c.fc
 nl:0<nl
variable {c : GC} {n nl : Nat} {v u : Value} {W W' : World}
theorem GS.size (h:GS c n v nl u W):c.N<=W.heap.size:=by have:=h.ix;have:=h.box.1;omega
theorem GS.of (h:GS c n v nl u W)(kJ:fZ W' c.B c.a c.len c.cap c.zs){b:Nat}(hg:W.grownBy W' (some b))(h1:b≠c.G)(h2:b≠c.F)(h3:b<c.N):GS c n v nl u W':=by obtain⟨l,hl⟩:=h.row;have ix:=h.ix;have hs:=h.size;have hbl:∀k,k<W.heap.size->k≠b->W'.heap[k]?=W.heap[k]?:=fun k hk hne=>hg.block k hk (by simpa using hne);refine⟨kJ,ix,h.box.dB hg (by simpa using h1),h.ty.of (hbl _ h.ty.lt (Ne.symm h1)),⟨l,BH hl hg h3⟩,h.dN.of (fun d hd ht=>hbl d ht.lt (by omega)),fun j hj=>?_,h.nf,h.nl⟩;obtain⟨p,q,h4,h5,h6,h7⟩:=h.fn j hj;have e:=hbl c.F (by omega) (Ne.symm h2);exact⟨p,q,h4,h5,(World.cell?_of_block e).trans h6,(World.cell?_of_block e).trans h7⟩
theorem GS.drawn (h:GS c n v nl u W)(hd:aN W W' c.B c.a c.len c.cap c.zs):GS c n v nl u W'/\KB c.N c.B W W':=by have ix:=h.ix;exact⟨h.of hd.1 hd.2 (by omega) (by omega) (by omega),KB.grown hd.2 h.size (fun k e=> .inl (by simpa using e.symm))⟩
theorem GS.kept (h:GS c n v nl u W)(hB:Below W.heap.size W W'):GS c n v nl u W':=by obtain⟨l,hl⟩:=h.row;have ix:=h.ix;have hs:=h.size;refine⟨h.cur.kept (row:=none) ⟨hB.os,hB.tape,hB.output,hB.size,fun k hk _=>hB.block k hk⟩ (by simp) (.inr (by simp)),ix,h.box.kept hB,h.ty.of (hB.block _ h.ty.lt),⟨l,aH hl hB⟩,h.dN.of (fun d hd ht=>hB.block d ht.lt),fun j hj=>?_,h.nf,h.nl⟩;obtain⟨p,q,h4,h5,h6,h7⟩:=h.fn j hj;have e:=hB.block c.F (by omega);exact⟨p,q,h4,h5,(World.cell?_of_block e).trans h6,(World.cell?_of_block e).trans h7⟩
theorem GS.app {W1:World}{v':Value}{n':Nat}{l:List (Int×Int)}(h:GS c n v nl u W)(hg:W.grownBy W1 v.ownBlock)(hrow:W1.ownsRow c.N 111 2 v' n' (encS l)):GS c n' v' nl u (W1.setCell ⟨c.G,1,none⟩ v')/\KB c.N c.B W (W1.setCell ⟨c.G,1,none⟩ v'):=by
 obtain⟨l0,hl⟩:=h.row
 have ix:=h.ix
 have hs:=h.size
 have hown:∀g,v.ownBlock=some g->c.N<=g/\Ty W g 111:=fun g e=>by refine⟨(hl.lt g e).1,?_⟩;rcases hl.2 with⟨rfl,_⟩|⟨g',c',cur,rfl,_,hb,_⟩;{cases e};cases e;exact⟨_,_,hb⟩
 have hbl:∀k,k<W.heap.size->(c.N<=k->¬Ty W k 111)->W1.heap[k]?=W.heap[k]?:=fun k hk hne=>hg.block k hk (fun e=>by
  obtain⟨a1,a2⟩:=hown k e.symm
  exact hne a1 a2)
 have hnt:∀k t,Ty W k t->t≠111->W1.heap[k]?=W.heap[k]?:=fun k t ht hne=>hbl k ht.lt (fun _ h2=>ht.ne h2 hne rfl)
 have hG:=hnt _ _ h.ty (by decide)
 have J2:aU W1 c.G (c.dV v u):=by refine h.box.dB hg (fun e=>?_);exact(h.ty.ne (hown _ e).2 (by decide)) rfl
 have J3:=h.ty.of hG
 have hset:=aL W1 ⟨c.G,1,none⟩ v'
 have hlo:∀k,k<c.N->(W1.setCell ⟨c.G,1,none⟩ v').heap[k]?=W.heap[k]?:=fun k hk=>(Below.heap_setCell _ _ _ _ (by simp only;omega)).trans (hbl k (by omega) (fun h'=>by omega))
 have hsz:W.heap.size<=(W1.setCell ⟨c.G,1,none⟩ v').heap.size:=Nat.le_trans hg.size hset.size
 refine⟨⟨?_,ix,J2.set 1 v',J3.set _ _,⟨l,xQ hrow hset (fun g e=>?_)⟩,?_,fun j hj=>?_,h.nf,h.nl⟩,⟨hset.os.trans hg.os,hset.tape.trans hg.tape,hset.output.trans hg.output,hsz,fun k hk _=>hlo k hk⟩⟩
 · have c1:=h.cur.kept (w':=W1) hg (fun e=>by have:=(hown _ e.symm).1;omega) (h.cur.2.1.imp_right fun hx x e e'=>by have:=hx x e;have:=(hown _ e'.symm).1;omega);exact c1.kept hset (by simp only[ne_eq,af];omega) (h.cur.2.1.imp_right fun hx x e e'=>by have:=hx x e;simp only[af]at e';omega)
 · rcases hrow.2 with⟨rfl,_⟩|⟨g',c',cur,rfl,_,hb,_⟩;{cases e};cases e;exact Ty.ne ⟨_,_,hb⟩ J3 (by decide)
 · have l1:rP W1 c.N c.G nl u:=h.dN.of (fun d hd ht=>hnt d _ ht (by decide));obtain⟨lb,off,lc,rfl,h1,h2,h3,h4,h5,h6⟩:=l1;have e:(W1.setCell ⟨c.G,1,none⟩ v').heap[lb]?=W1.heap[lb]?:=Below.heap_setCell _ _ _ _ h2;exact⟨lb,off,lc,rfl,h1,h2,h3,h4,h5.of e,fun j hj=>let⟨x,hx⟩:=h6 j hj;⟨x,(World.cell?_of_block e).trans hx⟩⟩
 · obtain⟨p,q,h4,h5,h6,h7⟩:=h.fn j hj;have e:=hlo c.F (by omega);exact⟨p,q,h4,h5,(World.cell?_of_block e).trans h6,(World.cell?_of_block e).trans h7⟩
theorem GS.xC {nl':Nat}{u':Value}(h:GS c n v nl u W)(hl:rP W c.N c.G nl' u')(h0:0<nl'):GS c n v nl' u' (W.setCell ⟨c.G,4,none⟩ u')/\KB c.N c.B W (W.setCell ⟨c.G,4,none⟩ u'):=by obtain⟨l,hr⟩:=h.row;have ix:=h.ix;have hs:=h.size;have hset:=aL W ⟨c.G,4,none⟩ u';refine⟨⟨h.cur.kept hset (by simp only[ne_eq,af];omega) (h.cur.2.1.imp_right fun hx x e e'=>by have:=hx x e;simp only[af]at e';omega),ix,h.box.set 4 u',h.ty.set _ _,⟨l,xQ hr hset (fun g e=>?_)⟩,?_,fun j hj=>?_,h.nf,h0⟩,KB.grown hset hs (fun k e=> .inr (by simp only[af]at e;omega))⟩;{rcases hr.2 with⟨rfl,_⟩|⟨g',c',cur,rfl,_,hb,_⟩;{cases e};cases e;exact Ty.ne ⟨_,_,hb⟩ h.ty (by decide)};{obtain⟨lb,off,lc,rfl,h1,h2,h3,h4,h5,h6⟩:=hl;have e:(W.setCell ⟨c.G,4,none⟩ (.slice (some ⟨lb,off,none⟩) nl' lc)).heap[lb]?=W.heap[lb]?:=Below.heap_setCell _ _ _ _ h2;exact⟨lb,off,lc,rfl,h1,h2,h3,h4,h5.of e,fun j hj=>let⟨x,hx⟩:=h6 j hj;⟨x,(World.cell?_of_block e).trans hx⟩⟩};obtain⟨p,q,h4,h5,h6,h7⟩:=h.fn j hj;have e:(W.setCell ⟨c.G,4,none⟩ u').heap[c.F]?=W.heap[c.F]?:=Below.heap_setCell _ _ _ _ (by simp only;omega);exact⟨p,q,h4,h5,(World.cell?_of_block e).trans h6,(World.cell?_of_block e).trans h7⟩
theorem GS.slice (h:GS c n v nl u W):∃ad cv,v= .slice ad n cv:=by obtain⟨l,hl⟩:=h.row;rcases hl.2 with⟨rfl,h0⟩|⟨g,cv,cur,rfl,_⟩;{exact⟨none,0,by rw[h0]⟩};exact⟨_,cv,rfl⟩
theorem dA (h:GS c n v nl u W)(x:Int):
   Calls Tryz.prog 27 #[.pointer (some ⟨c.B,0,none⟩), .int .i64 x] W fun e w'=>∃y:Int,e= .returned (.int .i64 y)/\0<=y/\y<=4294967295/\(y<x\/x<=0)/\GS c n v nl u w'/\KB c.N c.B W w':=
 (aF c.B c.a c.len c.cap c.zs x W h.cur).mono fun e w' ⟨y,h1,h2,h3,h4,hd⟩=>⟨y,h1,h2,h3,h4,h.drawn hd⟩
theorem fD (h:GS c n v nl u W)(x:Int):
   Calls Tryz.prog 50 #[.pointer (some ⟨c.B,0,none⟩), .int .i64 x] W fun e w'=>∃y:Bool,e= .returned (.bool y)/\GS c n v nl u w'/\KB c.N c.B W w':=
 (dU c.B c.a c.len c.cap c.zs x W h.cur).mono fun e w' ⟨y,h1,hd⟩=>⟨y,h1,h.drawn hd⟩
theorem nG (h:GS c n v nl u W):
   Calls Tryz.prog 69 #[.pointer (some ⟨c.B,0,none⟩)] W fun e w'=>∃y:Int,e= .returned (.int .i64 y)/\GS c n v nl u w'/\KB c.N c.B W w':=
 (jo c.B c.a c.len c.cap c.zs W h.cur).mono fun e w' ⟨y,h1,h2,h3,hd⟩=>⟨y,h1,h.drawn hd⟩
end
section
open Go.RowKit
variable {P : Program} {ops : Array Oper} {md : Region.Mode} {C : World → Prop} {n : Nat}
def je (P:Program)(md:Region.Mode)(ops:Array Oper)(C:World->Prop)(n:Nat)(L:Array Bool->Act->Prop):Nat->Array Bool->Act->Prop
 |0,l,a=>L l a
 |f+1,l,a=>Region.ready md ops l≠[]/\∀i,i∈Region.ready md ops l->i<n/\qOp P ops C i (je P md ops C n L f (l.setIfInBounds i true)) a
theorem je.any {L:Array Bool->Act->Prop}{Q:Exit->Act->World->Prop}{g:Nat}(hL:∀l a w,C w->L l a->wpAny P md ops Q g l a w)(f:Nat):∀(l:Array Bool)(a:Act)(w:World),C w->je P md ops C n L f l a->wpAny P md ops Q (f+g) l a w:=by
 induction f with
 |zero=>intro l a w hw h;rw[Nat.zero_add];exact hL l a w hw h
 |succ f ih=>
  intro l a w hw h
  rw[show f+1+g=(f+g)+1 by omega]
  refine⟨fun e=>absurd e h.1,fun i hi=>?_⟩
  exact wpOp_of_qOp hw (fun a' w' hw' h'=>ih _ a' w' hw' h') (h.2 i hi).2
theorem iB {l:Array Bool}(hs:Region.sinkB md ops n=true)(hc:Region.chainB md ops n=true)(hn:n<ops.size)(inv:HeadInv md ops n l){i:Nat}(hi:i<n)(hun:l.getD i true=false){j:Nat}(hj:j∈Region.ready md ops l):j<n:=by refine Nat.lt_of_not_le fun h=>?_;exact tail_waits hs hc hn inv (n-i) i rfl hi hun j h hj
theorem je.first {L:Array Bool->Act->Prop}{i:Nat}{o:Oper}{v:Value}(kK:ops[i]?=some o)(hsel:∀(j:Nat)(o:Oper) cs b,ops[j]?=some o->o.op≠ .select cs b)(hs:Region.sinkB md ops n=true)(hc:Region.chainB md ops n=true)(hn:n<ops.size)(hin:i<n)(hdone:∀l a,L l a->∀j,j∈Region.ready md ops l->n<=j)(f:Nat):∀(l:Array Bool)(a:Act),HeadInv md ops n l->(∀j oj,ops[j]?=some oj->j≠i->l.getD j true=false->(∀e∈oj.after,Region.binds md e=true->e.on≠i)->o.apart ops oj=true)->i∈Region.ready md ops l->YieldsIn P ops C o v a->je P md ops C n L f (l.setIfInBounds i true) (a.put o.dst v)->je P md ops C n L (f+1) l a:=by
 induction f with
 |zero=>
  intro l a inv hfree hr hy hH
  refine⟨fun e=>by rw[e]at hr;exact absurd hr List.not_mem_nil,fun j hj=>⟨iB hs hc hn inv hin (mem_ready.1 hr).1 hj,?_⟩⟩
  rcases Nat.decEq j i with hne|he
  · have h1:=hdone _ _ hH j (ready_mono hj hne);have h2:=iB hs hc hn inv hin (mem_ready.1 hr).1 hj;omega
  · subst he;exact hy.qOp kK hH
 |succ f ih=>
  intro l a inv hfree hr hy hH
  have hun:=(mem_ready.1 hr).1
  refine⟨fun e=>by rw[e]at hr;exact absurd hr List.not_mem_nil,fun j hj=>⟨iB hs hc hn inv hin hun hj,?_⟩⟩
  rcases Nat.decEq j i with hne|he
  · obtain⟨hjun,oj,hoj,hall⟩:=mem_ready.1 hj;have hno:∀e∈oj.after,Region.binds md e=true->e.on≠i:=by{intro e he hb heq;have h1:=hall e he hb;rw[heq,getD_both hun]at h1;cases h1};have hstep:=qOp_put hoj (hfree j oj hoj hne hjun hno) (fun cs b=>hsel i o cs b kK) (fun cs b=>hsel j oj cs b hoj) hy (hH.2 j (ready_mono hj hne)).2;refine qOp_mono (fun a' h'=>?_) hstep;refine ih _ a' (inv.set hj (iB hs hc hn inv hin hun hj)) (fun k ok hk hki QT QU=>hfree k ok hk hki ?_ QU) (ready_mono hr (Ne.symm hne)) h'.1 ?_;{by_cases hjk:j=k;{rw[←hjk];exact hjun};rwa [getD_set_ne true hjk]at QT};rw[Array.setIfInBounds_comm _ _ hne];exact h'.2
  · subst he;exact hy.qOp kK hH
theorem je.lex {g:Nat}{Lq:Act->Prop}(hsel:Region.noSelect ops=true)(hs:Region.sinkB md ops n=true)(hc:Region.chainB md ops n=true)(hn:n<ops.size):
   ∀ (hd:List Oper) (k:Nat) (l:Array Bool) (a:Act),k+hd.length=n->(∀j,j<hd.length->hd[j]?=ops[k+j]?)->HeadInv md ops n l->Region.lexHead md ops g hd.length k l=true->
     wpQuiet P ops C Lq hd a->je P md ops C n (fun l' a'=>Region.seqB md ops g n l'=true/\Lq a') hd.length l a
 | [],k,l,a,hk,_,_,hB,h=>by
   have e:k=n:=hk
   rw[←e]
   exact⟨hB,h⟩
 | o::hd,k,l,a,hk,hl,inv,hB,h=>by
   rw[List.length_cons]at hk
   have h0:ops[k]?=some o:=(hl 0 (by simp)).symm
   simp only[List.length_cons,Region.lexHead,au]at hB
   have hr:k∈Region.ready md ops l:=by simpa using hB.1.1
   have hq:qOp P ops C k (wpQuiet P ops C Lq hd) a:=by unfold qOp;simp only[h0];exact h
   obtain⟨v,hy,hrest⟩:=yieldsIn_of_qOp h0 hq
   refine je.first h0 (Region.noSelect_spec hsel) hs hc hn (by omega) (fun l' a' hL=>seqB_ready hL.1) hd.length l a inv (Region.free_spec h0 hB.1.2) hr hy ?_
   refine je.lex hsel hs hc hn hd (k+1) _ _ (by omega) (fun j hj=>?_) (inv.set hr (by omega)) hB.2 hrest
   have:=hl (j+1) (by simp;omega)
   rw[show k+1+j=k+(j+1)by omega,←this]
   rfl
theorem dG {id:Nat}{Q:Exit->Act->World->Prop}{a:Act}{w:World}{l:List Oper}(n:Nat)(hm:P.follows .mixedOrders=true)(hB:Region.lexTailB .any l.toArray n=true)(h:wpQuiet P l.toArray (fun w'=>∃p:bU w,w'=p.to) (fun a'=>∀w',(∃p:bU w,w'=p.to)->wpList P l.toArray Q (l.drop n) a' w') (l.take n) a):(Code.region id l.toArray true).wp P Q a w:=by
 simp only[Region.lexTailB,au,decide_eq_true_eq]at hB
 obtain⟨⟨⟨⟨hsel,hn⟩,hs⟩,hc⟩,hlex⟩:=hB
 have hnl:n<l.length:=by simpa using hn
 have e1:(l.take n).length=n:=by rw[List.length_take];omega
 have e2:(l.drop n).length=l.toArray.size-n:=by rw[List.length_drop];simp
 have inv:HeadInv .any l.toArray n (Array.replicate l.toArray.size false):=by refine⟨by simp,fun j oj _ hl=>?_,fun t _ ht=>getD_in (by simpa using ht) (getD_replicate_false _ _)⟩;rw[getD_replicate_false]at hl;cases hl
 have H:=je.lex (md:= .any) (g:=l.toArray.size-n) hsel hs hc hn (l.take n) 0 _ a (by rw[e1];omega) (fun j hj=>by rw[e1]at hj;simp[hj]) inv (by rw[e1];exact hlex) h
 have R:=je.any (Q:=Q) (g:=l.toArray.size-n) (fun l' a' w' hw' hL=>by
  have:=wpAny_of_seq (md:= .any) (Q':=Q) (l.drop n) n l' a' w' (fun j=>by simp[List.getElem?_drop]) (by rw[e2];exact hL.1) (hL.2 w' hw')
  rwa [e2]at this) (l.take n).length _ a {w with drawn:=w.drawn+1} ⟨⟨w.drew,(Below.refl _ w).drew⟩,rfl⟩ H
 rw[e1,show n+(l.toArray.size-n)=l.toArray.size by omega]at R
 exact wp_region_any hm R
end
section
open Go.RowKit
variable {P : Program} {ops : Array Oper} {md : Region.Mode} {Q : Exit → Act → World → Prop} {n : Nat}
theorem aB {b:Act}{t:Nat}{v:Value}(h:b.eval (.tmp t)=v):b.tmps[t]?.getD undef=v:=by simpa[Act.eval]using h
def vD (n:Nat)(l:Array Bool):Nat:=((List.range n).filter fun i=> !l.getD i true).length
theorem gq (n:Nat)(l:Array Bool):vD (n+1) l=vD n l+(if l.getD n true=false then 1 else 0):=by unfold vD;rw[List.range_succ,List.filter_append,List.length_append];congr 1;cases h:l.getD n true<;>simp only[List.filter,h]<;>rfl
theorem oI {i:Nat}{l:Array Bool}:∀n,n<=i->vD n (l.setIfInBounds i true)=vD n l
 |0,_=>rfl
 |n+1,h=>by rw[gq,gq,oI n (by omega),getD_set_ne true (by omega)]
theorem sV {i:Nat}{l:Array Bool}(hs:l.getD i true=false):∀n,i<n->vD n (l.setIfInBounds i true)+1=vD n l
 |0,h=>by omega
 | n + 1,h=>by
   rw[gq,gq]
   by_cases e:i=n
   · subst e
     rw[oI i (Nat.le_refl _),hs]
     have hi:i<l.size:=by
       rcases Nat.lt_or_ge i l.size with h'|h'
       · exact h'
       · simp[Array.getElem?_eq_none h']at hs
     have e2:(l.setIfInBounds i true).getD i true=true:=by simp[hi]
     rw[e2]
     simp
   · rw[←sV hs n (by omega),getD_set_ne true e]
     omega
theorem lq {l:Array Bool}(h:vD n l=0)(i:Nat)(hi:i<n):l.getD i true=true:=by unfold vD at h;have h2:=List.filter_eq_nil_iff.1 (List.length_eq_zero_iff.1 h) i (List.mem_range.2 hi);simpa using h2
theorem yw {l:Array Bool}(h:vD n l≠0):∃i,i<n/\l.getD i true=false/\∀j,j<i->l.getD j true=true:=by
 induction n with
 |zero=>exact absurd rfl h
 |succ n ih=>
  by_cases e:vD n l=0
  · rw[gq,e]at h;refine⟨n,by omega,?_,fun j hj=>lq e j hj⟩;cases h2:l.getD n true;{rfl};rw[h2]at h;simp at h
  · obtain⟨i,h1,h2,h3⟩:=ih e;exact⟨i,by omega,h2,h3⟩
theorem zX (g:Nat)(I:Array Bool->Act->World->Prop)(hs:Region.sinkB md ops n=true)(hc:Region.chainB md ops n=true)(hn:n<ops.size)(hback:∀i o,i<n->ops[i]?=some o->∀e∈o.after,Region.binds md e=true->e.on<i)(hstep:∀l b x i o,HeadInv md ops n l->ops[i]?=some o->i<n->l.getD i true=false->(∀e∈o.after,Region.binds md e=true->l.getD e.on false=true)->I l b x->wpOp P ops Q i (fun b' x'=>I (l.setIfInBounds i true) b' x') b x)(hend:∀l b x,HeadInv md ops n l->(∀i,i<n->l.getD i true=true)->I l b x->wpAny P md ops Q g l b x):∀f l b x,HeadInv md ops n l->vD n l=f->I l b x->wpAny P md ops Q (f+g) l b x:=by
 intro f
 induction f with
 |zero=>intro l b x inv hu hI;rw[Nat.zero_add];exact hend l b x inv (fun i hi=>lq hu i hi) hI
 |succ f ih=>
  intro l b x inv hu hI
  rw[show f+1+g=(f+g)+1 by omega]
  obtain⟨i,hin,hun,hmin⟩:=yw (l:=l) (n:=n) (by omega)
  refine⟨fun h0=>?_,fun j hj=>?_⟩
  · have ho:∃o,ops[i]?=some o:=⟨ops[i]'(by omega),Array.getElem?_eq_getElem (by omega)⟩
    obtain⟨o,ho⟩:=ho
    have:i∈Region.ready md ops l:=mem_ready.2 ⟨hun,o,ho,fun e he hbi=>by
     have h1:=hback i o hin ho e he hbi
     have h2:=hmin e.on h1
     have h3:e.on<l.size:=by rw[inv.size];omega
     simp[h3]at h2 ⊢
     exact h2⟩
    rw[h0]at this
    cases this
  · have hjn:=iB hs hc hn inv hin hun hj;obtain⟨hjun,o,ho,hall⟩:=mem_ready.1 hj;refine wpOp_mono (fun b' x' h'=>ih _ b' x' (inv.set hj hjn) ?_ h') (hstep l b x j o inv ho hjn hjun hall hI);have:=sV hjun n hjn;omega
def E5 (l:List Oper)(n:Nat)(ds:List Nat):Bool:=
 decide (ds.length=n)&&ds.Nodup&&(List.range n).all fun i=>match l[i]? with
   |some o=>o.dst==ds[i]?&&o.guard.isNone&&o.after.all fun e=> !Region.binds .any e||decide (e.on<i)
   |none=>false
def zu (size n:Nat):Array Bool:=((List.replicate n true)++List.replicate (size-n) false).toArray
def Fb (P:Program)(Q:Exit->Act->World->Prop)(a:Act)(ds:List Nat)(A:World->Prop)(R:World->World->Prop)(F:Nat->Value->World->Prop)(k:Nat)(o:Oper):Prop:=
 ∀ (b:Act) (x:World),A x->(∀t,t∉ds->b.eval (.tmp t)=a.eval (.tmp t))->(∀j,(o.after.any fun e=>Region.binds .any e&&e.on==j)=true->F j (b.eval (.tmp (ds.getD j 0))) x)->
   o.wp P b x (fun b' x'=>∃y,b'=b.put o.dst y/\A x'/\F k y x'/\R x x') Q
def o8 (P:Program)(Q:Exit->Act->World->Prop)(a:Act)(ds:List Nat)(A:World->Prop)(R:World->World->Prop)(F:Nat->Value->World->Prop):Nat->List Oper->Prop
 |_,[]=>True
 |k,o::r=>Fb P Q a ds A R F k o/\o8 P Q a ds A R F (k+1) r
theorem o8.at {a:Act}{ds:List Nat}{A:World->Prop}{R:World->World->Prop}{F:Nat->Value->World->Prop}:∀{r:List Oper}{k:Nat},o8 P Q a ds A R F k r->∀i o,r[i]?=some o->Fb P Q a ds A R F (k+i) o
 |[],_,_,i,o,h=>by simp at h
 |q::r,k,h,0,o,e=>by cases e;exact h.1
 | q::r,k,h,i+1,o,e=>by
   have:=o8.at h.2 i o (by simpa using e)
   rwa [show k+1+i=k+(i+1)by omega]at this
theorem kP (b:Act)(d:Nat)(v:Value)(t:Nat)(hd:d<b.tmps.size):(b.put (some d) v).eval (.tmp t)=if d=t then v else b.eval (.tmp t):=by unfold Act.put Act.eval;by_cases e:d=t;{subst e;simp[hd]};simp[Array.getElem?_setIfInBounds_ne e,e]
theorem mF (f:Nat->Value):∀(ds:List Nat)(a:Act),(ds.foldl (fun a' t=>a'.put (some t) (f t)) a).tmps.size=a.tmps.size/\(ds.foldl (fun a' t=>a'.put (some t) (f t)) a).defers=a.defers/\
   ∀t,(ds.foldl (fun a' t=>a'.put (some t) (f t)) a).tmps[t]?=if t∈ds/\t<a.tmps.size then some (f t)else a.tmps[t]?
 |[],a=>⟨rfl,rfl,fun t=>by simp⟩
 | d ::ds,a=>by
   obtain⟨h1,h2,h3⟩:=mF f ds (a.put (some d) (f d))
   have s1:(a.put (some d) (f d)).tmps.size=a.tmps.size:=by simp[Act.put]
   refine⟨by rw[List.foldl_cons,h1,s1],by rw[List.foldl_cons,h2];rfl,fun t=>?_⟩
   rw[List.foldl_cons,h3 t,s1]
   by_cases e:t∈ds/\t<a.tmps.size
   · rw[ay e,ay ⟨List.mem_cons_of_mem _ e.1,e.2⟩]
   · rw[ax e]
     by_cases e2:t=d
     · subst e2
       by_cases e3:t<a.tmps.size
       · rw[ay ⟨List.mem_cons_self ..,e3⟩]
         simp[Act.put,e3]
       · rw[ax (fun h=>e3 h.2)]
         have h4:a.tmps[t]?=none:=Array.getElem?_eq_none (by omega)
         have h5:(a.put (some t) (f t)).tmps[t]?=none:=Array.getElem?_eq_none (by rw[s1];omega)
         rw[h4,h5]
     · rw[ax (fun h=>by rcases List.mem_cons.1 h.1 with h'|h';exact e2 h';exact e ⟨h',h.2⟩)]
       simp[Act.put,Array.getElem?_setIfInBounds_ne (Ne.symm e2)]
theorem bI {id:Nat}{a:Act}{w:World}{l:List Oper}(n:Nat)(ds:List Nat)(A:World->Prop)(R:World->World->Prop)(F:Nat->Value->World->Prop)(hm:P.follows .mixedOrders=true)(hB:(Region.noSelect l.toArray&&decide (n<l.length)&&Region.sinkB .any l.toArray n&&Region.chainB .any l.toArray n&&E5 l n ds&&Region.seqB .any l.toArray (l.length-n) n (zu l.length n))=true)(hsz:∀d∈ds,d<a.tmps.size)(h0:A w.drew)(hR:∀i y x x',R x x'->F i y x->F i y x')(hall:o8 P Q a ds A R F 0 (l.take n))(hend:∀b x,A x->(∀j,j<n->F j (b.eval (.tmp (ds.getD j 0))) x)->b=ds.foldl (fun a' t=>a'.put (some t) (b.eval (.tmp t))) a->wpList P l.toArray Q (l.drop n) b x):(Code.region id l.toArray true).wp P Q a w:=by
 simp only[au,decide_eq_true_eq]at hB
 obtain⟨⟨⟨⟨⟨hsel,hn⟩,hs⟩,hc⟩,hhd⟩,hseq⟩:=hB
 have hn':n<l.toArray.size:=by simpa using hn
 simp only[E5,au,decide_eq_true_eq,List.all_eq_true,List.mem_range]at hhd
 obtain⟨⟨hdl,hnd⟩,hops⟩:=hhd
 have hop:∀i o,i<n->l.toArray[i]?=some o->o.dst=some (ds.getD i 0)/\o.guard=none/\(∀e∈o.after,Region.binds .any e=true->e.on<i)/\ds.getD i 0∈ds:=by intro i o hi ho;have h1:=hops i hi;have ho':l[i]?=some o:=by{simpa using ho};rw[ho']at h1;simp only[au,beq_iff_eq,Option.isNone_iff_eq_none,Array.all_eq_true',decide_eq_true_eq,Bool.or_eq_true,Bool.not_eq_true']at h1;have h2:ds[i]?=some (ds.getD i 0):=by{rw[ah,ai (by omega)];rfl};exact⟨by rw[h1.1.1,h2],h1.1.2,fun e he hbi=>(h1.2 e he).elim (fun h=>by rw[hbi]at h;cases h) (fun h=>h),List.mem_of_getElem? h2⟩
 have hinj:∀i j,i<n->j<n->ds.getD i 0=ds.getD j 0->i=j:=by intro i j hi hj e;rw[ah,ah,ai (by omega),ai (by omega)]at e;have e':ds[i]'(by omega)=ds[j]'(by omega):=e;rcases Nat.lt_trichotomy i j with h|h|h;{exact absurd e' (List.pairwise_iff_getElem.1 hnd i j (by omega) (by omega) h)};{exact h};exact absurd e'.symm (List.pairwise_iff_getElem.1 hnd j i (by omega) (by omega) h)
 let I:Array Bool->Act->World->Prop:=fun q b x=>A x/\b.defers=a.defers/\b.tmps.size=a.tmps.size/\(∀t,t∉ds->b.eval (.tmp t)=a.eval (.tmp t))/\∀j,j<n->q.getD j false=true->F j (b.eval (.tmp (ds.getD j 0))) x
 have inv:HeadInv .any l.toArray n (Array.replicate l.toArray.size false):=by refine⟨by simp,fun j oj _ hl=>?_,fun t _ ht=>getD_in (by simpa using ht) (getD_replicate_false _ _)⟩;rw[getD_replicate_false]at hl;cases hl
 have hu:vD n (Array.replicate l.toArray.size false)=n:=by
  have:∀m,m<=l.toArray.size->vD m (Array.replicate l.toArray.size false)=m:=by
   intro m
   induction m with
   |zero=>intro _;rfl
   |succ m ih=>
    intro hm
    rw[gq,ih (by omega)]
    have:(Array.replicate l.toArray.size false).getD m true=false:=getD_in (by simp at hm ⊢;omega) (getD_replicate_false _ _)
    rw[ay this]
  exact this n (by omega)
 have H := zX (P:=P) (Q:=Q) (md:= .any) (l.toArray.size-n) I hs hc hn' (fun i o hi ho=>(hop i o hi ho).2.2.1)
   (fun q b x i o hq ho hi hun hafter hI=>by
     obtain⟨hA,hdf,hsize,hfr,hF⟩:=hI
     obtain⟨hd,hg,hb,hmem⟩:=hop i o hi ho
     have rQ:=hall.at i o (by rw[List.getElem?_take_of_lt hi];simpa using ho)
     rw[Nat.zero_add]at rQ
     have hwp:=rQ b x hA hfr (fun j hj=>by
       obtain⟨e,he,hbe⟩:=Array.any_eq_true'.1 hj
       simp only[au,beq_iff_eq]at hbe
       have h1:=hafter e he hbe.1
       have h2:=hb e he hbe.1
       rw[hbe.2]at h1 h2
       exact hF j (by omega) h1)
     unfold wpOp
     simp only[ho]
     have hw:Region.wanted o (yielded l.toArray b.tmps)=true:=by simp[Region.wanted,hg]
     rw[ay hw]
     refine .inl (Oper.wp_mono (fun b' x' h'=>?_) hwp)
     obtain⟨y,rfl,hA',hF',Ff⟩:=h'
     have hds:ds.getD i 0<b.tmps.size:=by rw[hsize];exact hsz _ hmem
     rw[hd]
     refine⟨hA',hdf,by simpa[Act.put]using hsize,fun t ht=>?_,fun j hj hq'=>?_⟩
     · rw[kP _ _ _ _ hds,ax (fun e=>ht (by rw[←e];exact hmem))]
       exact hfr t ht
     · rw[kP _ _ _ _ hds]
       by_cases e:i=j
       · subst e
         rw[ay rfl]
         exact hF'
       · rw[ax (fun e2=>e (hinj i j hi hj e2))]
         rw[getD_set_ne false e]at hq'
         exact hR j _ x x' Ff (hF j hj hq'))
   (fun q b x hq yN hI=>by
     obtain⟨hA,hdf,hsize,hfr,hF⟩:=hI
     have Zd:q=zu l.length n:=by
       apply Array.ext
       · rw[hq.size];simp[zu];omega
       · intro i h1 h2
         have e1:q.getD i true=q[i]:=by simp[h1]
         have e2:q.getD i false=q[i]:=by simp[h1]
         by_cases e:i<n
         · have:=yN i e
           rw[e1]at this
           rw[this]
           simp only[zu,List.getElem_toArray]
           rw[List.getElem_append_left (by simpa using e)]
           simp
         · have h3:i<l.toArray.size:=by rw[←hq.size];exact h1
           have:=hq.tail i (by omega) h3
           rw[e1]at this
           rw[this]
           simp only[zu,List.getElem_toArray]
           rw[List.getElem_append_right (by simpa using e)]
           simp
     have hF2:∀j,j<n->F j (b.eval (.tmp (ds.getD j 0))) x:=fun j hj=>hF j hj (by
       have:=yN j hj
       have h1:j<q.size:=by rw[hq.size];omega
       simp[h1]at this ⊢
       exact this)
     have hbf:b=ds.foldl (fun a' t=>a'.put (some t) (b.eval (.tmp t))) a:=by
       obtain⟨s1,s2,s3⟩:=mF (fun t=>b.eval (.tmp t)) ds a
       have ht:b.tmps=(ds.foldl (fun a' t=>a'.put (some t) (b.eval (.tmp t))) a).tmps:=by
         apply Array.ext_getElem?
         intro t
         rw[s3 t]
         by_cases e:t<a.tmps.size
         · have eb:b.tmps[t]?=some (b.eval (.tmp t)):=by
             have h1:t<b.tmps.size:=by omega
             simp[Act.eval,h1]
           by_cases e2:t∈ds
           · rw[ay ⟨e2,e⟩,eb]
           · rw[ax (fun h=>e2 h.1),eb,hfr t e2]
             simp[Act.eval,e]
         · rw[ax (fun h=>e h.2),Array.getElem?_eq_none (by omega),Array.getElem?_eq_none (by omega)]
       have e3:∀c d:Act,c.tmps=d.tmps->c.defers=d.defers->c=d:=by
         rintro⟨c1,c2⟩ ⟨d1,d2⟩ h1 h2
         simp only at h1 h2
         rw[h1,h2]
       exact e3 _ _ ht (hdf.trans s2.symm)
     have:=hend b x hA hF2 hbf
     rw[Zd]
     have e2:(l.drop n).length=l.toArray.size-n:=by rw[List.length_drop];simp
     have R2:=wpAny_of_seq (md:= .any) (Q':=Q) (l.drop n) n (zu l.length n) b x (fun j=>by simp[List.getElem?_drop]) (by rw[e2];simpa using hseq) this
     rwa [e2]at R2)
   n _ a w.drew inv hu ⟨h0,rfl,rfl,fun t _=>rfl,fun j hj h=>by rw[getD_replicate_false]at h;cases h⟩
 rw[show n+(l.toArray.size-n)=l.toArray.size by omega]at H
 exact wp_region_any hm H
end
abbrev Fv:=Int×Int×Int×Value
def Df:Fv:=(0,0,0, .slice none 0 0)
def mG (xs:List Fv):List Value:=xs.flatMap fun x=>[.int .i64 x.1, .int .i64 x.2.1, .int .i64 x.2.2.1,x.2.2.2]
theorem zV (x:Fv)(xs:List Fv):mG (x::xs)= .int .i64 x.1:: .int .i64 x.2.1:: .int .i64 x.2.2.1::x.2.2.2::mG xs:=rfl
theorem uL (xs ys:List Fv):mG (xs++ys)=mG xs++mG ys:=by simp[mG]
theorem uW:∀(xs:List Fv)(j:Nat),j<xs.length->(mG xs)[j*4]?=some (.int .i64 (xs.getD j Df).1)/\(mG xs)[j*4+1]?=some (.int .i64 (xs.getD j Df).2.1)/\(mG xs)[j*4+2]?=some (.int .i64 (xs.getD j Df).2.2.1)/\(mG xs)[j*4+3]?=some (xs.getD j Df).2.2.2
 |[],j,h=>by simp at h
 |x::xs,0,_=>⟨rfl,rfl,rfl,rfl⟩
 | x::xs,j+1,h=>by
   have ih:=uW xs j (by simp at h;omega)
   rw[zV,show(j+1)*4=j*4+1+1+1+1 by omega]
   refine⟨by simpa using ih.1,?_,?_,?_⟩
   · rw[show j*4+1+1+1+1+1=(j*4+1)+1+1+1+1 by omega];simpa using ih.2.1
   · rw[show j*4+1+1+1+1+2=(j*4+2)+1+1+1+1 by omega];simpa using ih.2.2.1
   · rw[show j*4+1+1+1+1+3=(j*4+3)+1+1+1+1 by omega];simpa using ih.2.2.2
def qO (W:World)(n₀ k:Nat)(vs:List Fv)(fs:List Fn):Prop:=
 ∀j,j<k->(vs.getD j Df).1=(fs.getD j .z).a/\(vs.getD j Df).2.1=(fs.getD j .z).l/\(vs.getD j Df).2.2.1=(fs.getD j .z).g/\OS W n₀ (vs.getD j Df).2.2.2 (fs.getD j .z).b
theorem qO.kept {W W':World}{n₀ k:Nat}{vs:List Fv}{fs:List Fn}(h:qO W n₀ k vs fs)(hB:Below W.heap.size W W'):qO W' n₀ k vs fs:=
 fun j hj=>⟨(h j hj).1,(h j hj).2.1,(h j hj).2.2.1,(h j hj).2.2.2.kept hB⟩
theorem OS.other {W W':World}{n₀ k:Nat}{v:Value}{xs:List (Int×Int)}(h:OS W n₀ v xs)(hg:W.grownBy W' (some k))(hne:k<n₀):OS W' n₀ v xs:=by obtain⟨g,cap,rfl,h0,hlt,hm,hrow⟩:=h;exact⟨g,cap,rfl,h0,aj hlt hg.size,hm,hrow.kept hg (.inr (by simp only[Value.ownBlock,ne_eq,af];omega))⟩
theorem qO.other {W W':World}{n₀ k b:Nat}{vs:List Fv}{fs:List Fn}(h:qO W n₀ k vs fs)(hg:W.grownBy W' (some b))(hne:b<n₀):qO W' n₀ k vs fs:=
 fun j hj=>⟨(h j hj).1,(h j hj).2.1,(h j hj).2.2.1,(h j hj).2.2.2.other hg hne⟩
def zP (W:World)(b:Nat)(v0 v1 v2 v3:Value):Prop:=
 b<W.heap.size/\W.cell? ⟨b,0,none⟩=some v0/\W.cell? ⟨b,1,none⟩=some v1/\W.cell? ⟨b,2,none⟩=some v2/\W.cell? ⟨b,3,none⟩=some v3/\W.frozen? ⟨b,0,none⟩=false/\W.frozen? ⟨b,1,none⟩=false/\W.frozen? ⟨b,2,none⟩=false/\W.frozen? ⟨b,3,none⟩=false
theorem zP.kept {W W':World}{b:Nat}{v0 v1 v2 v3:Value}(h:zP W b v0 v1 v2 v3)(hB:Below W.heap.size W W'):zP W' b v0 v1 v2 v3:=by obtain⟨h0,h1,h2,h3,h4,h5,h6,h7,h8⟩:=h;exact⟨aj h0 hB.size,(hB.cell h0).trans h1,(hB.cell h0).trans h2,(hB.cell h0).trans h3,(hB.cell h0).trans h4,(hB.frozen h0).trans h5,(hB.frozen h0).trans h6,(hB.frozen h0).trans h7,(hB.frozen h0).trans h8⟩
theorem zP.new (W:World)(v0 v1 v2 v3:Value)(t:TypeId):zP (W.alloc (.cells #[v0,v1,v2,v3] t)) W.heap.size v0 v1 v2 v3:=by refine⟨by simp,?_,?_,?_,?_,?_,?_,?_,?_⟩<;>go_simp
def zt (W:World)(b:Nat)(v0 v1:Value):Prop:=
 b<W.heap.size/\W.cell? ⟨b,0,none⟩=some v0/\W.cell? ⟨b,1,none⟩=some v1/\W.frozen? ⟨b,0,none⟩=false/\W.frozen? ⟨b,1,none⟩=false
theorem zt.kept {W W':World}{b:Nat}{v0 v1:Value}(h:zt W b v0 v1)(hB:Below W.heap.size W W'):zt W' b v0 v1:=by obtain⟨h0,h1,h2,h5,h6⟩:=h;exact⟨aj h0 hB.size,(hB.cell h0).trans h1,(hB.cell h0).trans h2,(hB.frozen h0).trans h5,(hB.frozen h0).trans h6⟩
theorem zt.new (W:World)(v0 v1:Value)(t:TypeId):zt (W.alloc (.cells #[v0,v1] t)) W.heap.size v0 v1:=by refine⟨by simp,?_,?_,?_,?_⟩<;>go_simp
theorem OS.set {W:World}{n₀:Nat}{v:Value}{xs:List (Int×Int)}(h:OS W n₀ v xs)(p:Addr)(hp:p.block<n₀)(x:Value):OS (W.setCell p x) n₀ v xs:=h.other (aL W p x) hp
namespace aG
abbrev aT (E:List Int)(j:Nat):Int:=E.getD j (-1)
theorem dz {p:Int}:St.opens p=true↔p=8\/p=9\/p=10:=by unfold St.opens;exact decide_eq_true_iff
theorem lY {E O:List Int}{t k:Nat}(ht:t<E.length)(ho:aT O t<E.length)(j:Nat):aT (close E O t k) j=if j=t\/(0<=aT O t/\(j:Int)=aT O t)then(k:Int)else aT E j:=by unfold aT at ho ⊢;unfold close;by_cases hc:0<=O.getD t (-1);{rw[ay hc,eZ,eZ];simp only[List.length_set];have hto:(O.getD t (-1)).toNat<E.length:=by{omega};by_cases h1:j=(O.getD t (-1)).toNat;{rw[ay ⟨h1,hto⟩,ay (Or.inr ⟨hc,by omega⟩)]};rw[ax (fun h=>h1 h.1)];by_cases h2:j=t;{rw[ay ⟨h2,ht⟩,ay (Or.inl h2)]};rw[ax (fun h=>h2 h.1),ax (by rintro(h|⟨-,h⟩);exact h2 h;omega)]};rw[ax hc,eZ];by_cases h2:j=t;{rw[ay ⟨h2,ht⟩,ay (Or.inl h2)]};rw[ax (fun h=>h2 h.1),ax (by rintro(h|⟨h,-⟩);exact h2 h;exact hc h)]
structure Inv (xs:List (Int×Int))(k:Nat)(E O:List Int)(S:List Nat):Prop where
 lE:E.length=xs.length
 lO:O.length=xs.length
 kl:k<=xs.length
 Ir:S.Pairwise (fun a b=>b<a)
 st:∀t∈S,t<k/\St.opens (op xs t)=true/\aT E t=-1
 out:∀j,k<=j->aT E j=-1/\aT O j=-1
 low:∀j,-1<=aT E j/\aT E j<k/\-1<=aT O j
 cl:∀j,j<k->St.opens (op xs j)=true->j∉S->(j:Int)<aT E j/\op xs (aT E j).toNat=12
 el:∀j,j<k->op xs j=11->∃t,t<j/\op xs t=10/\aT O t=j/\aT E j=aT E t
 ot:∀j,St.opens (op xs j)=false->op xs j≠11->aT E j=-1
 oo:∀j,0<=aT O j->op xs j=10/\(j:Int)<aT O j/\aT O j<k/\op xs (aT O j).toNat=11/\aT E (aT O j).toNat=aT E j
 oe:∀j,0<=aT O j->j∉S->aT O j<aT E j
 inj:∀i j,0<=aT O i->aT O i=aT O j->i=j
 n1:∀i j,St.opens (op xs i)=true->i<j->(j:Int)<aT E i->op xs j≠11->aT E j<aT E i
 n2:∀t∈S,∀i,i<t->St.opens (op xs i)=true->i∉S->aT E i<t
theorem Inv.first (xs:List (Int×Int)):Inv xs 0 (dP xs.length) (dP xs.length) []:=by have h:∀j,aT (dP xs.length) j=-1:=fun j=>by{simp only[aT,dP,ah,List.getElem?_replicate];split<;>rfl};refine⟨by simp[dP],by simp[dP],Nat.zero_le _,List.Pairwise.nil,by simp,fun j _=>⟨h j,h j⟩,fun j=>by rw[h];omega,fun j hj=>by omega,fun j hj=>by omega,fun j _ _=>h j,fun j hj=>?_,fun j hj=>?_,fun i j hi=>?_,fun i j _ _ hj=>?_,by simp⟩;{rw[h]at hj;omega};{rw[h]at hj;omega};{rw[h]at hi;omega};rw[h]at hj;omega
variable {xs : List (Int × Int)} {k t : Nat} {E O : List Int} {S : List Nat}
theorem Inv.push (h:Inv xs k E O S)(hk:k<xs.length)(ho:St.opens (op xs k)=true):Inv xs (k+1) E O (k::S):=by have hk':=dz.1 ho;refine⟨h.lE,h.lO,hk,List.pairwise_cons.2 ⟨fun x hx=>(h.st x hx).1,h.Ir⟩,?_,fun j hj=>h.out j (by omega),fun j=>?_,?_,?_,h.ot,?_,?_,h.inj,h.n1,?_⟩;{intro x hx;rcases List.mem_cons.1 hx with rfl|hx;{exact⟨by omega,ho,(h.out x (Nat.le_refl _)).1⟩};have:=h.st x hx;exact⟨by omega,this.2⟩};{have:=h.low j;omega};{intro j hj hoj hjs;rw[List.mem_cons,not_or]at hjs;exact h.cl j (by omega) hoj hjs.2};{intro j hj h11;have hjk:j≠k:=by{rintro rfl;omega};exact h.el j (by omega) h11};{intro j hj;have:=h.oo j hj;exact⟨this.1,this.2.1,by omega,this.2.2.2⟩};{intro j hj hjs;rw[List.mem_cons,not_or]at hjs;exact h.oe j hj hjs.2};intro x hx i hi hoi his;rw[List.mem_cons,not_or]at his;rcases List.mem_cons.1 hx with rfl|hx;{have:=h.low i;omega};exact h.n2 x hx i hi hoi his.2
theorem Inv.other (h:Inv xs k E O S)(hk:k<xs.length)(ho:St.opens (op xs k)=false)(h11:op xs k≠11):Inv xs (k+1) E O S:=by refine{h with kl:=hk,st:=fun x hx=>?_,out:=fun j hj=>h.out j (by omega),low:=fun j=>?_,cl:=?_,el:=?_,oo:=?_};{have:=h.st x hx;exact⟨by omega,this.2⟩};{have:=h.low j;omega};{intro j hj hoj hjs;have hjk:j≠k:=by{rintro rfl;rw[ho]at hoj;cases hoj};exact h.cl j (by omega) hoj hjs};{intro j hj kL;have hjk:j≠k:=by{rintro rfl;exact h11 kL};exact h.el j (by omega) kL};intro j hj;have:=h.oo j hj;exact⟨this.1,this.2.1,by omega,this.2.2.2⟩
theorem Inv.F5 (h:Inv xs k E O (t::S))(hk:k<xs.length)(h11:op xs k=11)(h10:op xs t=10)(hneg:aT O t<0):Inv xs (k+1) E (O.set t (k:Int)) (t::S):=by have htk:=h.st t (by simp);have Ze:=h.lO;have hg:∀j,aT (O.set t (k:Int)) j=if j=t then(k:Int)else aT O j:=fun j=>by{unfold aT;rw[eZ];by_cases e:j=t;{rw[ay ⟨e,by omega⟩,ay e]};rw[ax (fun q=>e q.1),ax e]};have hEk:=(h.out k (Nat.le_refl _)).1;refine{h with lO:=by simp[Ze],kl:=hk,st:=fun x hx=>?_,out:=fun j hj=>?_,low:=fun j=>?_,cl:=?_,el:=?_,oo:=?_,oe:=?_,inj:=?_};{have:=h.st x hx;exact⟨by omega,this.2⟩};{rw[hg,ax (by omega)];exact h.out j (by omega)};{have:=h.low j;rw[hg];split<;>omega};{intro j hj hoj hjs;have hjk:j≠k:=by{rintro rfl;rw[dz]at hoj;omega};exact h.cl j (by omega) hoj hjs};{intro j hj kL;by_cases e:j=k;{subst e;exact⟨t,htk.1,h10,by rw[hg,ay rfl],by rw[hEk,htk.2.2]⟩};obtain⟨t2,a1,a2,a3,a4⟩:=h.el j (by omega) kL;have hne:t2≠t:=by{rintro rfl;omega};exact⟨t2,a1,a2,by rw[hg,ax hne];exact a3,a4⟩};{intro j hj;rw[hg]at hj ⊢;by_cases e:j=t;{subst e;rw[ay rfl];rw[az];exact⟨h10,by omega,by omega,h11,by rw[hEk,htk.2.2]⟩};rw[ax e]at hj ⊢;have:=h.oo j hj;exact⟨this.1,this.2.1,by omega,this.2.2.2⟩};{intro j hj hjs;have hne:j≠t:=by{rintro rfl;exact hjs (by simp)};rw[hg,ax hne]at hj ⊢;exact h.oe j hj hjs};intro i j hi hij;rw[hg]at hi hij;rw[hg]at hij;by_cases e1:i=t;{rw[ay e1]at hi hij;by_cases e2:j=t;{rw[e1,e2]};rw[ax e2]at hij;have:=(h.oo j (by omega)).2.2.1;omega};rw[ax e1]at hi hij;by_cases e2:j=t;{rw[ay e2]at hij;have:=(h.oo i hi).2.2.1;omega};rw[ax e2]at hij;exact h.inj i j hi hij
theorem Inv.Ij (h:Inv xs k E O (t::S))(hk:k<xs.length)(h12:op xs k=12):Inv xs (k+1) (close E O t k) O S:=by have htk:=h.st t (by simp);have QV:=h.lE;have Iu:aT O t<k:=by{by_cases e:0<=aT O t;{exact(h.oo t e).2.2.1};omega};have hkl:=h.kl;have hg:=lY (E:=E) (O:=O) (t:=t) (k:=k) (by omega) (by omega);have jV:=List.pairwise_cons.1 h.Ir;have hto:=dz.1 htk.2.1;have hno:∀j,op xs j≠11->¬(0<=aT O t/\(j:Int)=aT O t):=by{rintro j hj ⟨h1,h2⟩;have:=(h.oo t h1).2.2.2.1;rw[←h2,az]at this;exact hj this};have hsame:∀j,j≠t->op xs j≠11->aT (close E O t k) j=aT E j:=fun j h1 h2=>by{rw[hg,ax (by rintro(q|q);exact h1 q;exact hno j h2 q)]};have ht':aT (close E O t k) t=k:=by{rw[hg,ay (Or.inl rfl)]};have qE:∀j,St.opens (op xs j)=true->op xs j≠11:=fun j hj=>by{rw[dz]at hj;omega};have Fg:∀(i j:Nat),0<=aT O i->(j:Int)=aT O i->op xs i=10->op xs j=11->aT E j=aT E i->aT (close E O t k) j=aT (close E O t k) i:=by{intro i j hi hj Zf kL he;by_cases e:i=t;{subst e;rw[ht',hg,ay (Or.inr ⟨hi,hj⟩)]};rw[hsame i e (by omega),hg,ax,he];rintro(q|⟨q1,q2⟩);{subst q;omega};exact e (h.inj i t hi (by omega))};refine⟨by rw[zi];exact QV,h.lO,hk,jV.2,?_,?_,?_,?_,?_,?_,?_,?_,h.inj,?_,?_⟩;{intro x hx;have h1:=h.st x (List.mem_cons_of_mem _ hx);have h2:=jV.1 x hx;exact⟨by omega,h1.2.1,by rw[hsame x (by omega) (qE x h1.2.1)];exact h1.2.2⟩};{intro j hj;have:=h.out j (by omega);refine⟨?_,this.2⟩;rw[hg,ax (by omega)];exact this.1};{intro j;have:=h.low j;rw[hg];split<;>omega};{intro j hj hoj hjs;by_cases e:j=t;{subst e;rw[ht',az];exact⟨by omega,h12⟩};have hjk:j≠k:=by{rintro rfl;rw[dz]at hoj;omega};rw[hsame j e (qE j hoj)];exact h.cl j (by omega) hoj (by rw[List.mem_cons,not_or];exact⟨e,hjs⟩)};{intro j hj kL;have hjk:j≠k:=by{rintro rfl;omega};obtain⟨t2,a1,a2,a3,a4⟩:=h.el j (by omega) kL;exact⟨t2,a1,a2,a3,Fg t2 j (by omega) a3.symm a2 kL a4⟩};{intro j hoj kL;rw[hsame j (by rintro rfl;rw[htk.2.1]at hoj;cases hoj) kL];exact h.ot j hoj kL};{intro j hj;obtain⟨a1,a2,a3,a4,a5⟩:=h.oo j hj;exact⟨a1,a2,by omega,a4,Fg j (aT O j).toNat hj (by omega) a1 a4 a5⟩};{intro j hj hjs;by_cases e:j=t;{subst e;rw[ht'];exact Iu};rw[hsame j e (by have:=(h.oo j hj).1;omega)];exact h.oe j hj (by rw[List.mem_cons,not_or];exact⟨e,hjs⟩)};{intro i j hoi hij QW kL;by_cases e:i=t;{subst e;rw[ht']at QW ⊢;rw[hsame j (by omega) kL];exact(h.low j).2.1};rw[hsame i e (qE i hoi)]at QW ⊢;by_cases e2:j=t;{subst e2;exfalso;by_cases WN:i∈j::S;{have:=(h.st i WN).2.2;omega};have:=h.n2 j (by simp) i hij hoi WN;omega};rw[hsame j e2 kL];exact h.n1 i j hoi hij QW kL};intro x hx i hi hoi his;have hxt:=jV.1 x hx;have e:i≠t:=by{omega};rw[hsame i e (qE i hoi)];exact h.n2 x (List.mem_cons_of_mem _ hx) i hi hoi (by rw[List.mem_cons,not_or];exact⟨e,his⟩)
theorem Inv.gK:∀(f k:Nat)(E O:List Int)(S:List Nat){Ef Of:List Int},Inv xs k E O S->go xs f k E O S=(Ef,Of,true)->
   (∃m,m+1=xs.length/\op xs m=12/\Inv xs m Ef Of [])/\(∀j,j<k->St.opens (op xs j)=true->j∉S->aT Ef j=aT E j)/\(∀j∈S,(k:Int)<=aT Ef j)
 |0,k,E,O,S,Ef,Of,h,hgo=>by simp[go]at hgo
 | f + 1, k, E,O,S,Ef,Of,h,hgo=>by
   by_cases hk:xs.length<=k
   · rw[mf hk]at hgo;simp at hgo
   have hk:k<xs.length:=by omega
   rcases ho:St.opens (op xs k)with _|_
   · by_cases h11:op xs k=11
     · rcases S with _|⟨t,S'⟩
       · rw[iA hk ho h11]at hgo;simp at hgo
       · by_cases h2:op xs t=10/\aT O t<0
         · rw[iw hk ho h11 h2]at hgo
           obtain⟨a,b,c⟩:=Inv.gK f (k+1) E _ _ (h.F5 hk h11 h2.1 h2.2) hgo
           exact⟨a,fun j hj=>b j (by omega),fun j hj=>by have:=c j hj;omega⟩
         · rw[gI hk ho h11 h2]at hgo;simp at hgo
     · by_cases h12:op xs k=12
       · rcases S with _|⟨t,S'⟩
         · rw[jP hk ho h11 h12]at hgo
           simp only[Prod.mk.injEq,decide_eq_true_eq]at hgo
           obtain⟨rfl,rfl,hl⟩:=hgo
           exact⟨⟨k,hl,h12,h⟩,fun j _ _ _=>rfl,by simp⟩
         · rw[iF hk ho h11 h12]at hgo
           obtain⟨a,b,c⟩:=Inv.gK f (k+1) _ _ _ (h.Ij hk h12) hgo
           have htk:=h.st t (by simp)
           have jV:=List.pairwise_cons.1 h.Ir
           have Iu:aT O t<k:=by
             by_cases e:0<=aT O t
             · exact(h.oo t e).2.2.1
             · omega
           have QV:=h.lE
           have hg:=lY (E:=E) (O:=O) (t:=t) (k:=k) (by omega) (by omega)
           refine⟨a,fun j hj hoj hjs=>?_,fun j hj=>?_⟩
           · rw[List.mem_cons,not_or]at hjs
             rw[b j (by omega) hoj hjs.2,hg,ax]
             rintro(q|⟨q1,q2⟩)
             · exact hjs.1 q
             · have:=(h.oo t q1).2.2.2.1
               rw[←q2,az]at this
               rw[dz]at hoj
               omega
           · rcases List.mem_cons.1 hj with rfl|hj'
             · rw[b j (by omega) htk.2.1 (fun q=>by have:=jV.1 j q;omega),hg,ay (Or.inl rfl)]
               omega
             · have:=c j hj';omega
       · rw[iH hk ho h11 h12]at hgo
         obtain⟨a,b,c⟩:=Inv.gK f (k+1) _ _ _ (h.other hk ho h11) hgo
         exact⟨a,fun j hj=>b j (by omega),fun j hj=>by have:=c j hj;omega⟩
   · rw[iQ hk ho]at hgo
     obtain⟨a,b,c⟩:=Inv.gK f (k+1) _ _ _ (h.push hk ho) hgo
     refine⟨a,fun j hj hoj hjs=>b j (by omega) hoj (by rw[List.mem_cons,not_or];exact⟨by omega,hjs⟩),fun j hj=>?_⟩
     have:=c j (List.mem_cons_of_mem _ hj)
     omega
theorem sF (xs:List (Int×Int))(E:List Int)(at':Int):∀(n:Nat)(S:List Nat),S.Pairwise (fun a b=>b<a)->(∀t∈S,t<n)->(∀j,j<n->(j∈S↔(St.opens (op xs j)=true/\at'<=E.getD j (-1))))->bQ xs E at' n=ig S
 | 0,S,_,h2,_=>by
   rcases S with _|⟨t,S⟩
   · rfl
   · exact absurd (h2 t (by simp)) (by omega)
 | n + 1,S,h1,h2,h3=>by
   unfold bQ
   by_cases hp:St.opens (op xs n)=true/\at'<=E.getD n (-1)
   · rw[ay hp]
     have hm:=(h3 n (by omega)).2 hp
     rcases S with _|⟨t,S⟩
     · simp at hm
     · have hs:=List.pairwise_cons.1 h1
       have ht:t=n:=by
         rcases List.mem_cons.1 hm with e|e
         · exact e.symm
         · have:=hs.1 n e
           have:=h2 t (by simp)
           omega
       subst ht
       rw[sF xs E at' t S hs.2 hs.1 (fun j hj=>?_)]
       · rfl
       · rw[←h3 j (by omega),List.mem_cons]
         exact⟨fun h=>Or.inr h,fun h=>h.resolve_left (by omega)⟩
   · rw[ax hp]
     have hm:n∉S:=fun h=>hp ((h3 n (by omega)).1 h)
     exact sF xs E at' n S h1 (fun t ht=>by have:=h2 t ht;have:t≠n:=(by rintro rfl;exact hm ht);omega) (fun j hj=>h3 j (by omega))
theorem Inv.AA {f:Nat}{Ef Of:List Int}(h:Inv xs k E O S)(hgo:go xs f k E O S=(Ef,Of,true)):bQ xs Ef k k=ig S:=by obtain⟨-,b,c⟩:=Inv.gK f k E O S h hgo;refine sF xs Ef k k S h.Ir (fun t ht=>(h.st t ht).1) (fun j hj=>⟨fun hm=>⟨(h.st j hm).2.1,c j hm⟩,fun⟨h1,h2⟩=>?_⟩);by_cases hm:j∈S;{exact hm};have:=b j hj h1 hm;have:=(h.low j).2.1;unfold aT at*;omega
structure Fin (xs:List (Int×Int))(E O:List Int):Prop where
 lE:E.length=xs.length
 lO:O.length=xs.length
 f1:∀i,i<xs.length->(0<=aT E i↔(St.opens (op xs i)=true\/op xs i=11))
 f2:∀i,i<xs.length->0<=aT O i->op xs i=10/\(i:Int)<aT O i/\aT O i<aT E i/\aT E (aT O i).toNat=aT E i
 f3:∀i,i<xs.length->0<=aT E i->(i:Int)<aT E i/\aT E i<xs.length/\op xs (aT E i).toNat=12
 f4:∀i j,St.opens (op xs i)=true->i<j->(j:Int)<aT E i->op xs j≠11->aT E j<aT E i
theorem Inv.fin {m:Nat}(h:Inv xs m E O [])(hm:m+1=xs.length)(h12:op xs m=12):Fin xs E O:=by have hop:∀i,i<xs.length->(St.opens (op xs i)=true\/op xs i=11)->(i:Int)<aT E i/\op xs (aT E i).toNat=12:=by{intro i hi ho;have him:i≠m:=by{rintro rfl;rw[dz]at ho;omega};rcases ho with ho|ho;{exact h.cl i (by omega) ho (by simp)};obtain⟨t,a1,a2,a3,a4⟩:=h.el i (by omega) ho;have:=h.oe t (by omega) (by simp);have h2:=h.cl t (by omega) (by rw[dz];omega) (by simp);rw[a4];exact⟨by omega,h2.2⟩};have hf1:∀i,i<xs.length->(0<=aT E i↔(St.opens (op xs i)=true\/op xs i=11)):=by{intro i hi;refine⟨fun h0=>?_,fun ho=>by have:=(hop i hi ho).1;omega⟩;by_cases ho:St.opens (op xs i)=true;{exact Or.inl ho};by_cases h11:op xs i=11;{exact Or.inr h11};have:=h.ot i (by simpa using ho) h11;omega};refine⟨h.lE,h.lO,hf1,?_,?_,h.n1⟩;{intro i hi h0;obtain⟨a1,a2,a3,a4,a5⟩:=h.oo i h0;exact⟨a1,a2,h.oe i h0 (by simp),a5⟩};intro i hi h0;have:=hop i hi ((hf1 i hi).1 h0);have h3:=(h.low i).2.1;exact⟨this.1,by omega,this.2⟩
theorem FK (h:isOk xs=true):Fin xs (ends xs) (aS xs):=by
 have h2:(all xs).2.2=true:=by rw[isOk,au]at h;exact h.2
 obtain⟨⟨m,hm,h12,hi⟩,-⟩:=Inv.gK (xs:=xs) (Ef:=(all xs).1) (Of:=(all xs).2.1) (xs.length+1) 0 _ _ _ (Inv.first xs) (by
  show all xs=_
  rw[←h2])
 rw[ends,aS,ay h,ay h]
 exact hi.fin hm h12
end aG
theorem NI.out {xs:List (Int×Int)}{len:Nat}{w w1 w2 wr:World}{gE cE gO cO gS cS k:Nat}{E O:List Int}{S:List Nat}(h:NI xs len w w1 w2 wr gE cE gO cO gS cS k E O S)(hg:(decide (xs.length<=80)&&St.bi xs)=true){r:Bool}(hr:aG.go xs (len+1-k) k E O S=(E,O,r)):aG.isOk xs=r/\(r=true->OI wr w.heap.size (.slice (some ⟨gE,0,none⟩) len cE) (aG.ends xs)/\OI wr w.heap.size (.slice (some ⟨gO,0,none⟩) len cO) (aG.aS xs)):=by have he:=h.eq;rw[hr]at he;have h1:aG.isOk xs=r:=by{rw[aG.isOk,hg,he,Bool.true_and]};refine⟨h1,fun hr=>?_⟩;subst hr;obtain⟨l1,l2⟩:=h.I6;have WJ:w.heap.size<=w1.heap.size:=by{have:=(h.rE.lt gE rfl).1;have:=h.eE;omega};have e1:aG.ends xs=E:=by{rw[aG.ends,ay h1,he]};have e2:aG.aS xs=O:=by{rw[aG.aS,ay h1,he]};rw[e1,e2];unfold OI;rw[l1,l2];exact⟨h.rE,OI.mono (v:= .slice (some ⟨gO,0,none⟩) len cO) (xs:=O) (by unfold OI;rw[l2];exact h.rO) WJ |> fun q=>by unfold OI at q;rw[l2]at q;exact q⟩
theorem mV (a:Option Addr)(len cap:Nat)(xs:List (Int×Int))(h20:len<=1048576)(w:World)(hs:SL w a len xs):Calls Tryz.prog 81 #[.slice a len cap] w fun e w'=>∃gE cE gO cO,e= .returned (.tuple #[.slice (some ⟨gE,0,none⟩) len cE, .slice (some ⟨gO,0,none⟩) len cO, .bool (aG.isOk xs)])/\(aG.isOk xs=true->OI w' w.heap.size (.slice (some ⟨gE,0,none⟩) len cE) (aG.ends xs)/\OI w' w.heap.size (.slice (some ⟨gO,0,none⟩) len cO) (aG.aS xs))/\Below w.heap.size w w':=by have hl:=hs.1;obtain⟨i0,hi,hz0,hz1,hz2⟩:=info_parts bN;go_enter Tryz.func81,Tryz.ntmps81;go_wp2_with fail;refine(mM len (by omega) w).mono ?_;rintro e w1 ⟨gE,cE,rfl,hE1,hB1⟩;have WO:=(World.ownsRow.lt hE1 gE rfl);go_wp2_with fail;refine(mM len (by omega) w1).mono ?_;rintro e w2 ⟨gO,cO,rfl,hO2,hB2⟩;have QX:=(World.ownsRow.lt hO2 gO rfl);have hE2:=hE1.kept hB2;have hBa:=hB1.trans (hB2.mono hB1.size);have hB3:=aA w2 (.cells #[] 2);have QY:=OI.empty w2;have QZ:=hE2.kept hB3;have hO3:=hO2.kept hB3;have hBb:=hBa.trans (hB3.mono hBa.size);have hs3:=hs.kept hBb;have hcon:=rD a len cap xs _ hs3;clear hE1 hE2 hO2 hB1 hB2 hBa;rcases hok:(decide (len<=80)&&St.bi xs)with _|_;{rw[hok]at hcon;have kK:aG.isOk xs=false:=by{rw[aG.isOk,hl,hok,Bool.false_and]};have WQ:=ae kK;clear QZ hO3 QY hs3 hs;go_wp2_with fail;refine hcon.mono ?_;rintro e w4 ⟨rfl,hB4⟩;have bH:=hBb.trans (hB4.mono hBb.size);clear hcon;go_wp2;go_ret3;exact⟨gE,cE,gO,cO,by rw[WQ.out];rfl,(fun h=>by rw[WQ.out]at h;cases h),bH⟩};rw[hok]at hcon;have jh:Hid ((decide (xs.length<=80)&&St.bi xs)=true):=by{rw[hl];exact hok};rw[au]at hok;have h80:len<=80:=of_decide_eq_true hok.1;have HA:=ae hok.2;clear hok;go_wp2_with fail;refine hcon.mono ?_;rintro e w4 ⟨rfl,hB4⟩;have hni:NI xs len w w1 w2 w4 gE cE gO cO w2.heap.size 0 0 (aG.dP len) (aG.dP len) []:=by{have Q0:=QZ.kept hB4;have hO4:=hO3.kept hB4;have Da:=QY.kept hB4;have hnl:(aG.dP len).length=len:=by{simp[aG.dP]};unfold OI at Q0 hO4 Da;rw[hnl]at Q0 hO4;refine⟨Q0,hO4,Da,by rw[←hl];rfl,Nat.le_refl _,by simp,by simp,fun t _=>by simp[aG.dP,ah,List.getElem?_replicate];split<;>rfl,hBb.trans (hB4.mono hBb.size),by have:=hB4.size;simp at this;omega,WO.2,⟨QX.1,QX.2⟩⟩};have WR:=ae hni;clear hcon QZ hO3 QY hB4 hBb hB3 WO QX hni hs3;obtain⟨-,-,hrow⟩:=hs;have HL:=ae hl;clear hl;go_wp2;go_loopw [7,8] (fun v i wr=>∃(k:Nat)(E O:List Int)(S:List Nat)(gS cS:Nat),v= .slice (some ⟨gS,0,none⟩) S.length cS/\i= .int .i64 k/\k<=len/\NI xs len w w1 w2 wr gE cE gO cO gS cS k E O S) (fun _ i _=>len-(intOf i).toNat);(case atStart=>exact⟨0,_,_,[],_,_,rfl,rfl,Nat.zero_le _,WR.out⟩);case round=>clear WR;obtain⟨k,E,O,S,gS,cS,rfl,rfl,hk,hni⟩:=hrel;have HN:=ae hni;have hB:=hni.dS;have hSk:=hni.sl;obtain⟨hle,hlo⟩:=hni.I6;by_cases hlt:k<len;{have bJ:(k:Int)<(len:Int):=by{omega};rcases hrow with h0|⟨b,off,rfl,hb,hx⟩;{omega};have hkx:k<xs.length:=by{rw[HL.out];exact hlt};have hx0:=(hB.cell (p:=⟨b,off+k*2,none⟩) hb).trans (hx k hlt).1;have hx1:=(hB.cell (p:=⟨b,off+k*2+1,none⟩) hb).trans (hx k hlt).2;have uo:=St.bf HA.out hkx;obtain⟨⟨p,q⟩,hpq⟩:∃x,xs.getD k (0,0)=x:=⟨_,rfl⟩;rw[hpq]at hx0 hx1 uo;simp only at hx0 hx1 uo;have hop:aG.op xs k=p:=by{rw[aG.op,hpq]};have HX:=ae hx;have qE:St.tJ p q=St.opens p:=by{rw[St.tJ,uo,Bool.true_and]};have hcon:=oO p q wr;rw[qE]at hcon;have hlb:b<wr.heap.size:=aj hb hB.size;clear hx hpq qE uo;rcases ho:St.opens p with _|_;{rw[ho]at hcon;have WS:St.opens (aG.op xs k)=false:=by{rw[hop];exact ho};have HO:=ae (ak hop WS);clear hop WS;go_wp2_with fail;refine hcon.mono ?_;rintro e w5 ⟨rfl,bO⟩;have dO:=hni.kept bO;have y0:=(bO.cell (p:=⟨b,off+k*2,none⟩) hlb).trans hx0;have y1:=(bO.cell (p:=⟨b,off+k*2+1,none⟩) hlb).trans hx1;have Zg:b<w5.heap.size:=aj hlb bO.size;have pg:=dO.dS;clear hcon hni hB bO hx0 hx1 hlb HN;by_cases h11:p=11;{subst h11;have hop:=HO.out.1;rcases S with _|⟨t,S'⟩;{have hgo:=aG.iA (f:=len-k) (E:=E) (O:=O) hkx HO.out.2 hop;obtain⟨e1,-⟩:=dO.out jh.out (by rw[show len+1-k=(len-k)+1 by omega];exact hgo);have uq:=ae e1;have HB:=ae pg;clear dO hgo pg e1 hop;simp only[List.length_nil];go_wp2;go_ret3;exact⟨gE,cE,gO,cO,by rw[uq.out];rfl,(fun h=>by rw[uq.out]at h;cases h),HB.out⟩};have htk:t<k:=dO.st t (by simp);have hso:=dO.so t (by simp);have htop:=dO.qC;have hxt:=(pg.cell (p:=⟨b,off+t*2,none⟩) hb).trans (HX.out t (by omega)).1;have hot:=gQ dO.rO (k:=t) (by omega) (-1);have J4:(xs.getD t (0,0)).1=aG.op xs t:=rfl;rw[J4]at hxt;obtain⟨pt,hpt⟩:∃x,aG.op xs t=x:=⟨_,rfl⟩;obtain⟨ot,wu⟩:∃x,O.getD t (-1)=x:=⟨_,rfl⟩;rw[hpt]at hxt;rw[wu]at hot hso;have Q3:S'.length<=80:=by{have:=dO.sl;simp at this;omega};have Ac:=ae dO;have Iw:=ae (ak hpt wu);have hfO:=dO.rO.frozenAt t;clear dO hpt wu J4 hop;simp only[List.length_cons];by_cases h10:pt=10;{subst h10;by_cases hneg:ot<0;{have hneg':¬(0<=ot):=by{omega};have Q4:=ae (Ac.out.F5 hkx HL.out HO.out.2 HO.out.1 ⟨Iw.out.1,by rw[Iw.out.2];exact hneg⟩);clear pg;go_wp2;go_roundw;(case rel=>exact⟨k+1,E,O.set t (k:Int),t::S',gS,cS,rfl,by simp,by omega,Q4.out⟩);case measure=>simp[intOf];omega};have hneg':0<=ot:=by{omega};have hgo:=aG.gI (f:=len-k) (E:=E) (O:=O) (t:=t) (S':=S') hkx HO.out.2 HO.out.1 (by rw[Iw.out.1,Iw.out.2];omega);obtain⟨e1,-⟩:=Ac.out.out jh.out (by rw[show len+1-k=(len-k)+1 by omega];exact hgo);have uq:=ae e1;have HB:=ae pg;clear hgo pg e1;go_wp2;go_ret3;exact⟨gE,cE,gO,cO,by rw[uq.out];rfl,(fun h=>by rw[uq.out]at h;cases h),HB.out⟩};have Zh:(pt==10)=false:=by{simpa using h10};have hgo:=aG.gI (f:=len-k) (E:=E) (O:=O) (t:=t) (S':=S') hkx HO.out.2 HO.out.1 (by rw[Iw.out.1,Iw.out.2];omega);obtain⟨e1,-⟩:=Ac.out.out jh.out (by rw[show len+1-k=(len-k)+1 by omega];exact hgo);have uq:=ae e1;have HB:=ae pg;clear hgo pg e1;go_wp2;go_ret3;exact⟨gE,cE,gO,cO,by rw[uq.out];rfl,(fun h=>by rw[uq.out]at h;cases h),HB.out⟩};by_cases h12:p=12;{subst h12;have hop:=HO.out.1;have Ad:aG.op xs k≠11:=by{rw[hop];decide};rcases S with _|⟨t,S'⟩;{have hgo:=aG.jP (f:=len-k) (E:=E) (O:=O) hkx HO.out.2 Ad hop;have hout:=dO.out jh.out (by rw[show len+1-k=(len-k)+1 by omega];exact hgo);have uq:=ae hout;have HB:=ae pg;clear dO hgo pg hout hop Ad;simp only[List.length_nil];by_cases hkl:k+1=len;{have PE:((k:Int)==(len:Int)-1)=true:=by{simp;omega};have HK:=ae hkl;clear hkl;go_wp2;go_ret3;have hd:decide (k+1=xs.length)=true:=by{rw[HL.out];exact decide_eq_true HK.out};exact⟨gE,cE,gO,cO,by rw[uq.out.1,hd];rfl,fun _=>uq.out.2 hd,HB.out⟩};have PE:((k:Int)==(len:Int)-1)=false:=by{simp;omega};have HK:=ae hkl;clear hkl;go_wp2;go_ret3;have hd:decide (k+1=xs.length)=false:=by{rw[HL.out];exact decide_eq_false HK.out};exact⟨gE,cE,gO,cO,by rw[uq.out.1,hd];rfl,(fun h=>by rw[uq.out.1,hd]at h;cases h),HB.out⟩};have htk:t<k:=dO.st t (by simp);have hso:=dO.so t (by simp);have htop:=dO.qC;have hot:=gQ dO.rO (k:=t) (by omega) (-1);have het:=gQ dO.rE (k:=t) (by omega) (-1);obtain⟨ot,wu⟩:∃x,O.getD t (-1)=x:=⟨_,rfl⟩;rw[wu]at hot hso;have Q3:S'.length<=80:=by{have:=dO.sl;simp at this;omega};have hcls:=fun wA hA=>dO.Ij (wA:=wA) hkx HL.out HO.out.2 Ad hop hA;rw[wu]at hcls;have hgs:=(dO.rS.lt gS rfl);have hgo:=(dO.rO.lt gO rfl);have hge:=(dO.rE.lt gE rfl);have hne1:gE≠gO:=by{have:=dO.eE;have:=dO.eO;omega};have hne2:gE≠gS:=by{have:=dO.eE;have:=dO.eO;omega};have hfE:=fun j=>dO.rE.frozenAt j;have hSc:S'.length+1<=cS:=by{rcases dO.rS.2 with⟨h',_⟩|⟨g',c',cur,h',_,_,h1,_⟩;{cases h'};cases h';simpa using h1};have HC:=ae hcls;simp only[List.length_cons];by_cases hneg:ot<0;{have hneg':¬(0<=ot):=by{omega};clear dO hcls hop Ad wu;go_wp2;go_roundw;(case rel=>exact⟨k+1,_,_,S',gS,cS,rfl,by simp,by omega,HC.out _ (by rw[ax hneg'])⟩);case measure=>simp[intOf];omega};have hneg':0<=ot:=by{omega};obtain⟨m,rfl⟩:∃m:Nat,ot=m:=⟨ot.toNat,by omega⟩;have hst:=(dO.rE.stored t (.int .i64 (k:Int))).1;rw[←eY]at hst;have hem:=gQ hst (k:=m) (by omega) (-1);have hfm:=hst.frozenAt m;clear hst;clear dO hcls hop Ad wu;go_wp2;go_roundw;(case rel=>exact⟨k+1,_,_,S',gS,cS,rfl,by simp,by omega,HC.out _ (by rw[ay hneg',az])⟩);case measure=>simp[intOf];omega};have Ad:(p==11)=false:=by{simpa using h11};have Zi:(p==12)=false:=by{simpa using h12};have Q4:=ae (dO.step hkx HL.out HO.out.2 (by rw[HO.out.1];exact h11) (by rw[HO.out.1];exact h12));clear dO pg;go_wp2;go_roundw;(case rel=>exact⟨k+1,E,O,S,gS,cS,rfl,by simp,by omega,Q4.out⟩);case measure=>simp[intOf];omega};rw[ho]at hcon;go_wp2_with fail;refine hcon.mono ?_;rintro e w5 ⟨rfl,bO⟩;have Ac:=ae (hni.kept bO);have HRW:=ae ((hni.kept bO).rS.alloc (.cells #[.int .i64 (k:Int)] 2));have hsz5:w2.heap.size<=w5.heap.size:=(hni.kept bO).sz;clear hcon hni hB bO;go_wp2_with(at_builtin;refine wpList_append_own _ rfl _ _ 35 rfl w2.heap.size 2 i0 (.int .i64 0) 1 8 Tryz.underlying35 hi hz0 hz1 hz2 rfl (by decide) _ _ _ rfl HRW.out ⟨w5.heap.size,0,none⟩ 1 1 [.int .i64 (k:Int)] rfl rfl (fG _ _ _ _ rfl) (by simp[Value.oneCell']) (by simp only[maxLen];omega) (by omega) (by simp;omega) ?_;intro v' wA hown' hgrow _;obtain⟨g',cap',rfl⟩:=ownsRow_succ hown');go_roundw;(case rel=>refine⟨k+1,E,O,k::S,g',cap',rfl,by simp,by omega,(Ac.out.kept (aA w5 _)).push hkx HL.out (by rw[hop];exact ho) hown' hgrow⟩);case measure=>simp[intOf];omega};have hke:k=len:=by{omega};subst hke;clear hrow;have hgo:=aG.mf (xs:=xs) (f:=0) (i:=k) (E:=E) (O:=O) (S:=S) (by rw[HL.out];exact Nat.le_refl _);obtain⟨e1,-⟩:=hni.out jh.out (by rw[show k+1-k=0+1 by omega];exact hgo);have uq:=ae e1;have HB:=ae hni.dS;clear hni hgo hB e1;go_wp2;go_ret3;exact⟨gE,cE,gO,cO,by rw[uq.out];rfl,(fun h=>by rw[uq.out]at h;cases h),HB.out⟩
theorem aG.xN (xs:List (Int×Int))(E:List Int)(at':Int)(k:Nat):∃f:Nat->List Int,f k=[]/\(∀j,j<k->f j=f (j+1)++(if St.opens (aG.op xs j)=true/\at'<=E.getD j (-1)then[(j:Int)]else[]))/\aG.bQ xs E at' k=f 0:=by
 suffices h:∀k,∃f:Nat->List Int,(∀j,k<=j->f j=[])/\(∀j,j<k->f j=f (j+1)++(if St.opens (aG.op xs j)=true/\at'<=E.getD j (-1)then[(j:Int)]else[]))/\aG.bQ xs E at' k=f 0 by obtain⟨f,h1,h2,h3⟩:=h k;exact⟨f,h1 k (Nat.le_refl _),h2,h3⟩
 intro k
 induction k with
 |zero=>exact⟨fun _=>[],fun _ _=>rfl,fun j hj=>by omega,rfl⟩
 |succ k ih=>
  obtain⟨f,h1,h2,h3⟩:=ih
  obtain⟨c,hc⟩:∃c:List Int,(if St.opens (aG.op xs k)=true/\at'<=E.getD k (-1)then[(k:Int)]else[])=c:=⟨_,rfl⟩
  refine⟨fun j=>if k+1<=j then[]else c++f j,fun j hj=>ay hj,fun j hj=>?_,?_⟩
  · dsimp only;rw[ax (show¬k+1<=j by omega)];by_cases e:j=k;{subst e;rw[ay (Nat.le_refl _),h1 j (Nat.le_refl _),List.append_nil,List.nil_append,hc]};rw[ax (show¬k+1<=j+1 by omega),h2 j (by omega),List.append_assoc]
  · dsimp only;rw[ax (show¬k+1<=0 by omega),←h3,←hc];show(if St.opens (aG.op xs k)=true/\at'<=E.getD k (-1)then(k:Int)::aG.bQ xs E at' k else aG.bQ xs E at' k)=_;by_cases h:St.opens (aG.op xs k)=true/\at'<=E.getD k (-1);{rw[ay h,ay h];rfl};rw[ax h,ax h];rfl
theorem qy (a:Option Addr)(len cap:Nat)(xs:List (Int×Int))(h80:len<=80)(hall:St.bi xs=true)(e:Option Addr)(ec:Nat)(E:List Int)(n:Nat)(hn:n<len)(w:World)(hs:SL w a len xs)(hE:IL w e len E):Calls Tryz.prog 104 #[.slice a len cap, .slice e len ec, .int .i64 n] w fun e w'=>∃v,e= .returned v/\OI w' w.heap.size v (aG.bQ xs E n n)/\Below w.heap.size w w':=by
 obtain⟨i0,hi,hz0,hz1,hz2⟩:=info_parts bN
 obtain⟨f,f0,f1,f2⟩:=aG.xN xs E n n
 have hfl:∀j,j<=n->(f j).length<=n-j:=by
  intro j hj
  obtain⟨d,hd⟩:∃d,n=j+d:=⟨n-j,by omega⟩
  clear f2
  induction d generalizing j with
  |zero=>rw[show j=n by omega,f0];simp
  |succ d ih=>
   have:=ih (j+1) (by omega) (by omega)
   rw[f1 j (by omega),List.length_append]
   split<;>simp<;>omega
 obtain⟨hl,-,hrow⟩:=hs
 obtain⟨hEl,-,WT⟩:=hE
 have HE:=ae hEl
 clear hEl
 have HL:=ae hl
 have HF:=ae (ak f0 (ak f1 (ak f2 hfl)))
 have hr0:=OI.empty w
 have hB0:=(Below.refl w.heap.size w).alloc (Nat.le_refl _) (.cells #[] 2)
 clear hl f0 f1 f2 hfl
 go_enter Tryz.func104,Tryz.ntmps104
 go_wp2
 go_loopw [7,8] (fun v i wr=>∃(k g c:Nat),i= .int .i64 ((k:Int)-1)/\k<=n/\v= .slice (some ⟨g,0,none⟩) (f k).length c/\wr.ownsRow w.heap.size 2 1 (.slice (some ⟨g,0,none⟩) (f k).length c) (f k).length ((f k).map iv)/\Below w.heap.size w wr) (fun _ i _=>(intOf i+1).toNat)
 case atStart=>refine⟨n,_,0,rfl,Nat.le_refl _,by rw[HF.out.1];rfl,?_,hB0⟩;rw[HF.out.1];exact hr0
 case round=>obtain⟨k,g,c,rfl,hk,rfl,hown,hB⟩:=hrel;clear hr0 hB0;rcases Nat.eq_zero_or_pos k with rfl|hkp;{have HOW:=ae hown;clear hown hrow WT;go_wp2;go_ret;refine⟨_,rfl,?_,hB⟩;rw[HF.out.2.2.1];exact HOW.out};obtain⟨j,rfl⟩:∃j,k=j+1:=⟨k-1,by omega⟩;have hij:((j+1:Nat):Int)-1=(j:Int):=by{omega};rw[hij];have hjn:j<len:=by{omega};rcases hrow with h0|⟨b,off,rfl,hb,hx⟩;{omega};rcases WT with h0|⟨b2,kI,rfl,hb2,hx2⟩;{omega};have hx0:=(hB.cell (p:=⟨b,off+j*2,none⟩) hb).trans (hx j hjn).1;have hx1:=(hB.cell (p:=⟨b,off+j*2+1,none⟩) hb).trans (hx j hjn).2;have hy0:=(hB.cell (p:=⟨b2,kI+j,none⟩) hb2).trans (hx2 j hjn);have hok:=St.bf hall (j:=j) (by rw[HL.out];exact hjn);obtain⟨⟨p,q⟩,hpq⟩:∃x,xs.getD j (0,0)=x:=⟨_,rfl⟩;rw[hpq]at hx0 hx1 hok;simp only at hx0 hx1 hok;have hop:aG.op xs j=p:=by{rw[aG.op,hpq]};have hfj:=HF.out.2.1 j (by omega);have hlen:=HF.out.2.2.2 (j+1) (by omega);rw[hop]at hfj;obtain⟨ej,Q5⟩:∃x,E.getD j 0=x:=⟨_,rfl⟩;have hEl:E.length=len:=HE.out;have J5:E.getD j (-1)=ej:=by{rw[←Q5,ah,ah,ai (by omega)];rfl};rw[Q5]at hy0;rw[J5]at hfj;have qE:St.tJ p q=St.opens p:=by{rw[St.tJ,hok,Bool.true_and]};have hcon:=oO p q wr;rw[qE]at hcon;have J6:b2<wr.heap.size:=aj hb2 hB.size;obtain⟨m,hm⟩:∃m,(f (j+1)).length=m:=⟨_,rfl⟩;rw[hm]at hown hlen ⊢;have HM:=ae (ak hm hfj);clear hx hx2 hpq qE hok hop Q5 J5 hEl hm hfj;rcases ho:St.opens p with _|_;{rw[ho]at hcon;go_wp2_with fail;refine hcon.mono ?_;rintro e w5 ⟨rfl,bO⟩;have HOW:=ae (aH hown bO);have bq:=hB.trans (bO.mono hB.size);clear hcon hown bO hB;go_wp2;go_roundw;(case rel=>obtain⟨hm,hfj⟩:=HM.out;rw[ho,ax (by simp),List.append_nil]at hfj;refine⟨j,g,c,rfl,by omega,by rw[hfj,hm],?_,bq⟩;rw[hfj,hm];exact HOW.out);case measure=>first|(simp[intOf];done)|(simp[intOf];omega)};rw[ho]at hcon;by_cases hge:(n:Int)<=ej;{go_wp2_with fail;refine hcon.mono ?_;rintro e w5 ⟨rfl,bO⟩;have z0:=(bO.cell (p:=⟨b2,kI+j,none⟩) J6).trans hy0;have hown5:=aH hown bO;have bq:=hB.trans (bO.mono hB.size);have hBx:=bq.alloc bq.size (.cells #[.int .i64 (j:Int)] 2);have HRW:=ae (hown5.alloc (.cells #[.int .i64 (j:Int)] 2));have hsz:=bq.size;clear hcon hown bO hB hown5;go_wp2_with(at_builtin;refine wpList_append_own _ rfl _ _ 35 rfl w.heap.size 2 i0 (.int .i64 0) 1 8 Tryz.underlying35 hi hz0 hz1 hz2 rfl (by decide) _ _ _ rfl HRW.out ⟨w5.heap.size,0,none⟩ 1 1 [.int .i64 (j:Int)] rfl rfl (fG _ _ _ _ rfl) (by simp[Value.oneCell']) (by simp only[maxLen];omega) (by omega) (by simp;omega) ?_;intro v' wA hown' hgrow _;have hB4:=dF HRW.out hBx (by simp;omega) hgrow;obtain⟨g',cap',rfl⟩:=ownsRow_succ hown');go_roundw;(case rel=>obtain⟨hm,hfj⟩:=HM.out;rw[ho,ay ⟨rfl,hge⟩]at hfj;refine⟨j,g',cap',rfl,by omega,by rw[hfj,List.length_append,hm];rfl,?_,hB4⟩;rw[hfj,List.length_append,hm,List.map_append];exact hown');case measure=>first|(simp[intOf];done)|(simp[intOf];omega)};go_wp2_with fail;refine hcon.mono ?_;rintro e w5 ⟨rfl,bO⟩;have z0:=(bO.cell (p:=⟨b2,kI+j,none⟩) J6).trans hy0;have HOW:=ae (aH hown bO);have bq:=hB.trans (bO.mono hB.size);clear hcon hown bO hB;go_wp2;go_roundw;(case rel=>obtain⟨hm,hfj⟩:=HM.out;rw[ax (by rintro⟨_,h⟩;omega),List.append_nil]at hfj;refine⟨j,g,c,rfl,by omega,by rw[hfj,hm],?_,bq⟩;rw[hfj,hm];exact HOW.out);case measure=>first|(simp[intOf];done)|(simp[intOf];omega)
section
open Go.ChangeShapes Go.WideShapes Go.ChangeAt Go.RowKit Go.Shelf Go.Deep
theorem OI.il {W:World}{n₀:Nat}{a:Option Addr}{n c:Nat}{xs:List Int}(h:OI W n₀ (.slice a n c) xs):n=xs.length/\IL W a n xs:=by obtain⟨a',c',e,hil⟩:=h.slice;simp only[Value.slice.injEq]at e;obtain⟨rfl,rfl,rfl⟩:=e;exact⟨rfl,hil⟩
theorem jk {W W':World}(h:W.grownBy W' none):Below W.heap.size W W':=⟨h.os,h.tape,h.output,h.size,fun k hk=>h.block k hk (by simp)⟩
end
theorem IL.aT {w:World}{a:Option Addr}{n:Nat}{E:List Int}(h:IL w a n E)(hn:0<n):∃b off,a=some ⟨b,off,none⟩/\∀(wx:World),Below w.heap.size w wx->∀j,j<n->wx.cell? ⟨b,off+j,none⟩=some (.int .i64 (aG.aT E j)):=by obtain⟨hl,-,h0|⟨b,off,rfl,hb,hx⟩⟩:=h;{omega};refine⟨b,off,rfl,fun wx hB j hj=>?_⟩;have e:aG.aT E j=E.getD j 0:=by{unfold aG.aT;rw[ah,ah,ai (by omega)];rfl};rw[e];exact(hB.cell (p:=⟨b,off+j,none⟩) hb).trans (hx j hj)
theorem ed (W:World)(n:Nat):Below W.heap.size W (W.drewN n):=⟨rfl,rfl,rfl,Nat.le_refl _,fun _ _=>rfl⟩
structure Still (p:Prop):Prop where
 out:p
def iX (W:World)(g:Nat)(t:TypeId)(vs:List Value):Prop:=W.heap[g]?=some (.cells vs.toArray t (0,0))
theorem iX.lt {W:World}{g:Nat}{t:TypeId}{vs:List Value}(h:iX W g t vs):g<W.heap.size:=(Array.getElem?_eq_some_iff.1 h).1
theorem iX.cell {W:World}{g:Nat}{t:TypeId}{vs:List Value}(h:iX W g t vs){j:Nat}{v:Value}(hj:vs[j]?=some v):W.cell? ⟨g,j,none⟩=some v:=by rw[cell_of_row W g j _ t _ h];simpa using hj
theorem iX.frozen {W:World}{g:Nat}{t:TypeId}{vs:List Value}(h:iX W g t vs)(j:Nat):W.frozen? ⟨g,j,none⟩=false:=frozen_of_row W g j _ t h
theorem iX.kept {W W':World}{g:Nat}{t:TypeId}{vs:List Value}(h:iX W g t vs)(hB:Below W.heap.size W W'):iX W' g t vs:=(hB.block g h.lt).trans h
theorem iX.dB {W W':World}{g:Nat}{t:TypeId}{vs:List Value}{row:Option Nat}(h:iX W g t vs)(hg:W.grownBy W' row)(hne:some g≠row):iX W' g t vs:=(hg.block g h.lt hne).trans h
theorem iX.set {W:World}{g:Nat}{t:TypeId}{vs:List Value}(h:iX W g t vs)(j:Nat)(v:Value):iX (W.setCell ⟨g,j,none⟩ v) g t (vs.set j v):=by have:=heap_setCell_same W g j vs.toArray t v h;unfold iX;rw[this];simp
theorem iX.row {W:World}{g:Nat}{t:TypeId}{vs:List Value}(h:iX W g t vs)(ws:List Value):iX (W.setRow g ws.toArray) g t ws:=setRow_heap W g _ _ t _ h
theorem aI {w w1 w2:World}{r:Nat}(h:Below w.heap.size w w1)(hg:w1.grownBy w2 (some r))(hr:w.heap.size<=r):Below w.heap.size w w2:=
 ⟨hg.os.trans h.os,hg.tape.trans h.tape,hg.output.trans h.output,Nat.le_trans h.size hg.size,fun k hk=>(hg.block k (aj hk h.size) (by simp only[ne_eq,af];omega)).trans (h.block k hk)⟩
section
variable {P : Program}
theorem uN {ops:Array Oper}{rest:List Oper}{o:Oper}{a:Act}{w:World}{Q:Exit->Act->World->Prop}(hgd:o.guard=none)(t:TypeId)(x:Operand)(ho:o.op= .box t x)(zs:List Value)(hx:a.eval x= .agg zs.toArray)(h:∀g w',Hid (g=w.heap.size)->iX w' g t zs->Below w.heap.size w w'->wpList P ops Q rest (a.put o.dst (.pointer (some ⟨g,0,none⟩))) w'):wpList P ops Q (o::rest) a w:=by refine wpList_plain hgd fun K hK=>?_;unfold Oper.wp execOp;simp only[ho,hx,Instr.box,Sem.run_bind];simp[newVar,Value.cells];exact hK _ _ (h w.heap.size (w.alloc (.cells zs.toArray t)) rfl (heap_alloc_last w _) (Below.alloc (Below.refl _ _) (Nat.le_refl _) _))
theorem Bn {ops:Array Oper}{rest:List Oper}{o:Oper}{a:Act}{w:World}{Q:Exit->Act->World->Prop}(t:TypeId)(x:Operand)(ho:o.op= .box t x)(h:Still (wpList P ops Q (o::rest) a w)):wpList P ops Q (o::rest) a w:=h.out
theorem xP {ops:Array Oper}{rest:List Oper}{o:Oper}{a:Act}{w:World}{Q:Exit->Act->World->Prop}(t:TypeId)(ps:Array (Nat×Operand))(ho:o.op= .build t ps)(h:Still (wpList P ops Q (o::rest) a w)):wpList P ops Q (o::rest) a w:=h.out
variable {C : World → Prop}
end
theorem FI {bs:List Int}:∀v∈bs.map iv,v.oneCell'=true:=by intro v hv;obtain⟨b,_,rfl⟩:=List.mem_map.1 hv;rfl
theorem Dr {f:Int->Value}{bs:List Int}{k:Nat}(h:k<bs.length):(bs.map f)[k]?=some (f (bs.getD k 0)):=by rw[List.getElem?_map,ai h,ah,ai h];rfl
end Go.Proofs.YtlbkdlnalgkjeaaGreat
