/- Own text. -/
import Derived.Test.YthkjdjmjdlimnaaGreatKV04
import Derived.StillTail
namespace Go.Proofs.YthkjdjmjdlimnaaGreat
open Go.RowKit Go.Shelf
set_option linter.all false
set_option maxRecDepth 100000
set_option maxHeartbeats 16000000
variable {B N c e g i j k len n n₀:Nat}{Q:Exit->Act->World->Prop}{W W' W1 w w' w1:World}{o:Oper}{row:Option Nat}{t:TypeId}{v v':Value}{zs:List Int}
section
structure KB (N B:Nat)(W W':World):Prop where
 os:W'.os=W.os
 tape:W'.tape=W.tape
 output:W'.output=W.output
 size:W.heap.size<=W'.heap.size
 block:∀k,k<N->k≠B->W'.heap[k]?=W.heap[k]?
theorem KB.refl (N B:Nat)(W:World):KB N B W W:=⟨rfl,rfl,rfl,bI _,fun _ _ _=>rfl⟩
theorem KB.trans {N B:Nat}{U V W:World}(h:KB N B U V)(k:KB N B V W):KB N B U W:=
 ⟨k.os.trans h.os,k.tape.trans h.tape,k.output.trans h.output,fH h.size k.size,fun i h1 h2=>(k.block i h1 h2).trans (h.block i h1 h2)⟩
theorem KB.grown(hg:W.grownBy W' row)(hN:N<=W.heap.size)(h:∀k,row=some k->k=B\/N<=k):KB N B W W':=
 ⟨hg.os,hg.tape,hg.output,hg.size,fun i h1 h2=>hg.block i (by omega) (fun e=>by have:=h i e.symm;omega)⟩
theorem KB.below(hB:Below W.heap.size W W')(hN:N<=W.heap.size):KB N B W W':=
 ⟨hB.os,hB.tape,hB.output,hB.size,fun i h1 h2=>hB.block i (by omega)⟩
theorem KB.mono{M:Nat}(h:KB N B W W')(hM:M<=N):KB M B W W':=
 ⟨h.os,h.tape,h.output,h.size,fun i h1 h2=>h.block i (by omega) h2⟩
def Ty (W:World)(b:Nat)(t:TypeId):Prop:=∃cs fr,W.heap[b]?=some (.cells cs t fr)
theorem Ty.of{b:Nat}(h:Ty W b t)(e:W'.heap[b]?=W.heap[b]?):Ty W' b t:=by obtain⟨cs,fr,h⟩:=h;exact⟨cs,fr,e.trans h⟩
theorem Ty.lt {W:World}{b:Nat}{t:TypeId}(h:Ty W b t):b<W.heap.size:=by obtain⟨cs,fr,h⟩:=h;rcases Nat.lt_or_ge b W.heap.size with k|k;{exact k};rw[KF (by omega)]at h;cases h
theorem Ty.ne{b d:Nat}{u:TypeId}(h:Ty W b t)(k:Ty W d u)(hne:t≠u):b≠d:=by rintro rfl;obtain⟨cs,fr,h⟩:=h;obtain⟨cs',fr',k⟩:=k;rw[h]at k;simp only[af,Obj.cells.injEq]at k;exact hne k.2.1
theorem Ty.set{b:Nat}(h:Ty W b t)(p:Addr)(x:Value):Ty (W.setCell p x) b t:=by by_cases e:b=p.block;{obtain⟨cs,fr,h⟩:=h;subst e;unfold Ty;simp[World.setCell,Array.getElem?_modify,h]};exact h.of (Below.heap_setCell _ _ _ _ e)
theorem Ty.row{xs:List Value}(h:W.ownsRow n₀ e k (.slice (some ⟨g,0,none⟩) n c) n xs):Ty W g e:=by rcases h.2 with⟨h',_⟩|⟨g',c',cur,h',_,hb,_⟩;{cases h'};cases h';exact⟨_,_,hb⟩
theorem CG{b:Nat}{xs:List Value}(h:W.ownsRow n₀ e k v n xs)(hg:W.grownBy W' (some b))(hb:b<n₀):W'.ownsRow n₀ e k v n xs:=by refine aa0 h hg ?_;rcases hv:v.ownBlock with _|g;{exact .inl rfl};refine .inr ?_;have:=(h.lt g hv).1;simp only[ne_eq,af];omega
theorem Dz{b:Nat}{xs:List Value}(h:W.ownsRow n₀ e k v n xs)(hg:W.grownBy W' (some b))(hb:∀g,v.ownBlock=some g->g≠b):W'.ownsRow n₀ e k v n xs:=by refine aa0 h hg ?_;rcases hv:v.ownBlock with _|g;{exact .inl rfl};refine .inr ?_;have:=hb g hv;simp only[ne_eq,af];omega
def Cf (W:World)(N G nl:Nat)(u:Value):Prop:=
 ∃lb off lc,u= .slice (some ⟨lb,off,none⟩) nl lc/\N<=lb/\lb≠G/\nl<=lc/\lc<=maxLen/\Ty W lb 2/\∀j,j<nl->∃x:Int,W.cell? ⟨lb,off+j,none⟩=some (.int .i64 x)
theorem Cf.of {W W':World}{N G nl:Nat}{u:Value}(h:Cf W N G nl u)(hk:∀b,N<=b->Ty W b 2->W'.heap[b]?=W.heap[b]?):Cf W' N G nl u:=by obtain⟨lb,off,lc,rfl,h1,h2,h3,h4,h5,h6⟩:=h;have e:=hk lb h1 h5;exact⟨lb,off,lc,rfl,h1,h2,h3,h4,h5.of e,fun j hj=>let⟨x,hx⟩:=h6 j hj;⟨x,(kK e).trans hx⟩⟩
structure GC where
 N:Nat
 G:Nat
 B:Nat
 a:Option Addr
 len:Nat
 cap:Nat
 zs:List Int
 L:Int
 F:Nat
 nf:Nat
 fc:Nat
 gv:Int
def GC.dY (c:GC)(v u:Value):List Value:=
 [.pointer (some ⟨c.B,0,none⟩),v, .int .i64 c.L, .slice (some ⟨c.F,0,none⟩) c.nf c.fc,u, .int .i64 c.gv]
structure GS (c:GC)(n:Nat)(v:Value)(nl:Nat)(u:Value)(W:World):Prop where
 cur:kQ W c.B c.a c.len c.cap c.zs
 ix:c.B<c.N/\c.N<=c.G/\c.F<c.N/\c.F≠c.B
 box:aX W c.G (c.dY v u)
 ty:Ty W c.G 136
 row:∃l,W.ownsRow c.N 95 2 v n (encS l)
 fM:Cf W c.N c.G nl u
 fn:∀j,j<c.nf->∃p q:Int,0<=p/\p<=3/\W.cell? ⟨c.F,j*4,none⟩=some (.int .i64 p)/\W.cell? ⟨c.F,j*4+2,none⟩=some (.int .i64 q)
 nf:0<c.nf/\c.nf<=3/\c.nf<=c.fc
 nl:0<nl
variable {c : GC} {n nl : Nat} {v u : Value} {W W' : World}
theorem GS.size (h:GS c n v nl u W):c.N<=W.heap.size:=by have:=h.ix;have:=h.box.1;omega
theorem GS.of (h:GS c n v nl u W)(nW:kQ W' c.B c.a c.len c.cap c.zs){b:Nat}(hg:W.grownBy W' (some b))(h1:b≠c.G)(h2:b≠c.F)(h3:b<c.N):GS c n v nl u W':=by obtain⟨l,hl⟩:=h.row;have ix:=h.ix;have hs:=h.size;have hbl:∀k,k<W.heap.size->k≠b->W'.heap[k]?=W.heap[k]?:=fun k hk hne=>hg.block k hk (by simpa using hne);refine⟨nW,ix,h.box.dZ hg (by simpa using h1),h.ty.of (hbl _ h.ty.lt (Ne.symm h1)),⟨l,CG hl hg h3⟩,h.fM.of (fun d hd ht=>hbl d ht.lt (by omega)),fun j hj=>?_,h.nf,h.nl⟩;obtain⟨p,q,h4,h5,h6,h7⟩:=h.fn j hj;have e:=hbl c.F (by omega) (Ne.symm h2);exact⟨p,q,h4,h5,(kK e).trans h6,(kK e).trans h7⟩
theorem GS.drawn (h:GS c n v nl u W)(hd:aR W W' c.B c.a c.len c.cap c.zs):GS c n v nl u W'/\KB c.N c.B W W':=by have ix:=h.ix;exact⟨h.of hd.1 hd.2 (by omega) (by omega) (by omega),KB.grown hd.2 h.size (fun k e=> .inl (by simpa using e.symm))⟩
theorem GS.kept (h:GS c n v nl u W)(hB:Below W.heap.size W W'):GS c n v nl u W':=by obtain⟨l,hl⟩:=h.row;have ix:=h.ix;have hs:=h.size;refine⟨h.cur.kept (row:=none) ⟨hB.os,hB.tape,hB.output,hB.size,fun k hk _=>hB.block k hk⟩ (by simp) (.inr (by simp)),ix,h.box.kept hB,h.ty.of (hB.block _ h.ty.lt),⟨l,aN hl hB⟩,h.fM.of (fun d hd ht=>hB.block d ht.lt),fun j hj=>?_,h.nf,h.nl⟩;obtain⟨p,q,h4,h5,h6,h7⟩:=h.fn j hj;have e:=hB.block c.F (by omega);exact⟨p,q,h4,h5,(kK e).trans h6,(kK e).trans h7⟩
theorem GS.app{n':Nat}{l:List (Int×Int)}(h:GS c n v nl u W)(hg:W.grownBy W1 v.ownBlock)(hrow:W1.ownsRow c.N 95 2 v' n' (encS l)):GS c n' v' nl u (W1.setCell ⟨c.G,1,none⟩ v')/\KB c.N c.B W (W1.setCell ⟨c.G,1,none⟩ v'):=by
 obtain⟨l0,hl⟩:=h.row
 have ix:=h.ix
 have hs:=h.size
 have hown:∀g,v.ownBlock=some g->c.N<=g/\Ty W g 95:=fun g e=>by refine⟨(hl.lt g e).1,?_⟩;rcases hl.2 with⟨rfl,_⟩|⟨g',c',cur,rfl,_,hb,_⟩;{cases e};cases e;exact⟨_,_,hb⟩
 have hbl:∀k,k<W.heap.size->(c.N<=k->¬Ty W k 95)->W1.heap[k]?=W.heap[k]?:=fun k hk hne=>hg.block k hk (fun e=>by
  obtain⟨a1,a2⟩:=hown k e.symm
  exact hne a1 a2)
 have hnt:∀k t,Ty W k t->t≠95->W1.heap[k]?=W.heap[k]?:=fun k t ht hne=>hbl k ht.lt (fun _ h2=>ht.ne h2 hne rfl)
 have hG:=hnt _ _ h.ty (by decide)
 have agY:aX W1 c.G (c.dY v u):=by refine h.box.dZ hg (fun e=>?_);exact(h.ty.ne (hown _ e).2 (by decide)) rfl
 have agZ:=h.ty.of hG
 have hset:=aC W1 ⟨c.G,1,none⟩ v'
 have hlo:∀k,k<c.N->(W1.setCell ⟨c.G,1,none⟩ v').heap[k]?=W.heap[k]?:=fun k hk=>(Below.heap_setCell _ _ _ _ (by simp only;omega)).trans (hbl k (by omega) (fun h'=>by omega))
 have hsz:W.heap.size<=(W1.setCell ⟨c.G,1,none⟩ v').heap.size:=fH hg.size hset.size
 refine⟨⟨?_,ix,agY.set 1 v',agZ.set _ _,⟨l,Dz hrow hset (fun g e=>?_)⟩,?_,fun j hj=>?_,h.nf,h.nl⟩,⟨hset.os.trans hg.os,hset.tape.trans hg.tape,hset.output.trans hg.output,hsz,fun k hk _=>hlo k hk⟩⟩
 · have c1:=h.cur.kept (w':=W1) hg (fun e=>by have:=(hown _ e.symm).1;omega) (h.cur.2.1.imp_right fun hx x e e'=>by have:=hx x e;have:=(hown _ e'.symm).1;omega);exact c1.kept hset (by simp only[ne_eq,af];omega) (h.cur.2.1.imp_right fun hx x e e'=>by have:=hx x e;simp only[af]at e';omega)
 · rcases hrow.2 with⟨rfl,_⟩|⟨g',c',cur,rfl,_,hb,_⟩;{cases e};cases e;exact Ty.ne ⟨_,_,hb⟩ agZ (by decide)
 · have l1:Cf W1 c.N c.G nl u:=h.fM.of (fun d hd ht=>hnt d _ ht (by decide));obtain⟨lb,off,lc,rfl,h1,h2,h3,h4,h5,h6⟩:=l1;have e:(W1.setCell ⟨c.G,1,none⟩ v').heap[lb]?=W1.heap[lb]?:=Below.heap_setCell _ _ _ _ h2;exact⟨lb,off,lc,rfl,h1,h2,h3,h4,h5.of e,fun j hj=>let⟨x,hx⟩:=h6 j hj;⟨x,(kK e).trans hx⟩⟩
 · obtain⟨p,q,h4,h5,h6,h7⟩:=h.fn j hj;have e:=hlo c.F (by omega);exact⟨p,q,h4,h5,(kK e).trans h6,(kK e).trans h7⟩
theorem GS.Dw {nl':Nat}{u':Value}(h:GS c n v nl u W)(hl:Cf W c.N c.G nl' u')(h0:0<nl'):GS c n v nl' u' (W.setCell ⟨c.G,4,none⟩ u')/\KB c.N c.B W (W.setCell ⟨c.G,4,none⟩ u'):=by obtain⟨l,hr⟩:=h.row;have ix:=h.ix;have hs:=h.size;have hset:=aC W ⟨c.G,4,none⟩ u';refine⟨⟨h.cur.kept hset (by simp only[ne_eq,af];omega) (h.cur.2.1.imp_right fun hx x e e'=>by have:=hx x e;simp only[af]at e';omega),ix,h.box.set 4 u',h.ty.set _ _,⟨l,Dz hr hset (fun g e=>?_)⟩,?_,fun j hj=>?_,h.nf,h0⟩,KB.grown hset hs (fun k e=> .inr (by simp only[af]at e;omega))⟩;{rcases hr.2 with⟨rfl,_⟩|⟨g',c',cur,rfl,_,hb,_⟩;{cases e};cases e;exact Ty.ne ⟨_,_,hb⟩ h.ty (by decide)};{obtain⟨lb,off,lc,rfl,h1,h2,h3,h4,h5,h6⟩:=hl;have e:(W.setCell ⟨c.G,4,none⟩ (.slice (some ⟨lb,off,none⟩) nl' lc)).heap[lb]?=W.heap[lb]?:=Below.heap_setCell _ _ _ _ h2;exact⟨lb,off,lc,rfl,h1,h2,h3,h4,h5.of e,fun j hj=>let⟨x,hx⟩:=h6 j hj;⟨x,(kK e).trans hx⟩⟩};obtain⟨p,q,h4,h5,h6,h7⟩:=h.fn j hj;have e:(W.setCell ⟨c.G,4,none⟩ u').heap[c.F]?=W.heap[c.F]?:=Below.heap_setCell _ _ _ _ (by simp only;omega);exact⟨p,q,h4,h5,(kK e).trans h6,(kK e).trans h7⟩
theorem GS.slice (h:GS c n v nl u W):∃ad cv,v= .slice ad n cv:=by obtain⟨l,hl⟩:=h.row;rcases hl.2 with⟨rfl,h0⟩|⟨g,cv,cur,rfl,_⟩;{exact⟨none,0,by rw[h0]⟩};exact⟨_,cv,rfl⟩
theorem gQ (h:GS c n v nl u W)(x:Int):
   Calls Tryz.prog 33 #[.pointer (some ⟨c.B,0,none⟩), .int .i64 x] W fun e w'=>∃y:Int,e= .returned (.int .i64 y)/\0<=y/\y<=4294967295/\(y<x\/x<=0)/\GS c n v nl u w'/\KB c.N c.B W w':=
 (aV c.B c.a c.len c.cap c.zs x W h.cur).mono fun e w' ⟨y,h1,h2,h3,h4,hd⟩=>⟨y,h1,h2,h3,h4,h.drawn hd⟩
theorem kC (h:GS c n v nl u W)(x:Int):
   Calls Tryz.prog 40 #[.pointer (some ⟨c.B,0,none⟩), .int .i64 x] W fun e w'=>∃y:Bool,e= .returned (.bool y)/\GS c n v nl u w'/\KB c.N c.B W w':=
 (jm c.B c.a c.len c.cap c.zs x W h.cur).mono fun e w' ⟨y,h1,hd⟩=>⟨y,h1,h.drawn hd⟩
theorem vH (h:GS c n v nl u W):
   Calls Tryz.prog 45 #[.pointer (some ⟨c.B,0,none⟩)] W fun e w'=>∃y:Int,e= .returned (.int .i64 y)/\GS c n v nl u w'/\KB c.N c.B W w':=
 (jR c.B c.a c.len c.cap c.zs W h.cur).mono fun e w' ⟨y,h1,h2,h3,hd⟩=>⟨y,h1,h.drawn hd⟩
end
section
open Go.RowKit
namespace Lb
def gth:Nat->List UInt8->Option (List UInt8)
 |0,_=>none
 |_+1,[]=>none
 |k+1,b::r=>if b.toNat<128 then some [b]else(gth k r).map (b::·)
def val:List UInt8->Nat
 |[]=>0
 |b::r=>b.toNat%128+128*val r
def rest (s:ByteArray)(at':Int):List UInt8:=if at'<0 then[]else s.data.toList.drop at'.toNat
def part (x:UInt8)(pre:List UInt8):Nat:=x.toNat%128*128 ^ pre.length
end Lb
end
section
open Go.RowKit
namespace Lb
def sgn (t:List UInt8):Int:=if(val t:Int) / 2 ^ (7*t.length-1)=1 then(val t:Int)-2 ^ (7*t.length)else val t
end Lb
end
section
open Go.RowKit
variable {P : Program} {ops : Array Oper} {md : Region.Mode} {C : World → Prop} {n : Nat}
def oL (P:Program)(md:Region.Mode)(ops:Array Oper)(C:World->Prop)(n:Nat)(L:Array Bool->Act->Prop):Nat->Array Bool->Act->Prop
 |0,l,a=>L l a
 |f+1,l,a=>Region.ready md ops l≠[]/\∀i,i∈Region.ready md ops l->i<n/\qOp P ops C i (oL P md ops C n L f (l.setIfInBounds i true)) a
theorem oL.any{L:Array Bool->Act->Prop}(hL:∀l a w,C w->L l a->wpAny P md ops Q g l a w)(f:Nat):∀(l:Array Bool)(a:Act)(w:World),C w->oL P md ops C n L f l a->wpAny P md ops Q (f+g) l a w:=by
 induction f with
 |zero=>intro l a w hw h;rw[Nat.zero_add];exact hL l a w hw h
 |succ f ih=>
  intro l a w hw h
  rw[show f+1+g=(f+g)+1 by omega]
  refine⟨fun e=>eU e h.1,fun i hi=>?_⟩
  exact wpOp_of_qOp hw (fun a' w' hw' h'=>ih _ a' w' hw' h') (h.2 i hi).2
theorem nP{l:Array Bool}(hs:Region.sinkB md ops n=true)(hc:Region.chainB md ops n=true)(hn:n<ops.size)(inv:HeadInv md ops n l)(hi:i<n)(hun:l.getD i true=false)(hj:j∈Region.ready md ops l):j<n:=by refine Nat.lt_of_not_le fun h=>?_;exact tail_waits hs hc hn inv (n-i) i rfl hi hun j h hj
theorem oL.first{L:Array Bool->Act->Prop}(mH:ops[i]?=some o)(hsel:∀(j:Nat)(o:Oper) cs b,ops[j]?=some o->o.op≠ .select cs b)(hs:Region.sinkB md ops n=true)(hc:Region.chainB md ops n=true)(hn:n<ops.size)(hin:i<n)(hdone:∀l a,L l a->∀j,j∈Region.ready md ops l->n<=j)(f:Nat):∀(l:Array Bool)(a:Act),HeadInv md ops n l->(∀j oj,ops[j]?=some oj->j≠i->l.getD j true=false->(∀e∈oj.after,Region.binds md e=true->e.on≠i)->o.apart ops oj=true)->i∈Region.ready md ops l->YieldsIn P ops C o v a->oL P md ops C n L f (l.setIfInBounds i true) (a.put o.dst v)->oL P md ops C n L (f+1) l a:=by
 induction f with
 |zero=>
  intro l a inv hfree hr hy hH
  refine⟨fun e=>by rw[e]at hr;exact eU hr List.not_mem_nil,fun j hj=>⟨nP hs hc hn inv hin (mem_ready.1 hr).1 hj,?_⟩⟩
  rcases Nat.decEq j i with hne|he
  · have h1:=hdone _ _ hH j (ready_mono hj hne);have h2:=nP hs hc hn inv hin (mem_ready.1 hr).1 hj;omega
  · subst he;exact hy.qOp mH hH
 |succ f ih=>
  intro l a inv hfree hr hy hH
  have hun:=(mem_ready.1 hr).1
  refine⟨fun e=>by rw[e]at hr;exact eU hr List.not_mem_nil,fun j hj=>⟨nP hs hc hn inv hin hun hj,?_⟩⟩
  rcases Nat.decEq j i with hne|he
  · obtain⟨hjun,oj,hoj,hall⟩:=mem_ready.1 hj;have hno:∀e∈oj.after,Region.binds md e=true->e.on≠i:=by{intro e he hb heq;have h1:=hall e he hb;rw[heq,getD_both hun]at h1;cases h1};have hstep:=qOp_put hoj (hfree j oj hoj hne hjun hno) (fun cs b=>hsel i o cs b mH) (fun cs b=>hsel j oj cs b hoj) hy (hH.2 j (ready_mono hj hne)).2;refine qOp_mono (fun a' h'=>?_) hstep;refine ih _ a' (inv.set hj (nP hs hc hn inv hin hun hj)) (fun k ok hk hki alh ali=>hfree k ok hk hki ?_ ali) (ready_mono hr (Ne.symm hne)) h'.1 ?_;{by_cases hjk:j=k;{rw[←hjk];exact hjun};rwa [getD_set_ne true hjk]at alh};rw[Array.setIfInBounds_comm _ _ hne];exact h'.2
  · subst he;exact hy.qOp mH hH
theorem oL.lex {g:Nat}{Lq:Act->Prop}(hsel:Region.noSelect ops=true)(hs:Region.sinkB md ops n=true)(hc:Region.chainB md ops n=true)(hn:n<ops.size):
   ∀ (hd:List Oper) (k:Nat) (l:Array Bool) (a:Act),k+hd.length=n->(∀j,j<hd.length->hd[j]?=ops[k+j]?)->HeadInv md ops n l->Region.lexHead md ops g hd.length k l=true->
     wpQuiet P ops C Lq hd a->oL P md ops C n (fun l' a'=>Region.seqB md ops g n l'=true/\Lq a') hd.length l a
 | [],k,l,a,hk,_,_,hB,h=>by
   have e:k=n:=hk
   rw[←e]
   exact⟨hB,h⟩
 | o::hd,k,l,a,hk,hl,inv,hB,h=>by
   rw[oK]at hk
   have h0:ops[k]?=some o:=(hl 0 (by simp)).symm
   simp only[oK,Region.lexHead,au]at hB
   have hr:k∈Region.ready md ops l:=by simpa using hB.1.1
   have hq:qOp P ops C k (wpQuiet P ops C Lq hd) a:=by unfold qOp;simp only[h0];exact h
   obtain⟨v,hy,hrest⟩:=yieldsIn_of_qOp h0 hq
   refine oL.first h0 (Region.noSelect_spec hsel) hs hc hn (by omega) (fun l' a' hL=>seqB_ready hL.1) hd.length l a inv (Region.free_spec h0 hB.1.2) hr hy ?_
   refine oL.lex hsel hs hc hn hd (k+1) _ _ (by omega) (fun j hj=>?_) (inv.set hr (by omega)) hB.2 hrest
   have:=hl (j+1) (by simp;omega)
   rw[show k+1+j=k+(j+1)by omega,←this]
   rfl
theorem aT{id:Nat}{a:Act}{l:List Oper}(n:Nat)(hm:P.follows .mixedOrders=true)(hB:Region.lexTailB .any l.toArray n=true)(h:wpQuiet P l.toArray (fun w'=>∃p:bK w,w'=p.to) (fun a'=>∀w',(∃p:bK w,w'=p.to)->wpList P l.toArray Q (l.drop n) a' w') (l.take n) a):(Code.region id l.toArray true).wp P Q a w:=by
 simp only[Region.lexTailB,au,mY]at hB
 obtain⟨⟨⟨⟨hsel,hn⟩,hs⟩,hc⟩,hlex⟩:=hB
 have hnl:n<l.length:=by simpa using hn
 have e1:(l.take n).length=n:=by rw[o7];omega
 have e2:(l.drop n).length=l.toArray.size-n:=by rw[Zv];simp
 have inv:HeadInv .any l.toArray n (Array.replicate l.toArray.size false):=by refine⟨by simp,fun j oj _ hl=>?_,fun t _ ht=>getD_in (by simpa using ht) (getD_replicate_false _ _)⟩;rw[getD_replicate_false]at hl;cases hl
 have H:=oL.lex (md:= .any) (g:=l.toArray.size-n) hsel hs hc hn (l.take n) 0 _ a (by rw[e1];omega) (fun j hj=>by rw[e1]at hj;simp[hj]) inv (by rw[e1];exact hlex) h
 have R:=oL.any (Q:=Q) (g:=l.toArray.size-n) (fun l' a' w' hw' hL=>by
  have:=wpAny_of_seq (md:= .any) (Q':=Q) (l.drop n) n l' a' w' (fun j=>by simp[PO]) (by rw[e2];exact hL.1) (hL.2 w' hw')
  rwa [e2]at this) (l.take n).length _ a {w with drawn:=w.drawn+1} ⟨⟨w.drew,(eG _ w).drew⟩,rfl⟩ H
 rw[e1,show n+(l.toArray.size-n)=l.toArray.size by omega]at R
 exact wp_region_any hm R
end
section
open Go.RowKit
variable {P : Program} {ops : Array Oper} {md : Region.Mode} {Q : Exit → Act → World → Prop} {n : Nat}
theorem aL{b:Act}{t:Nat}(h:b.eval (.tmp t)=v):b.tmps[t]?.getD undef=v:=by simpa[Act.eval]using h
def xh (n:Nat)(l:Array Bool):Nat:=((List.range n).filter fun i=> !l.getD i true).length
theorem jd (n:Nat)(l:Array Bool):xh (n+1) l=xh n l+(if l.getD n true=false then 1 else 0):=by unfold xh;rw[List.range_succ,List.filter_append,jy];congr 1;cases h:l.getD n true<;>simp only[List.filter,h]<;>rfl
theorem xy {i:Nat}{l:Array Bool}:∀n,n<=i->xh n (l.setIfInBounds i true)=xh n l
 |0,_=>rfl
 |n+1,h=>by rw[jd,jd,xy n (by omega),getD_set_ne true (by omega)]
theorem CK {i:Nat}{l:Array Bool}(hs:l.getD i true=false):∀n,i<n->xh n (l.setIfInBounds i true)+1=xh n l
 |0,h=>by omega
 | n + 1,h=>by
   rw[jd,jd]
   by_cases e:i=n
   · subst e
     rw[xy i (bI _),hs]
     have hi:i<l.size:=by
       rcases Nat.lt_or_ge i l.size with h'|h'
       · exact h'
       · simp[KF h']at hs
     have e2:(l.setIfInBounds i true).getD i true=true:=by simp[hi]
     rw[e2]
     simp
   · rw[←CK hs n (by omega),getD_set_ne true e]
     omega
theorem rM {l:Array Bool}(h:xh n l=0)(i:Nat)(hi:i<n):l.getD i true=true:=by unfold xh at h;have h2:=List.filter_eq_nil_iff.1 (List.length_eq_zero_iff.1 h) i (List.mem_range.2 hi);simpa using h2
theorem M5 {l:Array Bool}(h:xh n l≠0):∃i,i<n/\l.getD i true=false/\∀j,j<i->l.getD j true=true:=by
 induction n with
 |zero=>exact eU rfl h
 |succ n ih=>
  by_cases e:xh n l=0
  · rw[jd,e]at h;refine⟨n,by omega,?_,fun j hj=>rM e j hj⟩;cases h2:l.getD n true;{rfl};rw[h2]at h;simp at h
  · obtain⟨i,h1,h2,h3⟩:=ih e;exact⟨i,by omega,h2,h3⟩
theorem tO (g:Nat)(I:Array Bool->Act->World->Prop)(hs:Region.sinkB md ops n=true)(hc:Region.chainB md ops n=true)(hn:n<ops.size)(hback:∀i o,i<n->ops[i]?=some o->∀e∈o.after,Region.binds md e=true->e.on<i)(hstep:∀l b x i o,HeadInv md ops n l->ops[i]?=some o->i<n->l.getD i true=false->(∀e∈o.after,Region.binds md e=true->l.getD e.on false=true)->I l b x->wpOp P ops Q i (fun b' x'=>I (l.setIfInBounds i true) b' x') b x)(hend:∀l b x,HeadInv md ops n l->(∀i,i<n->l.getD i true=true)->I l b x->wpAny P md ops Q g l b x):∀f l b x,HeadInv md ops n l->xh n l=f->I l b x->wpAny P md ops Q (f+g) l b x:=by
 intro f
 induction f with
 |zero=>intro l b x inv hu hI;rw[Nat.zero_add];exact hend l b x inv (fun i hi=>rM hu i hi) hI
 |succ f ih=>
  intro l b x inv hu hI
  rw[show f+1+g=(f+g)+1 by omega]
  obtain⟨i,hin,hun,hmin⟩:=M5 (l:=l) (n:=n) (by omega)
  refine⟨fun h0=>?_,fun j hj=>?_⟩
  · have ho:∃o,ops[i]?=some o:=⟨ops[i]'(by omega),Array.getElem?_eq_getElem (by omega)⟩
    obtain⟨o,ho⟩:=ho
    have:i∈Region.ready md ops l:=mem_ready.2 ⟨hun,o,ho,fun e he hbi=>by
     have h1:=hback i o hin ho e he hbi
     have h2:=hmin e.on h1
     have h3:e.on<l.size:=by rw[inv.size];omega
     simp[h3]at h2 ⊢
     exact h2⟩
    rw[h0]at this
    cases this
  · have hjn:=nP hs hc hn inv hin hun hj;obtain⟨hjun,o,ho,hall⟩:=mem_ready.1 hj;refine wpOp_mono (fun b' x' h'=>ih _ b' x' (inv.set hj hjn) ?_ h') (hstep l b x j o inv ho hjn hjun hall hI);have:=CK hjun n hjn;omega
def Ce (l:List Oper)(n:Nat)(ds:List Nat):Bool:=
 decide (ds.length=n)&&ds.Nodup&&(List.range n).all fun i=>match l[i]? with
   |some o=>o.dst==ds[i]?&&o.guard.isNone&&o.after.all fun e=> !Region.binds .any e||decide (e.on<i)
   |none=>false
def oV (size n:Nat):Array Bool:=((List.replicate n true)++List.replicate (size-n) false).toArray
def ZK (P:Program)(Q:Exit->Act->World->Prop)(a:Act)(ds:List Nat)(A:World->Prop)(R:World->World->Prop)(F:Nat->Value->World->Prop)(k:Nat)(o:Oper):Prop:=
 ∀ (b:Act) (x:World),A x->(∀t,t∉ds->b.eval (.tmp t)=a.eval (.tmp t))->(∀j,(o.after.any fun e=>Region.binds .any e&&e.on==j)=true->F j (b.eval (.tmp (ds.getD j 0))) x)->
   o.wp P b x (fun b' x'=>∃y,b'=b.put o.dst y/\A x'/\F k y x'/\R x x') Q
def wh (P:Program)(Q:Exit->Act->World->Prop)(a:Act)(ds:List Nat)(A:World->Prop)(R:World->World->Prop)(F:Nat->Value->World->Prop):Nat->List Oper->Prop
 |_,[]=>True
 |k,o::r=>ZK P Q a ds A R F k o/\wh P Q a ds A R F (k+1) r
theorem wh.at {a:Act}{ds:List Nat}{A:World->Prop}{R:World->World->Prop}{F:Nat->Value->World->Prop}:∀{r:List Oper}{k:Nat},wh P Q a ds A R F k r->∀i o,r[i]?=some o->ZK P Q a ds A R F (k+i) o
 |[],_,_,i,o,h=>by simp at h
 |q::r,k,h,0,o,e=>by cases e;exact h.1
 | q::r,k,h,i+1,o,e=>by
   have:=wh.at h.2 i o (by simpa using e)
   rwa [show k+1+i=k+(i+1)by omega]at this
theorem jg (b:Act)(d:Nat)(v:Value)(t:Nat)(hd:d<b.tmps.size):(b.put (some d) v).eval (.tmp t)=if d=t then v else b.eval (.tmp t):=by unfold Act.put Act.eval;by_cases e:d=t;{subst e;simp[hd]};simp[Array.getElem?_setIfInBounds_ne e,e]
theorem lM (f:Nat->Value):∀(ds:List Nat)(a:Act),(ds.foldl (fun a' t=>a'.put (some t) (f t)) a).tmps.size=a.tmps.size/\(ds.foldl (fun a' t=>a'.put (some t) (f t)) a).defers=a.defers/\
   ∀t,(ds.foldl (fun a' t=>a'.put (some t) (f t)) a).tmps[t]?=if t∈ds/\t<a.tmps.size then some (f t)else a.tmps[t]?
 |[],a=>⟨rfl,rfl,fun t=>by simp⟩
 | d ::ds,a=>by
   obtain⟨h1,h2,h3⟩:=lM f ds (a.put (some d) (f d))
   have s1:(a.put (some d) (f d)).tmps.size=a.tmps.size:=by simp[Act.put]
   refine⟨by rw[List.foldl_cons,h1,s1],by rw[List.foldl_cons,h2];rfl,fun t=>?_⟩
   rw[List.foldl_cons,h3 t,s1]
   by_cases e:t∈ds/\t<a.tmps.size
   · rw[az e,az ⟨List.mem_cons_of_mem _ e.1,e.2⟩]
   · rw[ax e]
     by_cases e2:t=d
     · subst e2
       by_cases e3:t<a.tmps.size
       · rw[az ⟨List.mem_cons_self ..,e3⟩]
         simp[Act.put,e3]
       · rw[ax (fun h=>e3 h.2)]
         have h4:a.tmps[t]?=none:=KF (by omega)
         have h5:(a.put (some t) (f t)).tmps[t]?=none:=KF (by rw[s1];omega)
         rw[h4,h5]
     · rw[ax (fun h=>by rcases List.mem_cons.1 h.1 with h'|h';exact e2 h';exact e ⟨h',h.2⟩)]
       simp[Act.put,Array.getElem?_setIfInBounds_ne (Ne.symm e2)]
theorem iA{id:Nat}{a:Act}{l:List Oper}(n:Nat)(ds:List Nat)(A:World->Prop)(R:World->World->Prop)(F:Nat->Value->World->Prop)(hm:P.follows .mixedOrders=true)(hB:(Region.noSelect l.toArray&&decide (n<l.length)&&Region.sinkB .any l.toArray n&&Region.chainB .any l.toArray n&&Ce l n ds&&Region.seqB .any l.toArray (l.length-n) n (oV l.length n))=true)(hsz:∀d∈ds,d<a.tmps.size)(h0:A w.drew)(hR:∀i y x x',R x x'->F i y x->F i y x')(hall:wh P Q a ds A R F 0 (l.take n))(hend:∀b x,A x->(∀j,j<n->F j (b.eval (.tmp (ds.getD j 0))) x)->b=ds.foldl (fun a' t=>a'.put (some t) (b.eval (.tmp t))) a->wpList P l.toArray Q (l.drop n) b x):(Code.region id l.toArray true).wp P Q a w:=by
 simp only[au,mY]at hB
 obtain⟨⟨⟨⟨⟨hsel,hn⟩,hs⟩,hc⟩,hhd⟩,hseq⟩:=hB
 have hn':n<l.toArray.size:=by simpa using hn
 simp only[Ce,au,mY,rD,List.mem_range]at hhd
 obtain⟨⟨hdl,hnd⟩,hops⟩:=hhd
 have hop:∀i o,i<n->l.toArray[i]?=some o->o.dst=some (ds.getD i 0)/\o.guard=none/\(∀e∈o.after,Region.binds .any e=true->e.on<i)/\ds.getD i 0∈ds:=by intro i o hi ho;have h1:=hops i hi;have ho':l[i]?=some o:=by{simpa using ho};rw[ho']at h1;simp only[au,beq_iff_eq,Option.isNone_iff_eq_none,Array.all_eq_true',mY,Bool.or_eq_true,Bool.not_eq_true']at h1;have h2:ds[i]?=some (ds.getD i 0):=by{rw[ah,ai (by omega)];rfl};exact⟨by rw[h1.1.1,h2],h1.1.2,fun e he hbi=>(h1.2 e he).elim (fun h=>by rw[hbi]at h;cases h) (fun h=>h),List.mem_of_getElem? h2⟩
 have hinj:∀i j,i<n->j<n->ds.getD i 0=ds.getD j 0->i=j:=by intro i j hi hj e;rw[ah,ah,ai (by omega),ai (by omega)]at e;have e':ds[i]'(by omega)=ds[j]'(by omega):=e;rcases Nat.lt_trichotomy i j with h|h|h;{exact eU e' (List.pairwise_iff_getElem.1 hnd i j (by omega) (by omega) h)};{exact h};exact eU e'.symm (List.pairwise_iff_getElem.1 hnd j i (by omega) (by omega) h)
 let I:Array Bool->Act->World->Prop:=fun q b x=>A x/\b.defers=a.defers/\b.tmps.size=a.tmps.size/\(∀t,t∉ds->b.eval (.tmp t)=a.eval (.tmp t))/\∀j,j<n->q.getD j false=true->F j (b.eval (.tmp (ds.getD j 0))) x
 have inv:HeadInv .any l.toArray n (Array.replicate l.toArray.size false):=by refine⟨by simp,fun j oj _ hl=>?_,fun t _ ht=>getD_in (by simpa using ht) (getD_replicate_false _ _)⟩;rw[getD_replicate_false]at hl;cases hl
 have hu:xh n (Array.replicate l.toArray.size false)=n:=by
  have:∀m,m<=l.toArray.size->xh m (Array.replicate l.toArray.size false)=m:=by
   intro m
   induction m with
   |zero=>intro _;rfl
   |succ m ih=>
    intro hm
    rw[jd,ih (by omega)]
    have:(Array.replicate l.toArray.size false).getD m true=false:=getD_in (by simp at hm ⊢;omega) (getD_replicate_false _ _)
    rw[az this]
  exact this n (by omega)
 have H := tO (P:=P) (Q:=Q) (md:= .any) (l.toArray.size-n) I hs hc hn' (fun i o hi ho=>(hop i o hi ho).2.2.1)
   (fun q b x i o hq ho hi hun hafter hI=>by
     obtain⟨hA,hdf,hsize,hfr,hF⟩:=hI
     obtain⟨hd,hg,hb,hmem⟩:=hop i o hi ho
     have Mh:=hall.at i o (by rw[List.getElem?_take_of_lt hi];simpa using ho)
     rw[Nat.zero_add]at Mh
     have hwp:=Mh b x hA hfr (fun j hj=>by
       obtain⟨e,he,hbe⟩:=Array.any_eq_true'.1 hj
       simp only[au,beq_iff_eq]at hbe
       have h1:=hafter e he hbe.1
       have h2:=hb e he hbe.1
       rw[hbe.2]at h1 h2
       exact hF j (by omega) h1)
     unfold wpOp
     simp only[ho]
     have hw:Region.wanted o (yielded l.toArray b.tmps)=true:=by simp[Region.wanted,hg]
     rw[az hw]
     refine .inl (Oper.wp_mono (fun b' x' h'=>?_) hwp)
     obtain⟨y,rfl,hA',hF',Mi⟩:=h'
     have hds:ds.getD i 0<b.tmps.size:=by rw[hsize];exact hsz _ hmem
     rw[hd]
     refine⟨hA',hdf,by simpa[Act.put]using hsize,fun t ht=>?_,fun j hj hq'=>?_⟩
     · rw[jg _ _ _ _ hds,ax (fun e=>ht (by rw[←e];exact hmem))]
       exact hfr t ht
     · rw[jg _ _ _ _ hds]
       by_cases e:i=j
       · subst e
         rw[az rfl]
         exact hF'
       · rw[ax (fun e2=>e (hinj i j hi hj e2))]
         rw[getD_set_ne false e]at hq'
         exact hR j _ x x' Mi (hF j hj hq'))
   (fun q b x hq mI hI=>by
     obtain⟨hA,hdf,hsize,hfr,hF⟩:=hI
     have hqf:q=oV l.length n:=by
       apply Array.ext
       · rw[hq.size];simp[oV];omega
       · intro i h1 h2
         have e1:q.getD i true=q[i]:=by simp[h1]
         have e2:q.getD i false=q[i]:=by simp[h1]
         by_cases e:i<n
         · have:=mI i e
           rw[e1]at this
           rw[this]
           simp only[oV,List.getElem_toArray]
           rw[List.getElem_append_left (by simpa using e)]
           simp
         · have h3:i<l.toArray.size:=by rw[←hq.size];exact h1
           have:=hq.tail i (by omega) h3
           rw[e1]at this
           rw[this]
           simp only[oV,List.getElem_toArray]
           rw[List.getElem_append_right (by simpa using e)]
           simp
     have hF2:∀j,j<n->F j (b.eval (.tmp (ds.getD j 0))) x:=fun j hj=>hF j hj (by
       have:=mI j hj
       have h1:j<q.size:=by rw[hq.size];omega
       simp[h1]at this ⊢
       exact this)
     have hbf:b=ds.foldl (fun a' t=>a'.put (some t) (b.eval (.tmp t))) a:=by
       obtain⟨s1,s2,s3⟩:=lM (fun t=>b.eval (.tmp t)) ds a
       have ht:b.tmps=(ds.foldl (fun a' t=>a'.put (some t) (b.eval (.tmp t))) a).tmps:=by
         apply Array.ext_getElem?
         intro t
         rw[s3 t]
         by_cases e:t<a.tmps.size
         · have eb:b.tmps[t]?=some (b.eval (.tmp t)):=by
             have h1:t<b.tmps.size:=by omega
             simp[Act.eval,h1]
           by_cases e2:t∈ds
           · rw[az ⟨e2,e⟩,eb]
           · rw[ax (fun h=>e2 h.1),eb,hfr t e2]
             simp[Act.eval,e]
         · rw[ax (fun h=>e h.2),KF (by omega),KF (by omega)]
       have e3:∀c d:Act,c.tmps=d.tmps->c.defers=d.defers->c=d:=by
         rintro⟨c1,c2⟩ ⟨d1,d2⟩ h1 h2
         simp only at h1 h2
         rw[h1,h2]
       exact e3 _ _ ht (hdf.trans s2.symm)
     have:=hend b x hA hF2 hbf
     rw[hqf]
     have e2:(l.drop n).length=l.toArray.size-n:=by rw[Zv];simp
     have R2:=wpAny_of_seq (md:= .any) (Q':=Q) (l.drop n) n (oV l.length n) b x (fun j=>by simp[PO]) (by rw[e2];simpa using hseq) this
     rwa [e2]at R2)
   n _ a w.drew inv hu ⟨h0,rfl,rfl,fun t _=>rfl,fun j hj h=>by rw[getD_replicate_false]at h;cases h⟩
 rw[show n+(l.toArray.size-n)=l.toArray.size by omega]at H
 exact wp_region_any hm H
end
structure Fn where
 a:Int
 l:Int
 g:Int
 b:List (Int×Int)
namespace Fn
def z:Fn:=⟨0,0,0,[]⟩
end Fn
namespace Md
def rF (f:Fn):Bool:=Wd.dP f.a 0 3&&(Wd.dP f.l 0 3&&(Wd.dP f.g 0 1&&(decide (f.b.length<=80)&&St.dh f.b)))
def dh (fs:List Fn):Bool:=fs.all rF
def ok (fs:List Fn)(d:ByteArray):Bool:=(Wd.dP fs.length 1 4&&decide (d.size<=64))&&dh fs
def width (f:Fn):Int:=if rF f=true then f.a+f.l else -1
def sum:List Fn->Nat
 |[]=>0
 |f::fs=>f.b.length+sum fs
theorem bg{fs:List Fn}(h:dh fs=true)(hj:j<fs.length):rF (fs.getD j .z)=true:=by rw[ah,ai hj];simp only[dh,rD]at h;exact h _ (u7 hj)
theorem uo{fs:List Fn}(hj:j<fs.length):fs.take (j+1)=fs.take j++[fs.getD j .z]:=by rw[PR,ah,ai hj];rfl
theorem qP (fs:List Fn)(f:Fn):dh (fs++[f])=(dh fs&&rF f):=by simp[dh]
theorem uu{fs:List Fn}(hj:j<fs.length)(h:rF (fs.getD j .z)=false):dh fs=false:=by rcases e:dh fs with _|_;{rfl};rw[bg e hj]at h;cases h
theorem Lm {fs:List Fn}(h:dh fs=true):sum fs<=80*fs.length:=by
 induction fs with
 |nil=>simp[sum]
 |cons x xs ih=>
  simp only[dh,List.all_cons,au]at h
  have:=ih h.2
  have h1:=h.1
  simp only[rF,au,mY]at h1
  simp only[sum,oK]
  omega
end Md
def FL (w:World)(a:Option Addr)(len:Nat)(fs:List Fn):Prop:=
 fs.length=len/\len<=maxLen/\(len=0\/∃b off,a=some ⟨b,off,none⟩/\b<w.heap.size/\
   ∀ j,j<len->w.cell? ⟨b,off+j*4,none⟩=some (.int .i64 (fs.getD j .z).a)/\w.cell? ⟨b,off+j*4+1,none⟩=some (.int .i64 (fs.getD j .z).l)/\w.cell? ⟨b,off+j*4+2,none⟩=some (.int .i64 (fs.getD j .z).g)/\
     ∃ba bl bc,w.cell? ⟨b,off+j*4+3,none⟩=some (.slice ba bl bc)/\SL w ba bl (fs.getD j .z).b)
theorem FL.kept {w w':World}{a:Option Addr}{len:Nat}{fs:List Fn}(h:FL w a len fs)(hB:Below w.heap.size w w'):FL w' a len fs:=by obtain⟨h1,h2,h3|⟨b,off,rfl,hb,hx⟩⟩:=h;{exact⟨h1,h2, .inl h3⟩};refine⟨h1,h2, .inr ⟨b,off,rfl,aj hb hB.size,fun j hj=>?_⟩⟩;obtain⟨c0,c1,c2,ba,bl,bc,c3,hs⟩:=hx j hj;exact⟨(hB.cell (p:=⟨b,off+j*4,none⟩) hb).trans c0,(hB.cell (p:=⟨b,off+j*4+1,none⟩) hb).trans c1,(hB.cell (p:=⟨b,off+j*4+2,none⟩) hb).trans c2,ba,bl,bc,(hB.cell (p:=⟨b,off+j*4+3,none⟩) hb).trans c3,hs.kept hB⟩
theorem NV:(Tryz.prog.info? 93).map (fun i=>(i.zero,i.size,i.bytes))=some (some (.agg #[.int .i64 0, .int .i64 0, .int .i64 0, .slice none 0 0]),4,48):=by kernel_rfl
theorem Jd (p l g:Int)(body:List (Int×Int))(ba:Option Addr)(bl bc:Nat)(w:World)(hs:SL w ba bl body):Calls Tryz.prog 95 #[.agg #[.int .i64 p, .int .i64 l, .int .i64 g, .slice ba bl bc]] w fun e w'=>e= .returned (.bool (Md.rF ⟨p,l,g,body⟩))/\Below w.heap.size w w':=by have hl:=hs.1;have hcon:=fun wx (h:Below w.heap.size w wx)=>BP ba bl bc body wx (hs.kept h);have hB1:=aB w (.cells #[.int .i64 p, .int .i64 l, .int .i64 g, .slice ba bl bc] 93);rcases h1:Wd.dP p 0 3 with _|_;{rw[Md.rF,h1,Bool.false_and];go_enter Tryz.func95,Tryz.ntmps95;go_wp2_with(go_at_call 47;refine(bJ _ _ _ _).mono ?_;rintro e w'⟨rfl,dC⟩;subst w');go_ret;exact⟨rfl,hB1⟩};rcases h2:Wd.dP l 0 3 with _|_;{rw[Md.rF,h1,h2,Bool.false_and,Bool.and_false];go_enter Tryz.func95,Tryz.ntmps95;go_wp2_with(go_at_call 47;refine(bJ _ _ _ _).mono ?_;rintro e w'⟨rfl,dC⟩;subst w');go_ret;exact⟨rfl,hB1⟩};rcases h3:Wd.dP g 0 1 with _|_;{rw[Md.rF,h1,h2,h3,Bool.false_and,Bool.and_false,Bool.and_false];go_enter Tryz.func95,Tryz.ntmps95;go_wp2_with(go_at_call 47;refine(bJ _ _ _ _).mono ?_;rintro e w'⟨rfl,dC⟩;subst w');go_ret;exact⟨rfl,hB1⟩};rw[Md.rF,h1,h2,h3,Bool.true_and,Bool.true_and,Bool.true_and,hl];go_enter Tryz.func95,Tryz.ntmps95;go_wp2_with(go_at_call 47;refine(bJ _ _ _ _).mono ?_;rintro e w'⟨rfl,dC⟩;subst w');refine(hcon _ hB1).mono ?_;rintro e w2⟨rfl,hB2⟩;have hB3:=hB1.trans (hB2.mono hB1.size);go_wp2;go_ret;exact⟨rfl,hB3⟩
theorem Dg{a b:Value}(hB:Below (w.alloc (.cells #[a,b] t)).heap.size (w.alloc (.cells #[a,b] t)) w1):w1.cell? ⟨w.heap.size,0,none⟩=some a/\w1.cell? ⟨w.heap.size,1,none⟩=some b/\w.heap.size<w1.heap.size:=by have hs:=hB.size;simp only[KJ]at hs;refine⟨(hB.cell (by simp)).trans ?_,(hB.cell (by simp)).trans ?_,by omega⟩<;>go_simp
abbrev Fv:=Int×Int×Int×Value
def XT:Fv:=(0,0,0, .slice none 0 0)
def uh (xs:List Fv):List Value:=xs.flatMap fun x=>[.int .i64 x.1, .int .i64 x.2.1, .int .i64 x.2.2.1,x.2.2.2]
theorem NT (x:Fv)(xs:List Fv):uh (x::xs)= .int .i64 x.1:: .int .i64 x.2.1:: .int .i64 x.2.2.1::x.2.2.2::uh xs:=rfl
theorem Je (xs ys:List Fv):uh (xs++ys)=uh xs++uh ys:=by simp[uh]
theorem Jb:∀(xs:List Fv)(j:Nat),j<xs.length->(uh xs)[j*4]?=some (.int .i64 (xs.getD j XT).1)/\(uh xs)[j*4+1]?=some (.int .i64 (xs.getD j XT).2.1)/\(uh xs)[j*4+2]?=some (.int .i64 (xs.getD j XT).2.2.1)/\(uh xs)[j*4+3]?=some (xs.getD j XT).2.2.2
 |[],j,h=>by simp at h
 |x::xs,0,_=>⟨rfl,rfl,rfl,rfl⟩
 | x::xs,j+1,h=>by
   have ih:=Jb xs j (by simp at h;omega)
   rw[NT,show(j+1)*4=j*4+1+1+1+1 by omega]
   refine⟨by simpa using ih.1,?_,?_,?_⟩
   · rw[show j*4+1+1+1+1+1=(j*4+1)+1+1+1+1 by omega];simpa using ih.2.1
   · rw[show j*4+1+1+1+1+2=(j*4+2)+1+1+1+1 by omega];simpa using ih.2.2.1
   · rw[show j*4+1+1+1+1+3=(j*4+3)+1+1+1+1 by omega];simpa using ih.2.2.2
def Cg (W:World)(n₀ k:Nat)(vs:List Fv)(fs:List Fn):Prop:=
 ∀j,j<k->(vs.getD j XT).1=(fs.getD j .z).a/\(vs.getD j XT).2.1=(fs.getD j .z).l/\(vs.getD j XT).2.2.1=(fs.getD j .z).g/\OS W n₀ (vs.getD j XT).2.2.2 (fs.getD j .z).b
theorem Cg.kept {W W':World}{n₀ k:Nat}{vs:List Fv}{fs:List Fn}(h:Cg W n₀ k vs fs)(hB:Below W.heap.size W W'):Cg W' n₀ k vs fs:=
 fun j hj=>⟨(h j hj).1,(h j hj).2.1,(h j hj).2.2.1,(h j hj).2.2.2.kept hB⟩
theorem OS.other{xs:List (Int×Int)}(h:OS W n₀ v xs)(hg:W.grownBy W' (some k))(hne:k<n₀):OS W' n₀ v xs:=by obtain⟨g,cap,rfl,h0,hlt,hm,hrow⟩:=h;exact⟨g,cap,rfl,h0,aj hlt hg.size,hm,hrow.kept hg (.inr (by simp only[Value.ownBlock,ne_eq,af];omega))⟩
theorem Cg.other {W W':World}{n₀ k b:Nat}{vs:List Fv}{fs:List Fn}(h:Cg W n₀ k vs fs)(hg:W.grownBy W' (some b))(hne:b<n₀):Cg W' n₀ k vs fs:=
 fun j hj=>⟨(h j hj).1,(h j hj).2.1,(h j hj).2.2.1,(h j hj).2.2.2.other hg hne⟩
def OM (W:World)(b:Nat)(v0 v1 v2 v3:Value):Prop:=
 b<W.heap.size/\W.cell? ⟨b,0,none⟩=some v0/\W.cell? ⟨b,1,none⟩=some v1/\W.cell? ⟨b,2,none⟩=some v2/\W.cell? ⟨b,3,none⟩=some v3/\W.frozen? ⟨b,0,none⟩=false/\W.frozen? ⟨b,1,none⟩=false/\W.frozen? ⟨b,2,none⟩=false/\W.frozen? ⟨b,3,none⟩=false
theorem OM.kept {W W':World}{b:Nat}{v0 v1 v2 v3:Value}(h:OM W b v0 v1 v2 v3)(hB:Below W.heap.size W W'):OM W' b v0 v1 v2 v3:=by obtain⟨h0,h1,h2,h3,h4,h5,h6,h7,h8⟩:=h;exact⟨aj h0 hB.size,(hB.cell h0).trans h1,(hB.cell h0).trans h2,(hB.cell h0).trans h3,(hB.cell h0).trans h4,(hB.frozen h0).trans h5,(hB.frozen h0).trans h6,(hB.frozen h0).trans h7,(hB.frozen h0).trans h8⟩
theorem OM.new (W:World)(v0 v1 v2 v3:Value)(t:TypeId):OM (W.alloc (.cells #[v0,v1,v2,v3] t)) W.heap.size v0 v1 v2 v3:=by refine⟨by simp,?_,?_,?_,?_,?_,?_,?_,?_⟩<;>go_simp
def N7 (W:World)(b:Nat)(v0 v1:Value):Prop:=
 b<W.heap.size/\W.cell? ⟨b,0,none⟩=some v0/\W.cell? ⟨b,1,none⟩=some v1/\W.frozen? ⟨b,0,none⟩=false/\W.frozen? ⟨b,1,none⟩=false
theorem N7.kept {W W':World}{b:Nat}{v0 v1:Value}(h:N7 W b v0 v1)(hB:Below W.heap.size W W'):N7 W' b v0 v1:=by obtain⟨h0,h1,h2,h5,h6⟩:=h;exact⟨aj h0 hB.size,(hB.cell h0).trans h1,(hB.cell h0).trans h2,(hB.frozen h0).trans h5,(hB.frozen h0).trans h6⟩
theorem N7.new (W:World)(v0 v1:Value)(t:TypeId):N7 (W.alloc (.cells #[v0,v1] t)) W.heap.size v0 v1:=by refine⟨by simp,?_,?_,?_,?_⟩<;>go_simp
theorem OS.set{xs:List (Int×Int)}(h:OS W n₀ v xs)(p:Addr)(hp:p.block<n₀)(x:Value):OS (W.setCell p x) n₀ v xs:=h.other (aC W p x) hp
section
open Go.RowKit
theorem QF (a:Option Addr)(len cap:Nat)(w:World)(h:len<=maxLen):Calls Tryz.prog 6 #[.slice a len cap] w fun e w'=>e= .returned (.bool (decide (4096<len)))/\w'=w:=by unfold maxLen at h;go_enter Tryz.func6,Tryz.ntmps6;go_wp2;go_ret;exact⟨dz (by simp;omega),rfl⟩
theorem Bytes.below{a:Option Addr}(h:Bytes w a len zs)(hB:Below w.heap.size w w'):Bytes w' a len zs:=
 h.kept (row:=none) ⟨hB.os,hB.tape,hB.output,hB.size,fun k hk _=>hB.block k hk⟩ (.inr (by simp))
end
end Go.Proofs.YthkjdjmjdlimnaaGreat
