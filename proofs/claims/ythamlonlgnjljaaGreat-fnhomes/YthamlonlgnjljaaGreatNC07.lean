/-
  Own texts for a law: StepD1 StepD2 Gen1 Mod1 Mod2 Mod7 LinR Hgt0 Mod3 Hgt1 Hgt2 HgtI
-/
import Derived.Test.YthamlonlgnjljaaGreatNC06
import Derived.Deep.DeepCutAuto
namespace Go.Proofs.YthamlonlgnjljaaGreat
open Go.RowKit Go.Shelf
set_option linter.all false
set_option maxRecDepth 100000
set_option maxHeartbeats 16000000
theorem xS {w1 w2:World}{B r:Nat}{a:Option Addr}{len cap:Nat}{zs:List Int}(hd:aM w1 w2 B a len cap zs)(hr:r<w1.heap.size)(hne:r≠B)(o:Nat):
   w2.cell? ⟨r,o,none⟩=w1.cell? ⟨r,o,none⟩/\w2.frozen? ⟨r,o,none⟩=w1.frozen? ⟨r,o,none⟩:=
 ⟨World.grownBy.cell_far hd.2 ⟨r,o,none⟩ hr (by simpa using hne),World.grownBy.frozen_far hd.2 ⟨r,o,none⟩ hr (by simpa using hne)⟩
theorem aM.put {w w1:World}{B:Nat}{a:Option Addr}{len cap:Nat}{zs:List Int}(h:aM w w1 B a len cap zs)(hB:B<w.heap.size)(p:Addr)(hp:w.heap.size<=p.block)(v:Value):aM w (w1.setCell p v) B a len cap zs:=
 h.fresh hB (ko w1 p v) hp
theorem aM.Ah {w w1:World}{B:Nat}{a:Option Addr}{len cap:Nat}{zs:List Int}{o:Obj}(hc:gG w B a len cap zs)(h:aM (w.alloc o) w1 B a len cap zs):aM w w1 B a len cap zs:=
 (aM.alloc (aM.refl hc) o).andThen h
def JG (w:World)(R:Nat)(x y:Value):Prop:=
 R<w.heap.size/\w.cell? ⟨R,0,none⟩=some x/\w.cell? ⟨R,1,none⟩=some y/\w.frozen? ⟨R,0,none⟩=false/\w.frozen? ⟨R,1,none⟩=false
theorem JG.new (w:World)(x y:Value)(t:TypeId):JG (w.alloc (.cells #[x,y] t)) w.heap.size x y:=
 ⟨by simp,by go_simp,by go_simp,by go_simp,by go_simp⟩
theorem JG.alloc {w:World}{R:Nat}{x y:Value}(h:JG w R x y)(o:Obj):JG (w.alloc o) R x y:=by obtain⟨h0,h1,h2,h3,h4⟩:=h;have hb:=Below.heap_alloc w o R h0;exact⟨by simp;omega,(World.cell?_of_block (a:=⟨R,0,none⟩) hb).trans h1,(World.cell?_of_block (a:=⟨R,1,none⟩) hb).trans h2,(World.frozen?_of_block (a:=⟨R,0,none⟩) hb).trans h3,(World.frozen?_of_block (a:=⟨R,1,none⟩) hb).trans h4⟩
theorem JG.drawn {w w':World}{B R:Nat}{a:Option Addr}{len cap:Nat}{zs:List Int}{x y:Value}(h:JG w R x y)(hd:aM w w' B a len cap zs)(hne:R≠B):JG w' R x y:=by obtain⟨h0,h1,h2,h3,h4⟩:=h;obtain⟨a0,b0⟩:=xS hd h0 hne 0;obtain⟨a1,b1⟩:=xS hd h0 hne 1;exact⟨aj h0 hd.2.size,a0.trans h1,a1.trans h2,b0.trans h3,b1.trans h4⟩
section
structure KB (N B:Nat)(W W':World):Prop where
 os:W'.os=W.os
 tape:W'.tape=W.tape
 output:W'.output=W.output
 size:W.heap.size<=W'.heap.size
 block:∀k,k<N->k≠B->W'.heap[k]?=W.heap[k]?
theorem KB.refl (N B:Nat)(W:World):KB N B W W:=⟨rfl,rfl,rfl,Nat.le_refl _,fun _ _ _=>rfl⟩
theorem KB.trans {N B:Nat}{U V W:World}(h:KB N B U V)(k:KB N B V W):KB N B U W:=
 ⟨k.os.trans h.os,k.tape.trans h.tape,k.output.trans h.output,Nat.le_trans h.size k.size,fun i h1 h2=>(k.block i h1 h2).trans (h.block i h1 h2)⟩
theorem KB.grown {N B:Nat}{W W':World}{row:Option Nat}(hg:W.grownBy W' row)(hN:N<=W.heap.size)(h:∀k,row=some k->k=B\/N<=k):KB N B W W':=
 ⟨hg.os,hg.tape,hg.output,hg.size,fun i h1 h2=>hg.block i (by omega) (fun e=>by have:=h i e.symm;omega)⟩
theorem KB.below {N B:Nat}{W W':World}(hB:Below W.heap.size W W')(hN:N<=W.heap.size):KB N B W W':=
 ⟨hB.os,hB.tape,hB.output,hB.size,fun i h1 h2=>hB.block i (by omega)⟩
theorem KB.mono {N M B:Nat}{W W':World}(h:KB N B W W')(hM:M<=N):KB M B W W':=
 ⟨h.os,h.tape,h.output,h.size,fun i h1 h2=>h.block i (by omega) h2⟩
def Ty (W:World)(b:Nat)(t:TypeId):Prop:=∃cs fr,W.heap[b]?=some (.cells cs t fr)
theorem Ty.of {W W':World}{b:Nat}{t:TypeId}(h:Ty W b t)(e:W'.heap[b]?=W.heap[b]?):Ty W' b t:=by obtain⟨cs,fr,h⟩:=h;exact⟨cs,fr,e.trans h⟩
theorem Ty.lt {W:World}{b:Nat}{t:TypeId}(h:Ty W b t):b<W.heap.size:=by obtain⟨cs,fr,h⟩:=h;rcases Nat.lt_or_ge b W.heap.size with k|k;{exact k};rw[Array.getElem?_eq_none (by omega)]at h;cases h
theorem Ty.ne {W:World}{b d:Nat}{t u:TypeId}(h:Ty W b t)(k:Ty W d u)(hne:t≠u):b≠d:=by rintro rfl;obtain⟨cs,fr,h⟩:=h;obtain⟨cs',fr',k⟩:=k;rw[h]at k;simp only[af,Obj.cells.injEq]at k;exact hne k.2.1
theorem Ty.set {W:World}{b:Nat}{t:TypeId}(h:Ty W b t)(p:Addr)(x:Value):Ty (W.setCell p x) b t:=by by_cases e:b=p.block;{obtain⟨cs,fr,h⟩:=h;subst e;unfold Ty;simp[World.setCell,Array.getElem?_modify,h]};exact h.of (Below.heap_setCell _ _ _ _ e)
theorem Ty.row {W:World}{n₀ e k n g c:Nat}{xs:List Value}(h:W.ownsRow n₀ e k (.slice (some ⟨g,0,none⟩) n c) n xs):Ty W g e:=by rcases h.2 with⟨h',_⟩|⟨g',c',cur,h',_,hb,_⟩;{cases h'};cases h';exact⟨_,_,hb⟩
theorem Es {W W':World}{n₀ e k n b:Nat}{v:Value}{xs:List Value}(h:W.ownsRow n₀ e k v n xs)(hg:W.grownBy W' (some b))(hb:b<n₀):W'.ownsRow n₀ e k v n xs:=by refine World.ownsRow.kept h hg ?_;rcases hv:v.ownBlock with _|g;{exact .inl rfl};refine .inr ?_;have:=(h.lt g hv).1;simp only[ne_eq,af];omega
theorem zY {W W':World}{n₀ e k n b:Nat}{v:Value}{xs:List Value}(h:W.ownsRow n₀ e k v n xs)(hg:W.grownBy W' (some b))(hb:∀g,v.ownBlock=some g->g≠b):W'.ownsRow n₀ e k v n xs:=by refine World.ownsRow.kept h hg ?_;rcases hv:v.ownBlock with _|g;{exact .inl rfl};refine .inr ?_;have:=hb g hv;simp only[ne_eq,af];omega
def uZ (W:World)(N G nl:Nat)(u:Value):Prop:=
 ∃lb off lc,u= .slice (some ⟨lb,off,none⟩) nl lc/\N<=lb/\lb≠G/\nl<=lc/\lc<=maxLen/\Ty W lb 2/\∀j,j<nl->∃x:Int,W.cell? ⟨lb,off+j,none⟩=some (.int .i64 x)
theorem uZ.of {W W':World}{N G nl:Nat}{u:Value}(h:uZ W N G nl u)(hk:∀b,N<=b->Ty W b 2->W'.heap[b]?=W.heap[b]?):uZ W' N G nl u:=by obtain⟨lb,off,lc,rfl,h1,h2,h3,h4,h5,h6⟩:=h;have e:=hk lb h1 h5;exact⟨lb,off,lc,rfl,h1,h2,h3,h4,h5.of e,fun j hj=>let⟨x,hx⟩:=h6 j hj;⟨x,(World.cell?_of_block e).trans hx⟩⟩
structure GC where
 N:Nat
 G:Nat
 B:Nat
 a:Option Addr
 len:Nat
 cap:Nat
 zs:List Int
 L:Int
 F:Nat
 nf:Nat
 fc:Nat
 gv:Int
def GC.eG (c:GC)(v u:Value):List Value:=
 [.pointer (some ⟨c.B,0,none⟩),v, .int .i64 c.L, .slice (some ⟨c.F,0,none⟩) c.nf c.fc,u, .int .i64 c.gv]
structure GS (c:GC)(n:Nat)(v:Value)(nl:Nat)(u:Value)(W:World):Prop where
 cur:gG W c.B c.a c.len c.cap c.zs
 ix:c.B<c.N/\c.N<=c.G/\c.F<c.N/\c.F≠c.B
 box:bi W c.G (c.eG v u)
 ty:Ty W c.G 124
 row:∃l,W.ownsRow c.N 127 2 v n (encS l)
 dX:uZ W c.N c.G nl u
 fn:∀j,j<c.nf->∃p q:Int,0<=p/\p<=3/\W.cell? ⟨c.F,j*4,none⟩=some (.int .i64 p)/\W.cell? ⟨c.F,j*4+2,none⟩=some (.int .i64 q)
 nf:0<c.nf/\c.nf<=3/\c.nf<=c.fc
 nl:0<nl
variable {c : GC} {n nl : Nat} {v u : Value} {W W' : World}
theorem GS.size (h:GS c n v nl u W):c.N<=W.heap.size:=by have:=h.ix;have:=h.box.1;omega
theorem GS.of (h:GS c n v nl u W)(kV:gG W' c.B c.a c.len c.cap c.zs){b:Nat}(hg:W.grownBy W' (some b))(h1:b≠c.G)(h2:b≠c.F)(h3:b<c.N):GS c n v nl u W':=by obtain⟨l,hl⟩:=h.row;have ix:=h.ix;have hs:=h.size;have hbl:∀k,k<W.heap.size->k≠b->W'.heap[k]?=W.heap[k]?:=fun k hk hne=>hg.block k hk (by simpa using hne);refine⟨kV,ix,h.box.bS hg (by simpa using h1),h.ty.of (hbl _ h.ty.lt (Ne.symm h1)),⟨l,Es hl hg h3⟩,h.dX.of (fun d hd ht=>hbl d ht.lt (by omega)),fun j hj=>?_,h.nf,h.nl⟩;obtain⟨p,q,h4,h5,h6,h7⟩:=h.fn j hj;have e:=hbl c.F (by omega) (Ne.symm h2);exact⟨p,q,h4,h5,(World.cell?_of_block e).trans h6,(World.cell?_of_block e).trans h7⟩
theorem GS.drawn (h:GS c n v nl u W)(hd:aM W W' c.B c.a c.len c.cap c.zs):GS c n v nl u W'/\KB c.N c.B W W':=by have ix:=h.ix;exact⟨h.of hd.1 hd.2 (by omega) (by omega) (by omega),KB.grown hd.2 h.size (fun k e=> .inl (by simpa using e.symm))⟩
theorem GS.kept (h:GS c n v nl u W)(hB:Below W.heap.size W W'):GS c n v nl u W':=by obtain⟨l,hl⟩:=h.row;have ix:=h.ix;have hs:=h.size;refine⟨h.cur.kept (row:=none) ⟨hB.os,hB.tape,hB.output,hB.size,fun k hk _=>hB.block k hk⟩ (by simp) (.inr (by simp)),ix,h.box.kept hB,h.ty.of (hB.block _ h.ty.lt),⟨l,aH hl hB⟩,h.dX.of (fun d hd ht=>hB.block d ht.lt),fun j hj=>?_,h.nf,h.nl⟩;obtain⟨p,q,h4,h5,h6,h7⟩:=h.fn j hj;have e:=hB.block c.F (by omega);exact⟨p,q,h4,h5,(World.cell?_of_block e).trans h6,(World.cell?_of_block e).trans h7⟩
theorem GS.app {W1:World}{v':Value}{n':Nat}{l:List (Int×Int)}(h:GS c n v nl u W)(hg:W.grownBy W1 v.ownBlock)(hrow:W1.ownsRow c.N 127 2 v' n' (encS l)):GS c n' v' nl u (W1.setCell ⟨c.G,1,none⟩ v')/\KB c.N c.B W (W1.setCell ⟨c.G,1,none⟩ v'):=by
 obtain⟨l0,hl⟩:=h.row
 have ix:=h.ix
 have hs:=h.size
 have hown:∀g,v.ownBlock=some g->c.N<=g/\Ty W g 127:=fun g e=>by refine⟨(hl.lt g e).1,?_⟩;rcases hl.2 with⟨rfl,_⟩|⟨g',c',cur,rfl,_,hb,_⟩;{cases e};cases e;exact⟨_,_,hb⟩
 have hbl:∀k,k<W.heap.size->(c.N<=k->¬Ty W k 127)->W1.heap[k]?=W.heap[k]?:=fun k hk hne=>hg.block k hk (fun e=>by
  obtain⟨a1,a2⟩:=hown k e.symm
  exact hne a1 a2)
 have hnt:∀k t,Ty W k t->t≠127->W1.heap[k]?=W.heap[k]?:=fun k t ht hne=>hbl k ht.lt (fun _ h2=>ht.ne h2 hne rfl)
 have hG:=hnt _ _ h.ty (by decide)
 have PD:bi W1 c.G (c.eG v u):=by refine h.box.bS hg (fun e=>?_);exact(h.ty.ne (hown _ e).2 (by decide)) rfl
 have PE:=h.ty.of hG
 have hset:=aF W1 ⟨c.G,1,none⟩ v'
 have hlo:∀k,k<c.N->(W1.setCell ⟨c.G,1,none⟩ v').heap[k]?=W.heap[k]?:=fun k hk=>(Below.heap_setCell _ _ _ _ (by simp only;omega)).trans (hbl k (by omega) (fun h'=>by omega))
 have hsz:W.heap.size<=(W1.setCell ⟨c.G,1,none⟩ v').heap.size:=Nat.le_trans hg.size hset.size
 refine⟨⟨?_,ix,PD.set 1 v',PE.set _ _,⟨l,zY hrow hset (fun g e=>?_)⟩,?_,fun j hj=>?_,h.nf,h.nl⟩,⟨hset.os.trans hg.os,hset.tape.trans hg.tape,hset.output.trans hg.output,hsz,fun k hk _=>hlo k hk⟩⟩
 · have c1:=h.cur.kept (w':=W1) hg (fun e=>by have:=(hown _ e.symm).1;omega) (h.cur.2.1.imp_right fun hx x e e'=>by have:=hx x e;have:=(hown _ e'.symm).1;omega);exact c1.kept hset (by simp only[ne_eq,af];omega) (h.cur.2.1.imp_right fun hx x e e'=>by have:=hx x e;simp only[af]at e';omega)
 · rcases hrow.2 with⟨rfl,_⟩|⟨g',c',cur,rfl,_,hb,_⟩;{cases e};cases e;exact Ty.ne ⟨_,_,hb⟩ PE (by decide)
 · have l1:uZ W1 c.N c.G nl u:=h.dX.of (fun d hd ht=>hnt d _ ht (by decide));obtain⟨lb,off,lc,rfl,h1,h2,h3,h4,h5,h6⟩:=l1;have e:(W1.setCell ⟨c.G,1,none⟩ v').heap[lb]?=W1.heap[lb]?:=Below.heap_setCell _ _ _ _ h2;exact⟨lb,off,lc,rfl,h1,h2,h3,h4,h5.of e,fun j hj=>let⟨x,hx⟩:=h6 j hj;⟨x,(World.cell?_of_block e).trans hx⟩⟩
 · obtain⟨p,q,h4,h5,h6,h7⟩:=h.fn j hj;have e:=hlo c.F (by omega);exact⟨p,q,h4,h5,(World.cell?_of_block e).trans h6,(World.cell?_of_block e).trans h7⟩
theorem GS.Ay {nl':Nat}{u':Value}(h:GS c n v nl u W)(hl:uZ W c.N c.G nl' u')(h0:0<nl'):GS c n v nl' u' (W.setCell ⟨c.G,4,none⟩ u')/\KB c.N c.B W (W.setCell ⟨c.G,4,none⟩ u'):=by obtain⟨l,hr⟩:=h.row;have ix:=h.ix;have hs:=h.size;have hset:=aF W ⟨c.G,4,none⟩ u';refine⟨⟨h.cur.kept hset (by simp only[ne_eq,af];omega) (h.cur.2.1.imp_right fun hx x e e'=>by have:=hx x e;simp only[af]at e';omega),ix,h.box.set 4 u',h.ty.set _ _,⟨l,zY hr hset (fun g e=>?_)⟩,?_,fun j hj=>?_,h.nf,h0⟩,KB.grown hset hs (fun k e=> .inr (by simp only[af]at e;omega))⟩;{rcases hr.2 with⟨rfl,_⟩|⟨g',c',cur,rfl,_,hb,_⟩;{cases e};cases e;exact Ty.ne ⟨_,_,hb⟩ h.ty (by decide)};{obtain⟨lb,off,lc,rfl,h1,h2,h3,h4,h5,h6⟩:=hl;have e:(W.setCell ⟨c.G,4,none⟩ (.slice (some ⟨lb,off,none⟩) nl' lc)).heap[lb]?=W.heap[lb]?:=Below.heap_setCell _ _ _ _ h2;exact⟨lb,off,lc,rfl,h1,h2,h3,h4,h5.of e,fun j hj=>let⟨x,hx⟩:=h6 j hj;⟨x,(World.cell?_of_block e).trans hx⟩⟩};obtain⟨p,q,h4,h5,h6,h7⟩:=h.fn j hj;have e:(W.setCell ⟨c.G,4,none⟩ u').heap[c.F]?=W.heap[c.F]?:=Below.heap_setCell _ _ _ _ (by simp only;omega);exact⟨p,q,h4,h5,(World.cell?_of_block e).trans h6,(World.cell?_of_block e).trans h7⟩
theorem GS.slice (h:GS c n v nl u W):∃ad cv,v= .slice ad n cv:=by obtain⟨l,hl⟩:=h.row;rcases hl.2 with⟨rfl,h0⟩|⟨g,cv,cur,rfl,_⟩;{exact⟨none,0,by rw[h0]⟩};exact⟨_,cv,rfl⟩
theorem dK (h:GS c n v nl u W)(x:Int):
   Calls Tryz.prog 29 #[.pointer (some ⟨c.B,0,none⟩), .int .i64 x] W fun e w'=>∃y:Int,e= .returned (.int .i64 y)/\0<=y/\y<=4294967295/\(y<x\/x<=0)/\GS c n v nl u w'/\KB c.N c.B W w':=
 (aD c.B c.a c.len c.cap c.zs x W h.cur).mono fun e w' ⟨y,h1,h2,h3,h4,hd⟩=>⟨y,h1,h2,h3,h4,h.drawn hd⟩
theorem fQ (h:GS c n v nl u W)(x:Int):
   Calls Tryz.prog 28 #[.pointer (some ⟨c.B,0,none⟩), .int .i64 x] W fun e w'=>∃y:Bool,e= .returned (.bool y)/\GS c n v nl u w'/\KB c.N c.B W w':=
 (cz c.B c.a c.len c.cap c.zs x W h.cur).mono fun e w' ⟨y,h1,hd⟩=>⟨y,h1,h.drawn hd⟩
theorem p9 (h:GS c n v nl u W):
   Calls Tryz.prog 83 #[.pointer (some ⟨c.B,0,none⟩)] W fun e w'=>∃y:Int,e= .returned (.int .i64 y)/\GS c n v nl u w'/\KB c.N c.B W w':=
 (kP c.B c.a c.len c.cap c.zs W h.cur).mono fun e w' ⟨y,h1,h2,h3,hd⟩=>⟨y,h1,h.drawn hd⟩
end
structure Fn where
 a:Int
 l:Int
 g:Int
 b:List (Int×Int)
namespace Fn
def z:Fn:=⟨0,0,0,[]⟩
end Fn
namespace Md
def tL (f:Fn):Bool:=Wd.bW f.a 0 3&&(Wd.bW f.l 0 3&&(Wd.bW f.g 0 1&&(decide (f.b.length<=80)&&St.bA f.b)))
def bA (fs:List Fn):Bool:=fs.all tL
def ok (fs:List Fn)(d:ByteArray):Bool:=(Wd.bW fs.length 1 4&&decide (d.size<=64))&&bA fs
def sum:List Fn->Nat
 |[]=>0
 |f::fs=>f.b.length+sum fs
theorem bu {fs:List Fn}(h:bA fs=true){j:Nat}(hj:j<fs.length):tL (fs.getD j .z)=true:=by rw[ah,ai hj];simp only[bA,List.all_eq_true]at h;exact h _ (List.getElem_mem hj)
theorem om {fs:List Fn}{j:Nat}(hj:j<fs.length):fs.take (j+1)=fs.take j++[fs.getD j .z]:=by rw[List.take_add_one,ah,ai hj];rfl
theorem l7 (fs:List Fn)(f:Fn):bA (fs++[f])=(bA fs&&tL f):=by simp[bA]
theorem og {fs:List Fn}{j:Nat}(hj:j<fs.length)(h:tL (fs.getD j .z)=false):bA fs=false:=by rcases e:bA fs with _|_;{rfl};rw[bu e hj]at h;cases h
theorem Aa {fs:List Fn}(h:bA fs=true):sum fs<=80*fs.length:=by
 induction fs with
 |nil=>simp[sum]
 |cons x xs ih=>
  simp only[bA,List.all_cons,au]at h
  have:=ih h.2
  have h1:=h.1
  simp only[tL,au,decide_eq_true_eq]at h1
  simp only[sum,List.length_cons]
  omega
end Md
def FL (w:World)(a:Option Addr)(len:Nat)(fs:List Fn):Prop:=
 fs.length=len/\len<=maxLen/\(len=0\/∃b off,a=some ⟨b,off,none⟩/\b<w.heap.size/\
   ∀ j,j<len->w.cell? ⟨b,off+j*4,none⟩=some (.int .i64 (fs.getD j .z).a)/\w.cell? ⟨b,off+j*4+1,none⟩=some (.int .i64 (fs.getD j .z).l)/\w.cell? ⟨b,off+j*4+2,none⟩=some (.int .i64 (fs.getD j .z).g)/\
     ∃ba bl bc,w.cell? ⟨b,off+j*4+3,none⟩=some (.slice ba bl bc)/\SL w ba bl (fs.getD j .z).b)
theorem FL.kept {w w':World}{a:Option Addr}{len:Nat}{fs:List Fn}(h:FL w a len fs)(hB:Below w.heap.size w w'):FL w' a len fs:=by obtain⟨h1,h2,h3|⟨b,off,rfl,hb,hx⟩⟩:=h;{exact⟨h1,h2, .inl h3⟩};refine⟨h1,h2, .inr ⟨b,off,rfl,aj hb hB.size,fun j hj=>?_⟩⟩;obtain⟨c0,c1,c2,ba,bl,bc,c3,hs⟩:=hx j hj;exact⟨(hB.cell (p:=⟨b,off+j*4,none⟩) hb).trans c0,(hB.cell (p:=⟨b,off+j*4+1,none⟩) hb).trans c1,(hB.cell (p:=⟨b,off+j*4+2,none⟩) hb).trans c2,ba,bl,bc,(hB.cell (p:=⟨b,off+j*4+3,none⟩) hb).trans c3,hs.kept hB⟩
theorem CW:(Tryz.prog.info? 120).map (fun i=>(i.zero,i.size,i.bytes))=some (some (.agg #[.int .i64 0, .int .i64 0, .int .i64 0, .slice none 0 0]),4,48):=by kernel_rfl
theorem yw (p l g:Int)(body:List (Int×Int))(ba:Option Addr)(bl bc:Nat)(w:World)(hs:SL w ba bl body):Calls Tryz.prog 114 #[.agg #[.int .i64 p, .int .i64 l, .int .i64 g, .slice ba bl bc]] w fun e w'=>e= .returned (.bool (Md.tL ⟨p,l,g,body⟩))/\Below w.heap.size w w':=by have hl:=hs.1;have hcon:=fun wx (h:Below w.heap.size w wx)=>vz ba bl bc body wx (hs.kept h);have hB1:=aA w (.cells #[.int .i64 p, .int .i64 l, .int .i64 g, .slice ba bl bc] 120);rcases h1:Wd.bW p 0 3 with _|_;{rw[Md.tL,h1,Bool.false_and];go_enter Tryz.func114,Tryz.ntmps114;go_wp2_with(go_at_call 60;refine(bB _ _ _ _).mono ?_;rintro e w' ⟨rfl,aZ⟩;subst w');go_ret;exact⟨rfl,hB1⟩};rcases h2:Wd.bW l 0 3 with _|_;{rw[Md.tL,h1,h2,Bool.false_and,Bool.and_false];go_enter Tryz.func114,Tryz.ntmps114;go_wp2_with(go_at_call 60;refine(bB _ _ _ _).mono ?_;rintro e w' ⟨rfl,aZ⟩;subst w');go_ret;exact⟨rfl,hB1⟩};rcases h3:Wd.bW g 0 1 with _|_;{rw[Md.tL,h1,h2,h3,Bool.false_and,Bool.and_false,Bool.and_false];go_enter Tryz.func114,Tryz.ntmps114;go_wp2_with(go_at_call 60;refine(bB _ _ _ _).mono ?_;rintro e w' ⟨rfl,aZ⟩;subst w');go_ret;exact⟨rfl,hB1⟩};rw[Md.tL,h1,h2,h3,Bool.true_and,Bool.true_and,Bool.true_and,hl];go_enter Tryz.func114,Tryz.ntmps114;go_wp2_with(go_at_call 60;refine(bB _ _ _ _).mono ?_;rintro e w' ⟨rfl,aZ⟩;subst w');refine(hcon _ hB1).mono ?_;rintro e w2 ⟨rfl,hB2⟩;have hB3:=hB1.trans (hB2.mono hB1.size);go_wp2;go_ret;exact⟨rfl,hB3⟩
theorem wu {w w1:World}{a b:Value}{t:TypeId}(hB:Below (w.alloc (.cells #[a,b] t)).heap.size (w.alloc (.cells #[a,b] t)) w1):w1.cell? ⟨w.heap.size,0,none⟩=some a/\w1.cell? ⟨w.heap.size,1,none⟩=some b/\w.heap.size<w1.heap.size:=by have hs:=hB.size;simp only[World.size_alloc]at hs;refine⟨(hB.cell (by simp)).trans ?_,(hB.cell (by simp)).trans ?_,by omega⟩<;>go_simp
abbrev Fv:=Int×Int×Int×Value
def IG:Fv:=(0,0,0, .slice none 0 0)
def oC (xs:List Fv):List Value:=xs.flatMap fun x=>[.int .i64 x.1, .int .i64 x.2.1, .int .i64 x.2.2.1,x.2.2.2]
theorem Di (x:Fv)(xs:List Fv):oC (x::xs)= .int .i64 x.1:: .int .i64 x.2.1:: .int .i64 x.2.2.1::x.2.2.2::oC xs:=rfl
theorem zn (xs ys:List Fv):oC (xs++ys)=oC xs++oC ys:=by simp[oC]
theorem yH:∀(xs:List Fv)(j:Nat),j<xs.length->(oC xs)[j*4]?=some (.int .i64 (xs.getD j IG).1)/\(oC xs)[j*4+1]?=some (.int .i64 (xs.getD j IG).2.1)/\(oC xs)[j*4+2]?=some (.int .i64 (xs.getD j IG).2.2.1)/\(oC xs)[j*4+3]?=some (xs.getD j IG).2.2.2
 |[],j,h=>by simp at h
 |x::xs,0,_=>⟨rfl,rfl,rfl,rfl⟩
 | x::xs,j+1,h=>by
   have ih:=yH xs j (by simp at h;omega)
   rw[Di,show(j+1)*4=j*4+1+1+1+1 by omega]
   refine⟨by simpa using ih.1,?_,?_,?_⟩
   · rw[show j*4+1+1+1+1+1=(j*4+1)+1+1+1+1 by omega];simpa using ih.2.1
   · rw[show j*4+1+1+1+1+2=(j*4+2)+1+1+1+1 by omega];simpa using ih.2.2.1
   · rw[show j*4+1+1+1+1+3=(j*4+3)+1+1+1+1 by omega];simpa using ih.2.2.2
def uK (W:World)(n₀ k:Nat)(vs:List Fv)(fs:List Fn):Prop:=
 ∀j,j<k->(vs.getD j IG).1=(fs.getD j .z).a/\(vs.getD j IG).2.1=(fs.getD j .z).l/\(vs.getD j IG).2.2.1=(fs.getD j .z).g/\OS W n₀ (vs.getD j IG).2.2.2 (fs.getD j .z).b
theorem uK.kept {W W':World}{n₀ k:Nat}{vs:List Fv}{fs:List Fn}(h:uK W n₀ k vs fs)(hB:Below W.heap.size W W'):uK W' n₀ k vs fs:=
 fun j hj=>⟨(h j hj).1,(h j hj).2.1,(h j hj).2.2.1,(h j hj).2.2.2.kept hB⟩
theorem OS.other {W W':World}{n₀ k:Nat}{v:Value}{xs:List (Int×Int)}(h:OS W n₀ v xs)(hg:W.grownBy W' (some k))(hne:k<n₀):OS W' n₀ v xs:=by obtain⟨g,cap,rfl,h0,hlt,hm,hrow⟩:=h;exact⟨g,cap,rfl,h0,aj hlt hg.size,hm,hrow.kept hg (.inr (by simp only[Value.ownBlock,ne_eq,af];omega))⟩
theorem uK.other {W W':World}{n₀ k b:Nat}{vs:List Fv}{fs:List Fn}(h:uK W n₀ k vs fs)(hg:W.grownBy W' (some b))(hne:b<n₀):uK W' n₀ k vs fs:=
 fun j hj=>⟨(h j hj).1,(h j hj).2.1,(h j hj).2.2.1,(h j hj).2.2.2.other hg hne⟩
def CO (W:World)(b:Nat)(v0 v1 v2 v3:Value):Prop:=
 b<W.heap.size/\W.cell? ⟨b,0,none⟩=some v0/\W.cell? ⟨b,1,none⟩=some v1/\W.cell? ⟨b,2,none⟩=some v2/\W.cell? ⟨b,3,none⟩=some v3/\W.frozen? ⟨b,0,none⟩=false/\W.frozen? ⟨b,1,none⟩=false/\W.frozen? ⟨b,2,none⟩=false/\W.frozen? ⟨b,3,none⟩=false
theorem CO.kept {W W':World}{b:Nat}{v0 v1 v2 v3:Value}(h:CO W b v0 v1 v2 v3)(hB:Below W.heap.size W W'):CO W' b v0 v1 v2 v3:=by obtain⟨h0,h1,h2,h3,h4,h5,h6,h7,h8⟩:=h;exact⟨aj h0 hB.size,(hB.cell h0).trans h1,(hB.cell h0).trans h2,(hB.cell h0).trans h3,(hB.cell h0).trans h4,(hB.frozen h0).trans h5,(hB.frozen h0).trans h6,(hB.frozen h0).trans h7,(hB.frozen h0).trans h8⟩
theorem CO.new (W:World)(v0 v1 v2 v3:Value)(t:TypeId):CO (W.alloc (.cells #[v0,v1,v2,v3] t)) W.heap.size v0 v1 v2 v3:=by refine⟨by simp,?_,?_,?_,?_,?_,?_,?_,?_⟩<;>go_simp
def Dp (W:World)(b:Nat)(v0 v1:Value):Prop:=
 b<W.heap.size/\W.cell? ⟨b,0,none⟩=some v0/\W.cell? ⟨b,1,none⟩=some v1/\W.frozen? ⟨b,0,none⟩=false/\W.frozen? ⟨b,1,none⟩=false
theorem Dp.kept {W W':World}{b:Nat}{v0 v1:Value}(h:Dp W b v0 v1)(hB:Below W.heap.size W W'):Dp W' b v0 v1:=by obtain⟨h0,h1,h2,h5,h6⟩:=h;exact⟨aj h0 hB.size,(hB.cell h0).trans h1,(hB.cell h0).trans h2,(hB.frozen h0).trans h5,(hB.frozen h0).trans h6⟩
theorem Dp.new (W:World)(v0 v1:Value)(t:TypeId):Dp (W.alloc (.cells #[v0,v1] t)) W.heap.size v0 v1:=by refine⟨by simp,?_,?_,?_,?_⟩<;>go_simp
theorem OS.set {W:World}{n₀:Nat}{v:Value}{xs:List (Int×Int)}(h:OS W n₀ v xs)(p:Addr)(hp:p.block<n₀)(x:Value):OS (W.setCell p x) n₀ v xs:=h.other (aF W p x) hp
abbrev Lv:=Int×Int×Int×Int×Int×Value
def eP:Lv:=(0,0,0,0,0, .slice none 0 0)
def cZ (xs:List Lv):List Value:=xs.flatMap fun x=>[.int .i64 x.1, .int .i64 x.2.1, .int .i64 x.2.2.1, .int .i64 x.2.2.2.1, .int .i64 x.2.2.2.2.1,x.2.2.2.2.2]
theorem fG (x:Lv)(xs:List Lv):cZ (x::xs)= .int .i64 x.1:: .int .i64 x.2.1:: .int .i64 x.2.2.1:: .int .i64 x.2.2.2.1:: .int .i64 x.2.2.2.2.1::x.2.2.2.2.2::cZ xs:=rfl
theorem vP (xs:List Lv):(cZ xs).length=xs.length*6:=by
 induction xs with
 |nil=>rfl
 |cons x xs ih=>rw[fG];simp only[List.length_cons,ih];omega
theorem lI:∀(xs:List Lv)(j:Nat),j<xs.length->(cZ xs)[j*6]?=some (.int .i64 (xs.getD j eP).1)/\(cZ xs)[j*6+1]?=some (.int .i64 (xs.getD j eP).2.1)/\(cZ xs)[j*6+2]?=some (.int .i64 (xs.getD j eP).2.2.1)/\(cZ xs)[j*6+3]?=some (.int .i64 (xs.getD j eP).2.2.2.1)/\(cZ xs)[j*6+4]?=some (.int .i64 (xs.getD j eP).2.2.2.2.1)/\(cZ xs)[j*6+5]?=some (xs.getD j eP).2.2.2.2.2
 |[],j,h=>by simp at h
 |x::xs,0,h=>⟨rfl,rfl,rfl,rfl,rfl,rfl⟩
 | x::xs,j+1,h=>by
   have ih:=lI xs j (by simpa using h)
   have e:(x::xs).getD (j+1) eP=xs.getD j eP:=rfl
   rw[e,fG]
   refine⟨?_,?_,?_,?_,?_,?_⟩
   · rw[show(j+1)*6=j*6+1+1+1+1+1+1 by omega];simp only[List.getElem?_cons_succ];exact ih.1
   · rw[show(j+1)*6+1=j*6+1+1+1+1+1+1+1 by omega];simp only[List.getElem?_cons_succ];exact ih.2.1
   · rw[show(j+1)*6+2=j*6+2+1+1+1+1+1+1 by omega];simp only[List.getElem?_cons_succ];exact ih.2.2.1
   · rw[show(j+1)*6+3=j*6+3+1+1+1+1+1+1 by omega];simp only[List.getElem?_cons_succ];exact ih.2.2.2.1
   · rw[show(j+1)*6+4=j*6+4+1+1+1+1+1+1 by omega];simp only[List.getElem?_cons_succ];exact ih.2.2.2.2.1
   · rw[show(j+1)*6+5=j*6+5+1+1+1+1+1+1 by omega];simp only[List.getElem?_cons_succ];exact ih.2.2.2.2.2
theorem uC:∀(xs:List Lv)(k:Nat)(x:Lv),cZ (xs.set k x)=((((((cZ xs).set (k*6) (.int .i64 x.1)).set (k*6+1) (.int .i64 x.2.1)).set (k*6+2) (.int .i64 x.2.2.1)).set (k*6+3) (.int .i64 x.2.2.2.1)).set (k*6+4) (.int .i64 x.2.2.2.2.1)).set (k*6+5) x.2.2.2.2.2
 |[],k,x=>rfl
 |y::xs,0,x=>rfl
 | y::xs,k+1,x=>by
   rw[List.set_cons_succ,fG,uC xs k x,fG]
   rw[show(k+1)*6=k*6+1+1+1+1+1+1 by omega]
   simp only[List.set_cons_succ]
def gL (W:World)(n₀ k:Nat)(vs:List Lv)(fs:List Ln):Prop:=
 ∀j,j<k->(vs.getD j eP).1=(fs.getD j .z).k/\(vs.getD j eP).2.1=(fs.getD j .z).d/\(vs.getD j eP).2.2.1=(fs.getD j .z).a/\(vs.getD j eP).2.2.2.1=(fs.getD j .z).b/\(vs.getD j eP).2.2.2.2.1=(fs.getD j .z).n/\OI W n₀ (vs.getD j eP).2.2.2.2.2 (fs.getD j .z).l
theorem gL.kept {W W':World}{n₀ k:Nat}{vs:List Lv}{fs:List Ln}(h:gL W n₀ k vs fs)(hB:Below W.heap.size W W'):gL W' n₀ k vs fs:=fun j hj=>by
 obtain⟨h0,h1,h2,h3,h4,h5⟩:=h j hj
 exact⟨h0,h1,h2,h3,h4,h5.kept hB⟩
theorem gL.other {W W':World}{n₀ k b:Nat}{vs:List Lv}{fs:List Ln}(h:gL W n₀ k vs fs)(hg:W.grownBy W' (some b))(hne:b<n₀):gL W' n₀ k vs fs:=fun j hj=>by
 obtain⟨h0,h1,h2,h3,h4,h5⟩:=h j hj
 exact⟨h0,h1,h2,h3,h4,h5.bS hg (fun g hgg=>by have:=(World.ownsRow.lt h5 g hgg).1;omega)⟩
theorem gL.mono {W:World}{n₀ n₁ k:Nat}{vs:List Lv}{fs:List Ln}(h:gL W n₁ k vs fs)(hn:n₀<=n₁):gL W n₀ k vs fs:=fun j hj=>by
 obtain⟨h0,h1,h2,h3,h4,h5⟩:=h j hj
 exact⟨h0,h1,h2,h3,h4,h5.mono hn⟩
theorem CR {W:World}{n₀ n₁ g n cap:Nat}{vs:List Lv}{fs:List Ln}(h:W.ownsRow n₀ 59 6 (.slice (some ⟨g,0,none⟩) n cap) n (cZ vs))(hn:fs.length=n)(ht:gL W n₁ n vs fs):LL W (some ⟨g,0,none⟩) n fs:=by have hv:n=vs.length:=by{have:=h.1;rw[vP]at this;omega};have hlt:=World.ownsRow.lt h g rfl;have hmx:n<=maxLen:=by{rcases h.2 with⟨h',_⟩|⟨g',cap',cur,h',_,_,hc,hm,_⟩;{cases h'};cases h';exact Nat.le_trans hc hm};refine⟨hn,hmx, .inr ⟨g,0,rfl,hlt.2,fun j hj=>?_⟩⟩;obtain⟨g0,g1,g2,g3,g4,g5⟩:=lI vs j (by omega);obtain⟨t0,t1,t2,t3,t4,t5⟩:=ht j hj;rw[Nat.zero_add];refine⟨(World.ownsRow.cellAt h (j*6) (by omega)).trans (by rw[g0,t0]),(World.ownsRow.cellAt h (j*6+1) (by omega)).trans (by rw[g1,t1]),(World.ownsRow.cellAt h (j*6+2) (by omega)).trans (by rw[g2,t2]),(World.ownsRow.cellAt h (j*6+3) (by omega)).trans (by rw[g3,t3]),(World.ownsRow.cellAt h (j*6+4) (by omega)).trans (by rw[g4,t4]),?_⟩;obtain⟨sa,sc,e,hs⟩:=t5.slice;exact⟨sa,_,sc,(World.ownsRow.cellAt h (j*6+5) (by omega)).trans (by rw[g5,e]),hs⟩
def nV (W:World)(n₀:Nat)(v:Value)(fs:List Ln):Prop:=
 ∃g cap vs,v= .slice (some ⟨g,0,none⟩) fs.length cap/\W.ownsRow n₀ 59 6 (.slice (some ⟨g,0,none⟩) fs.length cap) fs.length (cZ vs)/\gL W n₀ fs.length vs fs
theorem nV.LL {W:World}{n₀:Nat}{v:Value}{fs:List Ln}(h:nV W n₀ v fs):∃g cap,v= .slice (some ⟨g,0,none⟩) fs.length cap/\n₀<=g/\g<W.heap.size/\Go.Proofs.YthamlonlgnjljaaGreat.LL W (some ⟨g,0,none⟩) fs.length fs:=by obtain⟨g,cap,vs,rfl,hrow,ht⟩:=h;exact⟨g,cap,rfl,(World.ownsRow.lt hrow g rfl).1,(World.ownsRow.lt hrow g rfl).2,CR hrow rfl ht⟩
theorem vw:(Tryz.prog.info? 59).map (fun i=>(i.zero,i.size,i.bytes))=some (some (.agg #[.int .i64 0, .int .i64 0, .int .i64 0, .int .i64 0, .int .i64 0, .slice none 0 0]),6,64):=by kernel_rfl
namespace aG
def dep (xs:List (Int×Int)):Nat->Nat
 |0=>0
 |i+1=>if St.opens (op xs i)=true then dep xs i+1 else if op xs i=12 then dep xs i-1 else dep xs i
theorem lD {xs:List (Int×Int)}{i:Nat}(h:St.opens (op xs i)=true):dep xs (i+1)=dep xs i+1:=ay h
theorem qf {xs:List (Int×Int)}{i:Nat}(h:op xs i=12):dep xs (i+1)=dep xs i-1:=by have:¬St.opens (op xs i)=true:=by{rw[h];decide};show(if _ then _ else _)=_;rw[ax this,ay h]
theorem gU {xs:List (Int×Int)}{i:Nat}(h:St.opens (op xs i)=false)(h2:op xs i≠12):dep xs (i+1)=dep xs i:=by show(if _ then _ else _)=_;rw[ax (by simp[h]),ax h2]
theorem FT {xs:List (Int×Int)}:∀(f k:Nat)(E O:List Int)(S:List Nat){Ef Of:List Int},go xs f k E O S=(Ef,Of,true)->S.length=dep xs k->∀i,k<=i->i<xs.length->op xs i=12->dep xs i=0->i+1=xs.length
 |0,k,E,O,S,Ef,Of,h,hd=>by simp[go]at h
 | f + 1,k,E,O,S,Ef,Of,h,hd=>by
   intro i hi hil h12 hd0
   by_cases hk:xs.length<=k
   · rw[oG hk]at h;simp at h
   have hk:k<xs.length:=by omega
   have next:∀(S':List Nat)(E' O':List Int),go xs f (k+1) E' O' S'=(Ef,Of,true)->S'.length=dep xs (k+1)->(i=k->i+1=xs.length)->i+1=xs.length:=by
     intro S' E' O' h' hd' hc
     by_cases e:i=k
     · exact hc e
     · exact FT f (k+1) E' O' S' h' hd' i (by omega) hil h12 hd0
   rcases ho:St.opens (op xs k)with _|_
   · by_cases h11:op xs k=11
     · rcases S with _|⟨t,S'⟩
       · rw[jv hk ho h11]at h;simp at h
       · by_cases h2:op xs t=10/\O.getD t (-1)<0
         · rw[jf hk ho h11 h2]at h
           refine next _ _ _ h (by rw[gU ho (by omega)];exact hd) (fun e=>?_)
           subst e;omega
         · rw[ib hk ho h11 h2]at h;simp at h
     · by_cases oN:op xs k=12
       · rcases S with _|⟨t,S'⟩
         · rw[lC hk ho h11 oN]at h
           simp only[Prod.mk.injEq,decide_eq_true_eq]at h
           have:=h.2.2
           omega
         · rw[jh hk ho h11 oN]at h
           refine next _ _ _ h (by rw[qf oN,←hd];simp) (fun e=>?_)
           subst e
           rw[←hd]at hd0
           simp at hd0
       · rw[jy hk ho h11 oN]at h
         refine next _ _ _ h (by rw[gU ho oN];exact hd) (fun e=>?_)
         subst e;exact absurd h12 oN
   · rw[jd hk ho]at h
     refine next _ _ _ h (by rw[lD ho];simp[hd]) (fun e=>?_)
     subst e
     rw[h12]at ho
     cases ho
theorem Fz {xs:List (Int×Int)}(h:isOk xs=true){i:Nat}(hi:i<xs.length)(h12:op xs i=12)(hd:dep xs i=0):i+1=xs.length:=by have h2:(all xs).2.2=true:=by{rw[isOk,au]at h;exact h.2};exact FT (xs.length+1) 0 _ _ [] (Ef:=(all xs).1) (Of:=(all xs).2.1) (by show all xs=_;rw[←h2]) rfl i (Nat.zero_le _) hi h12 hd
end aG
theorem aG.nZ (xs:List (Int×Int)):∀i,aG.dep xs i<=i
 |0=>Nat.le_refl _
 | i +1=>by
   have h:=aG.nZ xs i
   rcases ho:St.opens (aG.op xs i)with _|_
   · by_cases h12:aG.op xs i=12
     · rw[aG.qf h12];omega
     · rw[aG.gU ho h12];omega
   · rw[aG.lD ho];omega
structure di where
 st:Int
 wd:Int
 cm:Bool
namespace Hg
def mx (a b:Int):Int:=if a<b then b else a
def tk (fs:List Fn)(p a:Int):Int:=
 if p=3\/p=7\/p=14\/p=10 then 1 else if p=4\/p=6\/p=17 then 1 else if p=5 then 2 else if p=18 then 2 else if p=16 then(fs.getD a.toNat .z).a else 0
def pt (fs:List Fn)(p a:Int):Int:=
 if p=1\/p=2 then 1 else if p=4\/p=6\/p=17 then 1 else if p=5 then 1 else if p=16 then(fs.getD a.toNat .z).g else 0
def bad (fs:List Fn)(f:Fn)(o:Int)(n:Nat)(p a:Int):Bool:=
 decide ((p=2\/p=3\/p=4)/\f.a+f.l<=a)||decide (p=16/\(fs.length:Int)<=a)||decide ((p=13\/p=14)/\(n:Int)-1<a)||decide (p=10/\a=1/\o<0)
def dX (S:List di)(a:Int):Int:=(S.getD a.toNat ⟨0,0,false⟩).wd
def dU (f:Fn)(p a h mo:Int)(x:di)(S:List di):Option (Int×Int×List di):=
 if p=8\/p=9\/p=10 then some (h,mo,⟨h,a,decide (0<=h)⟩::x::S)
 else if p=13\/p=14 then(if 0<=h/\h-x.st<dX (x::S) a then none else some (if p=13 then -1 else h,mo,x::S))
 else if p=15 then(if 0<=h/\h-x.st<f.g then none else some (-1,mo,x::S))
 else if p=19 then some (-1,mo,x::S)
 else if p=11 then(if 0<=h/\h-x.st≠x.wd then none else some (if x.cm=true then x.st else -1,mx mo (if x.cm=true then x.st else -1),x::S))
 else if p=12 then(if 0<=h/\h-x.st≠x.wd then none else some (if x.cm=true then x.st+x.wd else -1,mx mo (if x.cm=true then x.st+x.wd else -1),S))
 else some (h,mo,x::S)
def one (fs:List Fn)(f:Fn)(o p a h mo:Int)(S:List di):Option (Int×Int×List di):=
 match S with
 |[]=>none
 | x::S'=>
   if bad fs f o (S'.length+1) p a=true then none
   else if 0<=h then(if h-x.st<tk fs p a then none else dU f p a (h-tk fs p a+pt fs p a) (mx mo (h-tk fs p a+pt fs p a)) x S')
   else dU f p a h mo x S'
def go (fs:List Fn)(f:Fn)(O:List Int):Nat->Nat->Int->Int->List di->List Int->Option (List Int×Int)
 |0,_,_,mo,_,out=>some (out,mo)
 | n+1,i,h,mo,S,out=>
   match one fs f (O.getD i (-1)) (aG.op f.b i) (f.b.getD i (0,0)).2 h mo S with
   |none=>none
   |some (h',fe,S')=>go fs f O n (i+1) h' fe S' (out++[h])
def all (fs:List Fn)(f:Fn):Option (List Int×Int):=go fs f (aG.aR f.b) f.b.length 0 0 f.g [⟨0,f.g,true⟩] []
def gN (fs:List Fn)(f:Fn):Option (List Int×Int):=
 if aG.isOk f.b=true then match all fs f with
   |some (out,mo)=>if mo<=20 then some (out,mo)else none
   |none=>none
 else none
def gM (fs:List Fn)(d:ByteArray)(k:Int):Option (List Int×Int):=if Md.ok fs d=true/\0<=k/\k<fs.length then gN fs (fs.getD k.toNat .z)else none
def valid (fs:List Fn)(d:ByteArray):Bool:=Md.ok fs d&&(List.range fs.length).all fun(k:Nat)=>(gM fs d k).isSome
theorem lu {fs:List Fn}{f:Fn}{O:List Int}{i:Nat}{h mo h' fe:Int}{S S':List di}{out:List Int}(hi:i<f.b.length)(h1:one fs f (O.getD i (-1)) (aG.op f.b i) (f.b.getD i (0,0)).2 h mo S=some (h',fe,S')):go fs f O (f.b.length-i) i h mo S out=go fs f O (f.b.length-(i+1)) (i+1) h' fe S' (out++[h]):=by rw[show f.b.length-i=(f.b.length-(i+1))+1 by omega,go,h1]
theorem nA {fs:List Fn}{f:Fn}{O:List Int}{i:Nat}{h mo:Int}{S:List di}{out:List Int}(hi:i<f.b.length)(h1:one fs f (O.getD i (-1)) (aG.op f.b i) (f.b.getD i (0,0)).2 h mo S=none):go fs f O (f.b.length-i) i h mo S out=none:=by rw[show f.b.length-i=(f.b.length-(i+1))+1 by omega,go,h1]
theorem Fh {fs:List Fn}{f:Fn}(h:all fs f=none):gN fs f=none:=by unfold gN;rw[h];split<;>rfl
theorem Fu {fs:List Fn}{f:Fn}{out:List Int}{mo:Int}(mG:aG.isOk f.b=true)(h:all fs f=some (out,mo)):gN fs f=if mo<=20 then some (out,mo)else none:=by unfold gN;rw[ay mG,h]
theorem iM {fs:List Fn}{f:Fn}{o p a h mo:Int}{x:di}{S:List di}(hb:bad fs f o (S.length+1) p a=true):one fs f o p a h mo (x::S)=none:=by exact ay hb
theorem dH {fs:List Fn}{f:Fn}{o p a h mo:Int}{x:di}{S:List di}(hb:bad fs f o (S.length+1) p a=false)(h0:0<=h)(h1:h-x.st<tk fs p a):one fs f o p a h mo (x::S)=none:=by show(if _ then _ else if _ then(if _ then _ else _)else _)=_;rw[ax (by simp[hb]),ay h0,ay h1]
theorem iq {fs:List Fn}{f:Fn}{o p a h mo:Int}{x:di}{S:List di}(hb:bad fs f o (S.length+1) p a=false)(h0:0<=h)(h1:¬h-x.st<tk fs p a):one fs f o p a h mo (x::S)=dU f p a (h-tk fs p a+pt fs p a) (mx mo (h-tk fs p a+pt fs p a)) x S:=by show(if _ then _ else if _ then(if _ then _ else _)else _)=_;rw[ax (by simp[hb]),ay h0,ax h1]
theorem ze {fs:List Fn}{f:Fn}{o p a h mo:Int}{x:di}{S:List di}(hb:bad fs f o (S.length+1) p a=false)(h0:h<0):one fs f o p a h mo (x::S)=dU f p a h mo x S:=by show(if _ then _ else if _ then(if _ then _ else _)else _)=_;rw[ax (by simp[hb]),ax (by omega)]
theorem Ez {a b c:Int}(h1:a<=c)(h2:b<=c):mx a b<=c:=by unfold mx;split<;>omega
theorem yR {a b c:Int}(h:c<=a):c<=mx a b:=by unfold mx;split<;>omega
structure Bd (i:Nat)(h mo:Int)(S:List di):Prop where
 hb:-1<=h/\h<=i
 mb:0<=mo/\mo<=i+1
 sb:∀x∈S,-1<=x.st/\x.st+x.wd<=i+1/\0<=x.wd/\x.wd<=1
theorem Er {f:Fn}{p a h mo h' fe:Int}{x:di}{S S':List di}{i:Nat}(ha:p=8\/p=9\/p=10->0<=a/\a<=1)(hb:-1<=h/\h<=i+1)(ho:p=8\/p=9\/p=10->h<=i)(mb:0<=mo/\mo<=i+2)(sb:∀x'∈x::S,-1<=x'.st/\x'.st+x'.wd<=i+1/\0<=x'.wd/\x'.wd<=1)(h1:dU f p a h mo x S=some (h',fe,S')):Bd (i+1) h' fe S':=by have sx:=sb x (by simp);have sb':∀x'∈x::S,-1<=x'.st/\x'.st+x'.wd<=((i+1:Nat):Int)+1/\0<=x'.wd/\x'.wd<=1:=fun x' hx=>by{have:=sb x' hx;omega};have sbt:∀x'∈S,-1<=x'.st/\x'.st+x'.wd<=((i+1:Nat):Int)+1/\0<=x'.wd/\x'.wd<=1:=fun x' hx=>sb' x' (List.mem_cons_of_mem _ hx);unfold dU at h1;split at h1;{rename_i hp;have:=ha hp;have:=ho hp;simp only[af,Prod.mk.injEq]at h1;obtain⟨rfl,rfl,rfl⟩:=h1;refine⟨by omega,by omega,fun x' hx=>?_⟩;rcases List.mem_cons.1 hx with rfl|hx;{simp only;omega};exact sb' x' hx};split at h1;{split at h1;{cases h1};simp only[af,Prod.mk.injEq]at h1;obtain⟨rfl,rfl,rfl⟩:=h1;exact⟨by split<;>omega,by omega,sb'⟩};split at h1;{split at h1;{cases h1};simp only[af,Prod.mk.injEq]at h1;obtain⟨rfl,rfl,rfl⟩:=h1;exact⟨by omega,by omega,sb'⟩};split at h1;{simp only[af,Prod.mk.injEq]at h1;obtain⟨rfl,rfl,rfl⟩:=h1;exact⟨by omega,by omega,sb'⟩};split at h1;{split at h1;{cases h1};simp only[af,Prod.mk.injEq]at h1;obtain⟨rfl,rfl,rfl⟩:=h1;refine⟨by split<;>omega,⟨yR mb.1,Ez (by omega) (by split<;>omega)⟩,sb'⟩};split at h1;{split at h1;{cases h1};simp only[af,Prod.mk.injEq]at h1;obtain⟨rfl,rfl,rfl⟩:=h1;refine⟨by split<;>omega,⟨yR mb.1,Ez (by omega) (by split<;>omega)⟩,sbt⟩};simp only[af,Prod.mk.injEq]at h1;obtain⟨rfl,rfl,rfl⟩:=h1;exact⟨by omega,by omega,sb'⟩
theorem G9 {f:Fn}{p a h mo h' fe:Int}{x:di}{S S':List di}(h1:dU f p a h mo x S=some (h',fe,S')):S'.length=if St.opens p=true then S.length+2 else if p=12 then S.length else S.length+1:=by unfold dU at h1;have ho:St.opens p=true↔(p=8\/p=9\/p=10):=by{unfold St.opens;exact decide_eq_true_iff};split at h1;{rename_i hp;rw[ay (ho.2 hp)];simp only[af,Prod.mk.injEq]at h1;obtain⟨-,-,rfl⟩:=h1;rfl};rename_i hp;rw[ax (fun q=>hp (ho.1 q))];split at h1;{rename_i hp;rw[ax (by omega)];split at h1;{cases h1};simp only[af,Prod.mk.injEq]at h1;obtain⟨-,-,rfl⟩:=h1;rfl};split at h1;{rename_i hp;rw[ax (by omega)];split at h1;{cases h1};simp only[af,Prod.mk.injEq]at h1;obtain⟨-,-,rfl⟩:=h1;rfl};split at h1;{rename_i hp;rw[ax (by omega)];simp only[af,Prod.mk.injEq]at h1;obtain⟨-,-,rfl⟩:=h1;rfl};split at h1;{rename_i hp;rw[ax (by omega)];split at h1;{cases h1};simp only[af,Prod.mk.injEq]at h1;obtain⟨-,-,rfl⟩:=h1;rfl};split at h1;{rename_i hp;rw[ay hp];split at h1;{cases h1};simp only[af,Prod.mk.injEq]at h1;obtain⟨-,-,rfl⟩:=h1;rfl};rename_i hp;rw[ax hp];simp only[af,Prod.mk.injEq]at h1;obtain⟨-,-,rfl⟩:=h1;rfl
theorem wX {xs:List (Int×Int)}{f:Fn}{a h mo h' fe:Int}{x:di}{S S':List di}{i:Nat}(hok:aG.isOk xs=true)(hi:i+1<xs.length)(hd:S.length=aG.dep xs i)(h1:dU f (aG.op xs i) a h mo x S=some (h',fe,S')):S'.length=aG.dep xs (i+1)+1:=by have hl:=G9 h1;rcases ho:St.opens (aG.op xs i)with _|_;{rw[ho,ax (by simp)]at hl;by_cases h12:aG.op xs i=12;{rw[ay h12]at hl;have:aG.dep xs i≠0:=fun e=>by{have:=aG.Fz hok (i:=i) (by omega) h12 e;omega};rw[aG.qf h12];omega};rw[ax h12]at hl;rw[aG.gU ho h12];omega};rw[ho,ay rfl]at hl;rw[aG.lD ho];omega
end Hg
theorem lY (a:Option Addr)(len cap:Nat)(fs:List Fn)(d:ByteArray)(hd:d.size<=maxLen)(w:World)(hs:FL w a len fs):Calls Tryz.prog 100 #[.agg #[.slice a len cap, .string d]] w fun e w'=>e= .returned (.bool (Md.ok fs d))/\Below w.heap.size w w':=by obtain⟨hl,hm,hrow⟩:=hs;unfold maxLen at hm hd;have hB1:=aA w (.cells #[.slice a len cap, .string d] 84);have hB0:=Below.refl (w.alloc (.cells #[.slice a len cap, .string d] 84)).heap.size (w.alloc (.cells #[.slice a len cap, .string d] 84));go_enter Tryz.func100,Tryz.ntmps100;go_wp2;go_loopw [3] (fun i wr=>∃k:Nat,i= .int .i64 k/\k<=len/\Md.bA (fs.take k)=true/\Below (w.alloc (.cells #[.slice a len cap, .string d] 84)).heap.size (w.alloc (.cells #[.slice a len cap, .string d] 84)) wr) (fun i _=>len-(intOf i).toNat);(case atStart=>exact⟨0,rfl,Nat.zero_le _,rfl,hB0⟩);case round=>obtain⟨k,rfl,hk,hok,hBr⟩:=hrel;obtain⟨c0,c1,WQ⟩:=wu hBr;have hB:=hB1.trans (hBr.mono hB1.size);have HO:Hid (Md.bA (fs.take k)=true):=hok;have HL:Hid (fs.length=len):=hl;have HB:=ae hBr;clear hok hl hB1 hB0 hBr;by_cases hlt:k<len;{rcases hrow with h0|⟨b,off,rfl,hb,hx⟩;{omega};obtain⟨x0,x1,x2,ba,bl,bc,x3,hsl⟩:=hx k hlt;have hx0:=(hB.cell (p:=⟨b,off+k*4,none⟩) hb).trans x0;have hx1:=(hB.cell (p:=⟨b,off+k*4+1,none⟩) hb).trans x1;have hx2:=(hB.cell (p:=⟨b,off+k*4+2,none⟩) hb).trans x2;have hx3:=(hB.cell (p:=⟨b,off+k*4+3,none⟩) hb).trans x3;obtain⟨⟨p,l,g,bd⟩,hpq⟩:∃x,fs.getD k .z=x:=⟨_,rfl⟩;rw[hpq]at hx0 hx1 hx2 hsl;simp only at hx0 hx1 hx2 hsl;have HP:Hid (fs.getD k .z=⟨p,l,g,bd⟩):=hpq;have hcon:=yw p l g bd ba bl bc _ (hsl.kept hB);clear hx hpq x0 x1 x2 x3 hsl;rcases ho:Md.tL ⟨p,l,g,bd⟩with _|_;{rw[ho]at hcon;go_wp2_with fail;refine hcon.mono ?_;rintro e w1 ⟨rfl,hB1⟩;have hB2:=hB.trans (hB1.mono hB.size);clear hcon;go_wp2;go_ret;refine⟨?_,hB2⟩;rw[Md.ok,Md.og (j:=k) (by rw[HL.out];exact hlt) (by rw[HP.out];exact ho),Bool.and_false];rfl};rw[ho]at hcon;go_wp2_with fail;refine hcon.mono ?_;rintro e w1 ⟨rfl,hB1⟩;clear hcon;go_wp2;go_roundw;(case rel=>exact⟨k+1,by simp,by omega,by rw[Md.om (by rw[HL.out];exact hlt),Md.l7,HO.out,HP.out,ho];rfl,HB.out.trans (hB1.mono HB.out.size)⟩);case measure=>simp[intOf];omega};have hke:k=len:=by{omega};subst hke;clear hrow;have e:Md.bA fs=true:=by{have:=HO.out;rwa [List.take_of_length_le (by rw[HL.out];exact Nat.le_refl _)]at this};have eok:Md.ok fs d=(Wd.bW k 1 4&&decide (d.size<=64)):=by{rw[Md.ok,e,Bool.and_true,HL.out]};clear e;have EOK:=ae eok;clear eok;rcases h1:Wd.bW k 1 4 with _|_;{go_wp2_with(go_at_call 60;refine(bB _ _ _ _).mono ?_;rintro e w' ⟨rfl,aZ⟩;subst w');go_ret;exact⟨by rw[EOK.out,h1];rfl,hB⟩};go_wp2_with(go_at_call 60;refine(bB _ _ _ _).mono ?_;rintro e w' ⟨rfl,aZ⟩;subst w');go_ret;exact⟨bC (by rw[EOK.out,h1];simp;omega),hB⟩
theorem wD (W:World)(n:Nat):Below W.heap.size W (W.drewN n):=⟨rfl,rfl,rfl,Nat.le_refl _,fun _ _=>rfl⟩
theorem aQ (a b:Int)(w:World):Calls Tryz.prog 116 #[.int .i64 a, .int .i64 b] w fun e w'=>e= .returned (.int .i64 (Hg.mx a b))/\w'=w:=by by_cases h:b<a;{have e:Hg.mx a b=a:=by{unfold Hg.mx;rw[ax (by omega)]};rw[e];go_enter Tryz.func116,Tryz.ntmps116;go_wp2;go_ret;exact⟨rfl,rfl⟩};have e:Hg.mx a b=b:=by{unfold Hg.mx;split;{rfl};omega};rw[e];go_enter Tryz.func116,Tryz.ntmps116;go_wp2;go_ret;exact⟨rfl,rfl⟩
theorem aY (a:Option Addr)(len cap:Nat)(fs:List Fn)(d:ByteArray)(p q:Int)(hp:1<=p/\p<=20)(hq:p=16->0<=q/\q<len)(w:World)(hs:FL w a len fs):Calls Tryz.prog 115 #[.agg #[.slice a len cap, .string d], .agg #[.int .i64 p, .int .i64 q]] w fun e w'=>e= .returned (.tuple #[.int .i64 (Hg.tk fs p q), .int .i64 (Hg.pt fs p q)])/\Below w.heap.size w w':=by obtain⟨hl,hm,hrow⟩:=hs;have hB2:=Dq w (.cells #[.slice a len cap, .string d] 84) (.cells #[.int .i64 p, .int .i64 q] 127);by_cases h16:p=16;{subst h16;obtain⟨hq0,hq1⟩:=hq rfl;obtain⟨j,rfl⟩:∃j:Nat,q=j:=⟨q.toNat,by omega⟩;rcases hrow with h0|⟨b,off,rfl,hb,hx⟩;{omega};have hj:j<len:=by{omega};obtain⟨x0,x1,x2,-⟩:=hx j hj;have y0:=(hB2.cell (p:=⟨b,off+j*4,none⟩) hb).trans x0;have y2:=(hB2.cell (p:=⟨b,off+j*4+2,none⟩) hb).trans x2;have e1:Hg.tk fs 16 j=(fs.getD j .z).a:=by{unfold Hg.tk;simp};have e2:Hg.pt fs 16 j=(fs.getD j .z).g:=by{unfold Hg.pt;simp};rw[e1,e2];obtain⟨⟨fa,fl,fg,fb⟩,hf⟩:∃x,fs.getD j .z=x:=⟨_,rfl⟩;rw[hf]at y0 y2 ⊢;simp only at y0 y2 ⊢;clear hx x0 x1 x2 hf e1 e2 hl;go_enter Tryz.func115,Tryz.ntmps115;go_wp2;go_quiet (fail);go_wp2;go_ret2;exact⟨rfl,hB2.trans ((wD _ _).mono hB2.size)⟩};have hp':p=1\/p=2\/p=3\/p=4\/p=5\/p=6\/p=7\/p=8\/p=9\/p=10\/p=11\/p=12\/p=13\/p=14\/p=15\/p=17\/p=18\/p=19\/p=20:=by{omega};clear hq hp h16 hrow hm hl;rcases hp' with rfl|rfl|rfl|rfl|rfl|rfl|rfl|rfl|rfl|rfl|rfl|rfl|rfl|rfl|rfl|rfl|rfl|rfl|rfl;all_goals go_enter Tryz.func115,Tryz.ntmps115;go_wp2;go_ret2;exact⟨rfl,hB2⟩
namespace Hg
def Lv:Int->List di->Prop
 |_,[]=>True
 |h,x::S=>(0<=h->0<=x.st)/\x.cm=decide (0<=x.st)/\Lv x.st S
theorem Lv.mono {h h':Int}{S:List di}(H:Lv h S)(hh:0<=h'->0<=h):Lv h' S:=by
 cases S with
 |nil=>trivial
 |cons x S=>exact⟨fun e=>H.1 (hh e),H.2⟩
theorem xq {f:Fn}{p a h mo h' fe:Int}{x:di}{S S':List di}(H:Lv h (x::S))(h1:dU f p a h mo x S=some (h',fe,S')):Lv h' S':=by have hcm:=H.2.1;have hc:x.cm=true->0<=x.st:=fun e=>by{rw[hcm]at e;simpa using e};unfold dU at h1;split at h1;{simp only[af,Prod.mk.injEq]at h1;obtain⟨rfl,rfl,rfl⟩:=h1;exact⟨id,rfl,H⟩};split at h1;{split at h1;{cases h1};simp only[af,Prod.mk.injEq]at h1;obtain⟨rfl,rfl,rfl⟩:=h1;refine H.mono fun e=>?_;split at e<;>omega};split at h1;{split at h1;{cases h1};simp only[af,Prod.mk.injEq]at h1;obtain⟨rfl,rfl,rfl⟩:=h1;exact H.mono fun e=>by omega};split at h1;{simp only[af,Prod.mk.injEq]at h1;obtain⟨rfl,rfl,rfl⟩:=h1;exact H.mono fun e=>by omega};split at h1;{split at h1;{cases h1};simp only[af,Prod.mk.injEq]at h1;obtain⟨rfl,rfl,rfl⟩:=h1;refine⟨fun e=>?_,H.2⟩;split at e;{exact e};omega};split at h1;{split at h1;{cases h1};simp only[af,Prod.mk.injEq]at h1;obtain⟨rfl,rfl,rfl⟩:=h1;refine H.2.2.mono fun e=>?_;split at e;{rename_i hh;exact hc hh};omega};simp only[af,Prod.mk.injEq]at h1;obtain⟨rfl,rfl,rfl⟩:=h1;exact H
end Hg
def fE (S:List di):List Value:=S.flatMap fun x=>[.int .i64 x.st, .int .i64 x.wd, .int .i64 x.wd, .bool x.cm, .bool false]
theorem ky (S T:List di):fE (S++T)=fE S++fE T:=by simp[fE]
theorem o5 (S:List di):(fE S).length=S.length*5:=by
 induction S with
 |nil=>rfl
 |cons x S ih=>simp only[fE,List.flatMap_cons,List.length_append,List.length_cons]at ih ⊢;simp only[List.length_nil];omega
theorem bG {W:World}{n₀ g c:Nat}{x:di}{S:List di}(h:W.ownsRow n₀ 183 5 (.slice (some ⟨g,0,none⟩) (x::S).length c) (x::S).length (fE (x::S).reverse)):W.cell? ⟨g,S.length*5,none⟩=some (.int .i64 x.st)/\W.cell? ⟨g,S.length*5+1,none⟩=some (.int .i64 x.wd)/\W.cell? ⟨g,S.length*5+2,none⟩=some (.int .i64 x.wd)/\W.cell? ⟨g,S.length*5+3,none⟩=some (.bool x.cm)/\W.cell? ⟨g,S.length*5+4,none⟩=some (.bool false):=by have e:fE (x::S).reverse=fE S.reverse++[.int .i64 x.st, .int .i64 x.wd, .int .i64 x.wd, .bool x.cm, .bool false]:=by{rw[List.reverse_cons,ky];rfl};have hl:(fE S.reverse).length=S.length*5:=by{rw[o5,List.length_reverse]};have hc:∀j,j<5->W.cell? ⟨g,S.length*5+j,none⟩=[Value.int .i64 x.st, .int .i64 x.wd, .int .i64 x.wd, .bool x.cm, .bool false][j]?:=fun j hj=>by{rw[h.cellAt (S.length*5+j) (by simp only[List.length_cons];omega),e,List.getElem?_append_right (by omega),hl];congr 1;omega};exact⟨hc 0 (by omega),hc 1 (by omega),hc 2 (by omega),hc 3 (by omega),hc 4 (by omega)⟩
theorem gW:(Tryz.prog.info? 183).map (fun i=>(i.zero,i.size,i.bytes))=some (some (.agg #[.int .i64 0, .int .i64 0, .int .i64 0, .bool false, .bool false]),5,32):=by kernel_rfl
structure HI (fs:List Fn)(f:Fn)(O:List Int)(w3:World)(i:Nat)(h mo:Int)(S:List di)(out:List Int)(g1 c1 g2 c2:Nat)(wr:World):Prop where
 rl:wr.ownsRow w3.heap.size 2 1 (.slice (some ⟨g1,0,none⟩) i c1) i (out.map iv)
 rp:wr.ownsRow w3.heap.size 183 5 (.slice (some ⟨g2,0,none⟩) S.length c2) S.length (fE S.reverse)
 eY:Below w3.heap.size w3 wr
 eq:Hg.all fs f=Hg.go fs f O (f.b.length-i) i h mo S out
 dep:i<f.b.length->S.length=aG.dep f.b i+1
 hb:-1<=h/\h<=i
 mb:0<=mo/\mo<=i+1
 sb:∀x∈S,-1<=x.st/\x.st+x.wd<=i+1/\0<=x.wd/\x.wd<=1
 lv:Hg.Lv h S
theorem HI.dead {fs:List Fn}{f:Fn}{O:List Int}{w3 wr wF:World}{i:Nat}{h mo h' fe:Int}{x:di}{S S2:List di}{out:List Int}{g1 c1 g2 c2 g1' c1' g2' c2':Nat}(H:HI fs f O w3 i h mo (x::S) out g1 c1 g2 c2 wr)(hok:aG.isOk f.b=true)(hi:i<f.b.length){p a:Int}(hpq:f.b.getD i (0,0)=(p,a))(hb:Hg.bad fs f (O.getD i (-1)) (S.length+1) p a=false)(h0:h<0)(ha:p=8\/p=9\/p=10->0<=a/\a<=1)(hc:Hg.dU f p a h mo x S=some (h',fe,S2))(rl:wF.ownsRow w3.heap.size 2 1 (.slice (some ⟨g1',0,none⟩) (i+1) c1') (i+1) ((out++[h]).map iv))(rp:wF.ownsRow w3.heap.size 183 5 (.slice (some ⟨g2',0,none⟩) S2.length c2') S2.length (fE S2.reverse))(eY:Below w3.heap.size w3 wF):HI fs f O w3 (i+1) h' fe S2 (out++[h]) g1' c1' g2' c2' wF:=by have hop:aG.op f.b i=p:=by{rw[aG.op,hpq]};have bd:=Hg.Er (i:=i) ha (by have:=H.hb;omega) (fun _=>by have:=H.hb;omega) (by have:=H.mb;omega) H.sb hc;have hd:=H.dep hi;refine⟨rl,rp,eY,?_,fun hi'=>?_,bd.hb,bd.mb,bd.sb,Hg.xq H.lv hc⟩;{rw[H.eq,Hg.lu hi (by rw[hop,hpq];exact(Hg.ze hb h0).trans hc)]};exact Hg.wX hok hi' (by simpa using hd) (by rw[hop];exact hc)
theorem HI.mf {fs:List Fn}{f:Fn}{O:List Int}{w3 wr wF:World}{i:Nat}{h mo h' fe:Int}{x:di}{S S2:List di}{out:List Int}{g1 c1 g2 c2 g1' c1' g2' c2':Nat}(H:HI fs f O w3 i h mo (x::S) out g1 c1 g2 c2 wr)(hok:aG.isOk f.b=true)(hi:i<f.b.length){p a:Int}(hpq:f.b.getD i (0,0)=(p,a))(hb:Hg.bad fs f (O.getD i (-1)) (S.length+1) p a=false)(h0:0<=h)(hge:¬h-x.st<Hg.tk fs p a)(htk:0<=Hg.tk fs p a)(hpt:0<=Hg.pt fs p a/\Hg.pt fs p a<=1)(ha:p=8\/p=9\/p=10->(0<=a/\a<=1)/\Hg.pt fs p a=0)(hc:Hg.dU f p a (h-Hg.tk fs p a+Hg.pt fs p a) (Hg.mx mo (h-Hg.tk fs p a+Hg.pt fs p a)) x S=some (h',fe,S2))(rl:wF.ownsRow w3.heap.size 2 1 (.slice (some ⟨g1',0,none⟩) (i+1) c1') (i+1) ((out++[h]).map iv))(rp:wF.ownsRow w3.heap.size 183 5 (.slice (some ⟨g2',0,none⟩) S2.length c2') S2.length (fE S2.reverse))(eY:Below w3.heap.size w3 wF):HI fs f O w3 (i+1) h' fe S2 (out++[h]) g1' c1' g2' c2' wF:=by have hop:aG.op f.b i=p:=by{rw[aG.op,hpq]};have hh:=H.hb;have hm:=H.mb;have hx:=H.sb x (by simp);have bd:=Hg.Er (i:=i) (fun e=>(ha e).1) (by omega) (fun e=>by have:=(ha e).2;omega) ⟨Hg.yR hm.1,Hg.Ez (by omega) (by omega)⟩ H.sb hc;have hd:=H.dep hi;refine⟨rl,rp,eY,?_,fun hi'=>?_,bd.hb,bd.mb,bd.sb,Hg.xq (H.lv.mono fun _=>h0) hc⟩;{rw[H.eq,Hg.lu hi (by rw[hop,hpq];exact(Hg.iq hb h0 hge).trans hc)]};exact Hg.wX hok hi' (by simpa using hd) (by rw[hop];exact hc)
theorem HI.no {fs:List Fn}{f:Fn}{O:List Int}{w3 wr:World}{i:Nat}{h mo:Int}{S:List di}{out:List Int}{g1 c1 g2 c2:Nat}(H:HI fs f O w3 i h mo S out g1 c1 g2 c2 wr)(hi:i<f.b.length){p a:Int}(hpq:f.b.getD i (0,0)=(p,a))(h1:Hg.one fs f (O.getD i (-1)) p a h mo S=none):Hg.gN fs f=none:=by have hop:aG.op f.b i=p:=by{rw[aG.op,hpq]};exact Hg.Fh (by rw[H.eq,Hg.nA hi (by rw[hop,hpq];exact h1)])
theorem Dg (W:World)(v0 v1 v2 v3 v4:Value)(t:TypeId):(W.alloc (.cells #[v0,v1,v2,v3,v4] t)).ownsRow W.heap.size t 5 (.slice (some ⟨W.heap.size,0,none⟩) 1 1) 1 [v0,v1,v2,v3,v4]:=
 ⟨rfl, .inr ⟨W.heap.size,1,_,rfl,Nat.le_refl _,World.alloc_heap_new W _,Nat.le_refl _,by simp only[maxLen];omega,rfl,rfl⟩⟩
theorem Cc {W:World}{n₀ g c:Nat}{S:List di}(h:W.ownsRow n₀ 183 5 (.slice (some ⟨g,0,none⟩) S.length c) S.length (fE S.reverse)){j:Nat}(hj:j<S.length):W.cell? ⟨g,(S.length-1-j)*5+2,none⟩=some (.int .i64 (S.getD j ⟨0,0,false⟩).wd):=by
 have key:∀(T:List di)(k:Nat),k<T.length->(fE T)[k*5+2]?=some (.int .i64 (T.getD k ⟨0,0,false⟩).wd):=by
  intro T
  induction T with
  |nil=>intro k hk;simp at hk
  |cons y T ih=>
   intro k hk
   rcases k with _|k
   · rfl
   · have e:fE (y::T)=[.int .i64 y.st, .int .i64 y.wd, .int .i64 y.wd, .bool y.cm, .bool false]++fE T:=rfl;rw[e,List.getElem?_append_right (by simp;omega)];have e2:(k+1)*5+2-[Value.int .i64 y.st, .int .i64 y.wd, .int .i64 y.wd, .bool y.cm, .bool false].length=k*5+2:=by{simp;omega};rw[e2,ih k (by simpa using hk)];rfl
 rw[h.cellAt _ (by omega),key _ _ (by simp;omega)]
 congr 2
 rw[ah,List.getElem?_reverse (by omega),ah]
 congr 4
 omega
theorem qN {W:World}{n₀ g c:Nat}{x:di}{S:List di}(h:W.ownsRow n₀ 183 5 (.slice (some ⟨g,0,none⟩) (S.length+1) c) (S.length+1) (fE (x::S).reverse)):W.ownsRow n₀ 183 5 (.slice (some ⟨g,0,none⟩) S.length c) S.length (fE S.reverse):=by have hc:=ES h S.length (by omega);have e:(fE (x::S).reverse).take (S.length*5)=fE S.reverse:=by{rw[List.reverse_cons,ky,List.take_left' (by rw[o5,List.length_reverse])]};rw[e]at hc;exact hc
theorem eQ (W:World)(v0 v1 v2 v3 v4:Value)(t:TypeId)(H:Nat)(hH:W.heap.size=H):∀j u,[v0,v1,v2,v3,v4][j]?=some u->(W.alloc (.cells #[v0,v1,v2,v3,v4] t)).cell? ((⟨H,0,none⟩:Addr).add j)=some u:=by
 subst hH
 intro j u hu
 match j,hu with
 |0,hu=>simp at hu;subst hu;simp[Addr.add]
 |1,hu=>simp at hu;subst hu;simp[Addr.add]
 |2,hu=>simp at hu;subst hu;simp[Addr.add]
 |3,hu=>simp at hu;subst hu;simp[Addr.add]
 |4,hu=>simp at hu;subst hu;simp[Addr.add]
theorem eU (x:di)(S:List di):fE (x::S).reverse=fE S.reverse++[.int .i64 x.st, .int .i64 x.wd, .int .i64 x.wd, .bool x.cm, .bool false]:=by rw[List.reverse_cons,ky];rfl
def fH:Code->Option Code
 | .loop c=>some c
 | .seq a b=>match fH a with
   |some c=>some c
   |none=>fH b
 | .block _ c=>fH c
 | .scope c=>fH c
 | .cond _ a b=>match fH a with
   |some c=>some c
   |none=>fH b
 |_=>none
theorem qR {f:Fn}(h:Md.tL f=true):(0<=f.a/\f.a<=3)/\(0<=f.l/\f.l<=3)/\0<=f.g/\f.g<=1:=by simp only[Md.tL,au]at h;exact⟨Wd.dh.1 h.1,Wd.dh.1 h.2.1,Wd.dh.1 h.2.2.1⟩
def rM (fs:List Fn)(fa fl fg:Int)(fb:List (Int×Int))(w w3 wr:World)(bl cO gO i g1 xB g2 c2:Nat)(h mo:Int)(x:di)(S':List di)(out:List Int):Prop:=
 ∀ (K K1:Act->World->Prop) (c0 c1 c3 c8 c10 c25 c26 c27 c28 c29 c30 c31 c32 c33 c34 c35 c36 c37 c38 c39 c40 c41 c42 c43 c44 c45 c46 c47 c48 PG PH PI PM PN PO PQ PR PT u4 u5 u6 u16 u17 u18 u19 u20 u21 u22 u23 u24 u49 u50 u51 u52 u53 u54 u55 u56 u57 u58 u59 u60 u61 u62 u63 u64 u65 u66 u67 u68 u69 u70 u71 u72 u73 u74 u75 u76 u77 u78 u79 u80 u81 u82 u83 u84 u85 u86 u87 u88 u89 u90 u91 u92 u93 u94 u95 u96 u97 u98 u99 WR WS WU WV WW u105 WX WY WZ W9 Xa Xb Xc Xd Xe Xf Xg Xh Xi u119 Xj Xk Xl Xm u124 Xn Xo u127 Xp Xq Xr u131 Xt Xu Xv Xw Xx Xy u138 u139 Xz XA XB XC XD XE XG XH XI XJ XK XL u152 XM u154 XN XO XP XQ XR XT XU u162 XV u164 XW XY XZ X5 X6 X7 X8 X9 Ya Yb Yc Yd Ye Yf Yg Yh Yi Yj Yk Yl Ym Yn Yo Yp Yq Yr Yt Yu u193 u194 Yv u196 Yw u198 Yx Yy u201 Yz YA YB YC u206 YD u208 YE u210 YF YG YH YI YJ YK YL YM YN YO YP YQ YR YS YT YU YV YW YX YY YZ Y3 Y4 u234 Y5 u236 Y6 Y7 Y8 Y9 Za Zb Zc Zd Ze Zf Zg Zh Zi Zj Zk Zl Zm Zn Zo Zp Zq Zr Zt Zu Zv Zw Zx Zy Zz ZA ZB ZC ZE ZF ZG ZH ZI ZJ ZK ZL ZM ZN ZO ZP ZQ ZR:Value),Hid (∀(h' fe:Int)(S2:List di)(g1' c1' g2' c2':Nat)(v4 v5 v6 v16 v17 v18 v19 v20 v21 v22 v23 v24 v49 v50 v51 v52 v53 v54 v55 v56 v57 v58 v59 v60 v61 v62 v63 v64 v65 v66 v67 v68 v69 v70 v71 v72 v73 v74 v75 v76 v77 v78 v79 v80 v81 v82 v83 v84 v85 v86 v87 v88 v89 v90 v91 v92 v93 v94 v95 v96 v97 v98 v99 PU PV PW PX PY v105 PZ v107 P5 v109 P6 P7 P8 P9 Qa Qb Qc v117 Qd Qe Qf Qg Qh Qi v124 Qj Qk v127 Ql Qm v130 v131 Qn Qo Qp Qq Qr Qs v138 v139 Qt v141 Qu v143 Qv v145 v146 Qw v148 Qx Qy Qz v152 QA v154 QB QC v157 QD v159 v160 QE v162 QF v164 QG QH v167 v168 QI QJ v171 QK v173 QL v175 QM QN QO QP QQ QR v182 v183 QT QU QV QW QX QY QZ Q0 Q3 v193 v194 Q4 v196 Q5 v198 Q6 Q7 v201 Q8 v203 Q9 Ra v206 Rb v208 Rc v210 Re v212 Rf Rh Ri Rj Rl v218 Rm Rn Ro v222 Rp Rq Rt v226 v227 v228 v229 Ru Rv v232 v233 v234 Rw v236 Rx Ry Rz RA RB RD RF RG RH RI RJ RL RN RO RP RS RU RV RX RY RZ R3 R4 R5 R6 R7 R8 R9 Sa Sb Sc Sd Sg Si Sj Sk Sl Sm Sn Sq Su Sv Sw Sy Sz SB:Value)(wF:World),HI fs ⟨fa,fl,fg,fb⟩ (aG.aR fb) w3 (i+1) h' fe S2 (out++[h]) g1' c1' g2' c2' wF->K ⟨#[c0,c1, .pointer (some ⟨w.heap.size,0,none⟩),c3,v4,v5,v6, .pointer (some ⟨w.heap.size+1,0,none⟩),c8, .slice (some ⟨gO,0,none⟩) bl cO,c10, .slice (some ⟨g1',0,none⟩) (i+1) c1',(.slice (some ⟨g2',0,none⟩) S2.length c2'), .int .i64 h', .int .i64 fe, .int .i64 ((i:Int)+1),v16,v17,v18,v19,v20,v21,v22,v23,v24,c25,c26,c27,c28,c29,c30,c31,c32,c33,c34,c35,c36,c37,c38,c39,c40,c41,c42,c43,c44,c45,c46,c47,c48,v49,v50,v51,v52,v53,v54,v55,v56,v57,v58,v59,v60,v61,v62,v63,v64,v65,v66,v67,v68,v69,v70,v71,v72,v73,v74,v75,v76,v77,v78,v79,v80,v81,v82,v83,v84,v85,v86,v87,v88,v89,v90,v91,v92,v93,v94,v95,v96,v97,v98,v99,PU,PV,PW,PX,PY,v105,PZ,v107,P5,v109,P6,P7,P8,P9,Qa,Qb,Qc,v117,Qd,Qe,Qf,Qg,Qh,Qi,v124,Qj,Qk,v127,Ql,Qm,v130,v131,Qn,Qo,Qp,Qq,Qr,Qs,v138,v139,Qt,v141,Qu,v143,Qv,v145,v146,Qw,v148,Qx,Qy,Qz,v152,QA,v154,QB,QC,v157,QD,v159,v160,QE,v162,QF,v164,QG,QH,v167,v168,QI,QJ,v171,QK,v173,QL,v175,QM,QN,QO,QP,QQ,QR,v182,v183,QT,QU,QV,QW,QX,QY,QZ,Q0,Q3,v193,v194,Q4,v196,Q5,v198,Q6,Q7,v201,Q8,v203,Q9,Ra,v206,Rb,v208,Rc,v210,Re,v212,Rf,Rh,Ri,Rj,Rl,v218,Rm,Rn,Ro,v222,Rp,Rq,Rt,v226,v227,v228,v229,Ru,Rv,v232,v233,v234,Rw,v236,Rx,Ry,Rz,RA,RB,RD,RF,RG,RH,RI,RJ,RL,RN,RO,RP,RS,RU,RV,RX,RY,RZ,R3,R4,R5,R6,R7,R8,R9,Sa,Sb,Sc,Sd,Sg,Si,Sj,Sk,Sl,Sm,Sn,Sq,Su,Sv,Sw,Sy,Sz,SB,PG,PH,PI,PM,PN,PO,PQ,PR,PT],[]⟩ wF)->
   Code.wp Tryz.prog ((Tryz.f101.body.bind fH).getD .skip) (Exit.then K (Exit.inBlock 0 (Exit.then K1 (bodyPost Tryz.prog Tryz.f101 (fun e w'=>∃v mo,e= .returned (.tuple #[v, .int .i64 mo, .bool (Hg.gN fs ⟨fa,fl,fg,fb⟩).isSome])/\(∀out m',Hg.gN fs ⟨fa,fl,fg,fb⟩=some (out,m')->OI w' w.heap.size v out/\mo=m')/\Below w.heap.size w w'))))) ⟨#[c0,c1, .pointer (some ⟨w.heap.size,0,none⟩),c3,u4,u5,u6, .pointer (some ⟨w.heap.size+1,0,none⟩),c8, .slice (some ⟨gO,0,none⟩) bl cO,c10, .slice (some ⟨g1,0,none⟩) i xB,(.slice (some ⟨g2,0,none⟩) (x::S').length c2), .int .i64 h, .int .i64 mo, .int .i64 (i:Int),u16,u17,u18,u19,u20,u21,u22,u23,u24,c25,c26,c27,c28,c29,c30,c31,c32,c33,c34,c35,c36,c37,c38,c39,c40,c41,c42,c43,c44,c45,c46,c47,c48,u49,u50,u51,u52,u53,u54,u55,u56,u57,u58,u59,u60,u61,u62,u63,u64,u65,u66,u67,u68,u69,u70,u71,u72,u73,u74,u75,u76,u77,u78,u79,u80,u81,u82,u83,u84,u85,u86,u87,u88,u89,u90,u91,u92,u93,u94,u95,u96,u97,u98,u99,WR,WS,WU,WV,WW,u105,WX,WY,WZ,W9,Xa,Xb,Xc,Xd,Xe,Xf,Xg,Xh,Xi,u119,Xj,Xk,Xl,Xm,u124,Xn,Xo,u127,Xp,Xq,Xr,u131,Xt,Xu,Xv,Xw,Xx,Xy,u138,u139,Xz,XA,XB,XC,XD,XE,XG,XH,XI,XJ,XK,XL,u152,XM,u154,XN,XO,XP,XQ,XR,XT,XU,u162,XV,u164,XW,XY,XZ,X5,X6,X7,X8,X9,Ya,Yb,Yc,Yd,Ye,Yf,Yg,Yh,Yi,Yj,Yk,Yl,Ym,Yn,Yo,Yp,Yq,Yr,Yt,Yu,u193,u194,Yv,u196,Yw,u198,Yx,Yy,u201,Yz,YA,YB,YC,u206,YD,u208,YE,u210,YF,YG,YH,YI,YJ,YK,YL,YM,YN,YO,YP,YQ,YR,YS,YT,YU,YV,YW,YX,YY,YZ,Y3,Y4,u234,Y5,u236,Y6,Y7,Y8,Y9,Za,Zb,Zc,Zd,Ze,Zf,Zg,Zh,Zi,Zj,Zk,Zl,Zm,Zn,Zo,Zp,Zq,Zr,Zt,Zu,Zv,Zw,Zx,Zy,Zz,ZA,ZB,ZC,ZE,ZF,ZG,ZH,ZI,ZJ,ZK,ZL,ZM,ZN,ZO,ZP,ZQ,ZR,PG,PH,PI,PM,PN,PO,PQ,PR,PT],[]⟩ wr
theorem aG.rZ {xs:List (Int×Int)}:∀(f k:Nat)(E O:List Int)(S:List Nat){Ef Of:List Int},go xs f k E O S=(Ef,Of,true)->S.length=dep xs k->∃i,i+1=xs.length/\op xs i=12/\dep xs i=0
 |0,k,E,O,S,Ef,Of,h,hd=>by simp[go]at h
 | f + 1,k,E,O,S,Ef,Of,h,hd=>by
   by_cases hk:xs.length<=k
   · rw[oG hk]at h;simp at h
   have hk:k<xs.length:=by omega
   rcases ho:St.opens (op xs k)with _|_
   · by_cases h11:op xs k=11
     · rcases S with _|⟨t,S'⟩
       · rw[jv hk ho h11]at h;simp at h
       · by_cases h2:op xs t=10/\O.getD t (-1)<0
         · rw[jf hk ho h11 h2]at h
           exact rZ f (k+1) _ _ _ h (by rw[gU ho (by omega)];exact hd)
         · rw[ib hk ho h11 h2]at h;simp at h
     · by_cases oN:op xs k=12
       · rcases S with _|⟨t,S'⟩
         · rw[lC hk ho h11 oN]at h
           simp only[Prod.mk.injEq,decide_eq_true_eq]at h
           exact⟨k,h.2.2,oN,by rw[←hd];rfl⟩
         · rw[jh hk ho h11 oN]at h
           exact rZ f (k+1) _ _ _ h (by rw[qf oN,←hd];simp)
       · rw[jy hk ho h11 oN]at h
         exact rZ f (k+1) _ _ _ h (by rw[gU ho oN];exact hd)
   · rw[jd hk ho]at h
     exact rZ f (k+1) _ _ _ h (by rw[lD ho];simp[hd])
theorem aG.Bz {xs:List (Int×Int)}(h:isOk xs=true):∃i,i+1=xs.length/\op xs i=12/\dep xs i=0:=by have h2:(all xs).2.2=true:=by{rw[isOk,au]at h;exact h.2};exact rZ (xs.length+1) 0 _ _ [] (Ef:=(all xs).1) (Of:=(all xs).2.1) (by show all xs=_;rw[←h2]) rfl
namespace Hg
theorem dZ {a b:Int}(h:b<=a):mx a b=a:=by unfold mx;rw[ax (by omega)]
theorem EO {f:Fn}{p a h mo h' fe:Int}{x:di}{S S':List di}(h0:0<=mo)(hp:p=13\/p=15\/p=19\/p=11\/p=12->h<=mo)(h1:dU f p a h (mx mo h) x S=some (h',fe,S')):fe=mx mo h':=by unfold dU at h1;split at h1;{simp only[af,Prod.mk.injEq]at h1;obtain⟨rfl,rfl,rfl⟩:=h1;rfl};split at h1;{rename_i hpp;split at h1;{cases h1};simp only[af,Prod.mk.injEq]at h1;obtain⟨rfl,rfl,rfl⟩:=h1;split;{rename_i e;rw[dZ (hp (.inl e)),dZ (by omega)]};rfl};split at h1;{rename_i e;split at h1;{cases h1};simp only[af,Prod.mk.injEq]at h1;obtain⟨rfl,rfl,rfl⟩:=h1;rw[dZ (hp (by omega)),dZ (by omega)]};split at h1;{rename_i e;simp only[af,Prod.mk.injEq]at h1;obtain⟨rfl,rfl,rfl⟩:=h1;rw[dZ (hp (by omega)),dZ (by omega)]};split at h1;{rename_i e;split at h1;{cases h1};simp only[af,Prod.mk.injEq]at h1;obtain⟨rfl,rfl,rfl⟩:=h1;rw[dZ (hp (by omega))]};split at h1;{rename_i e;split at h1;{cases h1};simp only[af,Prod.mk.injEq]at h1;obtain⟨rfl,rfl,rfl⟩:=h1;rw[dZ (hp (by omega))]};simp only[af,Prod.mk.injEq]at h1;obtain⟨rfl,rfl,rfl⟩:=h1;rfl
theorem ry {fs:List Fn}{p a:Int}(h:p=13\/p=15\/p=19\/p=11\/p=12):tk fs p a=0/\pt fs p a=0:=by rcases h with rfl|rfl|rfl|rfl|rfl<;>exact⟨by simp[tk],by simp[pt]⟩
theorem EU {fs:List Fn}{f:Fn}{o p a h mo h' fe:Int}{S S':List di}(h0:0<=mo)(hm:h<=mo)(h1:one fs f o p a h mo S=some (h',fe,S')):fe=mx mo h':=by unfold one at h1;split at h1;{cases h1};split at h1;{cases h1};split at h1;{split at h1;{cases h1};refine EO h0 (fun e=>?_) h1;have:=ry (fs:=fs) (a:=a) e;rw[this.1,this.2];omega};rw[←dZ hm]at h1;exact EO h0 (fun _=>hm) h1
end Hg
end Go.Proofs.YthamlonlgnjljaaGreat
