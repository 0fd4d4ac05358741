/-
  Own texts for a law: SlOf LikeI Arr0 Mem1 Lin3 Ms0 Fs1 BoxL Hs3 Ms1 MpP Mod1
-/
import Derived.Test.YthamlonlgnjljabNB04
import Derived.OpenShut
import Derived.Deep.SlicePairs
import Derived.Deep.WholeRow
import Derived.Stop.BytesEq
import Derived.Laws.CopyOwn
import Derived.Laws.ResultCell
import Derived.Deep.RegionLaw
import Derived.Deep.LoopGhost
namespace Go.Proofs.Ythamlonlgnjljab
open Go.RowKit Go.Shelf
set_option linter.all false
set_option maxRecDepth 100000
set_option maxHeartbeats 16000000
section
open Go.ChangeShapes Go.WideShapes Go.ChangeAt Go.RowKit Go.Shelf Go.Deep
theorem OI.il {W:World}{n₀:Nat}{a:Option Addr}{n c:Nat}{xs:List Int}(h:OI W n₀ (.slice a n c) xs):n=xs.length/\IL W a n xs:=by obtain⟨a',c',e,hil⟩:=h.slice;simp only[Value.slice.injEq]at e;obtain⟨rfl,rfl,rfl⟩:=e;exact⟨rfl,hil⟩
end
theorem IL.ax {w:World}{a:Option Addr}{n:Nat}{E:List Int}(h:IL w a n E)(hn:0<n):∃b off,a=some ⟨b,off,none⟩/\∀(wx:World),Below w.heap.size w wx->∀j,j<n->wx.cell? ⟨b,off+j,none⟩=some (.int .i64 (av.ax E j)):=by obtain⟨hl,-,h0|⟨b,off,rfl,hb,hx⟩⟩:=h;{omega};refine⟨b,off,rfl,fun wx hB j hj=>?_⟩;have e:av.ax E j=E.getD j 0:=by{unfold av.ax;rw[af,af,ag (by omega)];rfl};rw[e];exact(hB.cell (p:=⟨b,off+j,none⟩) hb).trans (hx j hj)
theorem cu (W:World)(n:Nat):Below W.heap.size W (W.drewN n):=⟨rfl,rfl,rfl,Nat.le_refl _,fun _ _=>rfl⟩
def dS (W:World)(g:Nat)(t:TypeId)(vs:List Value):Prop:=W.heap[g]?=some (.cells vs.toArray t (0,0))
theorem dS.lt {W:World}{g:Nat}{t:TypeId}{vs:List Value}(h:dS W g t vs):g<W.heap.size:=(Array.getElem?_eq_some_iff.1 h).1
theorem dS.cell {W:World}{g:Nat}{t:TypeId}{vs:List Value}(h:dS W g t vs){j:Nat}{v:Value}(hj:vs[j]?=some v):W.cell? ⟨g,j,none⟩=some v:=by rw[cell_of_row W g j _ t _ h];simpa using hj
theorem dS.frozen {W:World}{g:Nat}{t:TypeId}{vs:List Value}(h:dS W g t vs)(j:Nat):W.frozen? ⟨g,j,none⟩=false:=frozen_of_row W g j _ t h
theorem dS.kept {W W':World}{g:Nat}{t:TypeId}{vs:List Value}(h:dS W g t vs)(hB:Below W.heap.size W W'):dS W' g t vs:=(hB.block g h.lt).trans h
theorem dS.cB {W W':World}{g:Nat}{t:TypeId}{vs:List Value}{row:Option Nat}(h:dS W g t vs)(hg:W.grownBy W' row)(hne:some g≠row):dS W' g t vs:=(hg.block g h.lt hne).trans h
theorem dS.set {W:World}{g:Nat}{t:TypeId}{vs:List Value}(h:dS W g t vs)(j:Nat)(v:Value):dS (W.setCell ⟨g,j,none⟩ v) g t (vs.set j v):=by have:=heap_setCell_same W g j vs.toArray t v h;unfold dS;rw[this];simp
theorem dS.row {W:World}{g:Nat}{t:TypeId}{vs:List Value}(h:dS W g t vs)(ws:List Value):dS (W.setRow g ws.toArray) g t ws:=setRow_heap W g _ _ t _ h
theorem aR {w w1 w2:World}{r:Nat}(h:Below w.heap.size w w1)(hg:w1.grownBy w2 (some r))(hr:w.heap.size<=r):Below w.heap.size w w2:=
 ⟨hg.os.trans h.os,hg.tape.trans h.tape,hg.output.trans h.output,Nat.le_trans h.size hg.size,fun k hk=>(hg.block k (ah hk h.size) (by simp only[ne_eq,ae];omega)).trans (h.block k hk)⟩
section
variable {P : Program}
variable {C : World → Prop}
end
theorem jS {bs:List Int}:∀v∈bs.map iv,v.oneCell'=true:=by intro v hv;obtain⟨b,_,rfl⟩:=List.mem_map.1 hv;rfl
theorem eU {f:Int->Value}{bs:List Int}{k:Nat}(h:k<bs.length):(bs.map f)[k]?=some (f (bs.getD k 0)):=by rw[List.getElem?_map,ag h,af,ag h];rfl
theorem jv {n:Nat}{ys:List Int}{f:Nat->Int}{k:Nat}{p:Int}(h:ys.length=n/\∀j,j<k->ys.getD j 0=f j)(hk:k<n)(hp:f k=p):(ys.set k p).length=n/\∀j,j<k+1->(ys.set k p).getD j 0=f j:=by refine⟨by rw[List.length_set];exact h.1,fun j hj=>?_⟩;by_cases e:j=k;{subst e;rw[af,List.getElem?_set_self (by omega),hp];rfl};rw[←h.2 j (by omega),af,List.getElem?_set_ne (by omega),←af]
theorem jO {n:Nat}{ys bs:List Int}(h:ys.length=n/\∀j,j<n->ys.getD j 0=bs.getD j 0)(hb:bs.length=n):ys=bs:=by apply List.ext_getElem;{rw[h.1,hb]};intro j h1 h2;have:=h.2 j (by omega);simpa[af,ag h1,ag h2]using this
def OG (W:World)(n₀ g n c:Nat)(xs:List Int):Prop:=xs.length=n/\W.ownsRow n₀ 2 1 (.slice (some ⟨g,0,none⟩) n c) n (xs.map iv)
theorem OG.oi {W:World}{n₀ g n c:Nat}{xs:List Int}(h:OG W n₀ g n c xs):OI W n₀ (.slice (some ⟨g,0,none⟩) n c) xs:=by unfold OI;rw[h.1];exact h.2
theorem OG.lt {W:World}{n₀ g n c:Nat}{xs:List Int}(h:OG W n₀ g n c xs):n₀<=g/\g<W.heap.size:=World.ownsRow.lt h.2 g rfl
theorem OG.cap {W:World}{n₀ g n c:Nat}{xs:List Int}(h:OG W n₀ g n c xs):n<=c/\c<=maxLen:=by rcases h.2.2 with⟨e,-⟩|⟨g',cap,cur,e,hb,hc,hn,hm,-⟩;{cases e};cases e;exact⟨hn,hm⟩
theorem OG.cell {W:World}{n₀ g n c:Nat}{xs:List Int}(h:OG W n₀ g n c xs){j:Nat}(hj:j<n):W.cell? ⟨g,j,none⟩=some (.int .i64 (xs.getD j 0)):=by have hi:=(OI.il h.oi).2;obtain⟨-,-,h0|⟨b,o,e,hb,hx⟩⟩:=hi;{omega};simp only[ae,Addr.mk.injEq,and_true]at e;obtain⟨rfl,rfl⟩:=e;have:=hx j hj;rwa [Nat.zero_add]at this
theorem OG.kept {W W':World}{n₀ g n c:Nat}{xs:List Int}(h:OG W n₀ g n c xs)(hB:Below W.heap.size W W'):OG W' n₀ g n c xs:=⟨h.1,aD h.2 hB⟩
theorem OG.cB {W W':World}{n₀ g n c b:Nat}{xs:List Int}(h:OG W n₀ g n c xs)(hg:W.grownBy W' (some b))(hne:g≠b):OG W' n₀ g n c xs:=by refine⟨h.1,World.ownsRow.kept h.2 hg (.inr ?_)⟩;simp only[Value.ownBlock,ne_eq,ae];omega
theorem OG.mono {W:World}{n₀ n₁ g n c:Nat}{xs:List Int}(h:OG W n₁ g n c xs)(hn:n₀<=n₁):OG W n₀ g n c xs:=by have:=OI.mono h.oi hn;unfold OI at this;rw[h.1]at this;exact⟨h.1,this⟩
theorem OG.empty (W:World)(n₀:Nat)(hn:n₀<=W.heap.size):OG (W.alloc (.cells #[] 2)) n₀ W.heap.size 0 0 []:=⟨rfl,by simpa[OI]using OI.mono (OI.empty W) hn⟩
theorem OG.one (W:World)(n₀:Nat)(hn:n₀<=W.heap.size)(y:Int):OG (W.alloc (.cells #[.int .i64 y] 2)) n₀ W.heap.size 1 1 [y]:=
 ⟨rfl,rfl, .inr ⟨W.heap.size,1,#[.int .i64 y],rfl,hn,World.alloc_heap_new W _,Nat.le_refl _,by simp[maxLen],rfl,rfl⟩⟩
def gI (l:List Mv.M):List Value:=l.flatMap fun m=>[.int .i64 m.t, .int .i64 m.f]
theorem ja (m:Mv.M)(l:List Mv.M):gI (m::l)= .int .i64 m.t:: .int .i64 m.f::gI l:=rfl
theorem fI:∀(l:List Mv.M)(j:Nat),j<l.length->(gI l)[j*2]?=some (.int .i64 (l.getD j .z).t)/\(gI l)[j*2+1]?=some (.int .i64 (l.getD j .z).f)
 |[],j,h=>by simp at h
 |s::l,0,h=>⟨rfl,rfl⟩
 | s::l,j+1,h=>by
   have ih:=fI l j (by simpa using h)
   have e:(s::l).getD (j+1) .z=l.getD j .z:=rfl
   rw[e,ja]
   refine⟨?_,?_⟩
   · rw[show(j+1)*2=j*2+1+1 by omega];simp only[List.getElem?_cons_succ];exact ih.1
   · rw[show(j+1)*2+1=j*2+1+1+1 by omega];simp only[List.getElem?_cons_succ];exact ih.2
def ML (W:World)(a:Option Addr)(len:Nat)(l:List Mv.M):Prop:=
 l.length=len/\len<=maxLen/\(len=0\/∃b off,a=some ⟨b,off,none⟩/\b<W.heap.size/\∀j,j<len->W.cell? ⟨b,off+j*2,none⟩=some (.int .i64 (l.getD j .z).t)/\W.cell? ⟨b,off+j*2+1,none⟩=some (.int .i64 (l.getD j .z).f))
theorem ML.kept {W W':World}{a:Option Addr}{len:Nat}{l:List Mv.M}(h:ML W a len l)(hB:Below W.heap.size W W'):ML W' a len l:=by obtain⟨h1,h2,h3|⟨b,off,rfl,hb,hx⟩⟩:=h;{exact⟨h1,h2, .inl h3⟩};exact⟨h1,h2, .inr ⟨b,off,rfl,ah hb hB.size,fun j hj=>⟨(hB.cell (p:=⟨b,off+j*2,none⟩) hb).trans (hx j hj).1,(hB.cell (p:=⟨b,off+j*2+1,none⟩) hb).trans (hx j hj).2⟩⟩⟩
def MG (W:World)(n₀ g n c:Nat)(l:List Mv.M):Prop:=l.length=n/\W.ownsRow n₀ 36 2 (.slice (some ⟨g,0,none⟩) n c) n (gI l)
theorem MG.lt {W:World}{n₀ g n c:Nat}{l:List Mv.M}(h:MG W n₀ g n c l):n₀<=g/\g<W.heap.size:=World.ownsRow.lt h.2 g rfl
theorem MG.cap {W:World}{n₀ g n c:Nat}{l:List Mv.M}(h:MG W n₀ g n c l):n<=c/\c<=maxLen:=by rcases h.2.2 with⟨e,-⟩|⟨g',cap,cur,e,hb,hc,hn,hm,-⟩;{cases e};cases e;exact⟨hn,hm⟩
theorem MG.at {W:World}{n₀ g n c:Nat}{l:List Mv.M}(h:MG W n₀ g n c l){j:Nat}{u:Value}(hu:(gI l)[j]?=some u):W.cell? ⟨g,j,none⟩=some u:=by have hc:=World.ownsRow.cells h.2 (g:=g) rfl;(have hadd:(⟨g,0,none⟩:Addr).add j=⟨g,j,none⟩:=by unfold Addr.add;split<;>simp_all);rw[←hadd];exact hc _ _ hu
theorem MG.cell {W:World}{n₀ g n c:Nat}{l:List Mv.M}(h:MG W n₀ g n c l){j:Nat}(hj:j<n):W.cell? ⟨g,j*2,none⟩=some (.int .i64 (l.getD j .z).t)/\W.cell? ⟨g,j*2+1,none⟩=some (.int .i64 (l.getD j .z).f):=by obtain⟨h0,h1⟩:=fI l j (by rw[h.1];exact hj);exact⟨h.at h0,h.at h1⟩
theorem MG.ml {W:World}{n₀ g n c:Nat}{l:List Mv.M}(h:MG W n₀ g n c l):ML W (some ⟨g,0,none⟩) n l:=
 ⟨h.1,Nat.le_trans h.cap.1 h.cap.2, .inr ⟨g,0,rfl,h.lt.2,fun j hj=>by rw[Nat.zero_add];exact h.cell hj⟩⟩
theorem MG.frozen {W:World}{n₀ g n c:Nat}{l:List Mv.M}(h:MG W n₀ g n c l)(j:Nat):W.frozen? ⟨g,j,none⟩=false:=World.ownsRow.frozenAt h.2 j
theorem MG.kept {W W':World}{n₀ g n c:Nat}{l:List Mv.M}(h:MG W n₀ g n c l)(hB:Below W.heap.size W W'):MG W' n₀ g n c l:=⟨h.1,aD h.2 hB⟩
theorem MG.cB {W W':World}{n₀ g n c b:Nat}{l:List Mv.M}(h:MG W n₀ g n c l)(hg:W.grownBy W' (some b))(hne:g≠b):MG W' n₀ g n c l:=by refine⟨h.1,World.ownsRow.kept h.2 hg (.inr ?_)⟩;simp only[Value.ownBlock,ne_eq,ae];omega
theorem MG.mono {W:World}{n₀ n₁ g n c:Nat}{l:List Mv.M}(h:MG W n₁ g n c l)(hn:n₀<=n₁):MG W n₀ g n c l:=by refine⟨h.1,h.2.1,?_⟩;rcases h.2.2 with⟨e,-⟩|⟨g',cap,cur,e,hb,r⟩;{cases e};exact .inr ⟨g',cap,cur,e,by omega,r⟩
theorem MG.empty (W:World)(n₀:Nat)(hn:n₀<=W.heap.size):MG (W.alloc (.cells #[] 36)) n₀ W.heap.size 0 0 []:=
 ⟨rfl,rfl, .inr ⟨W.heap.size,0,#[],rfl,hn,World.alloc_heap_new W _,Nat.le_refl _,by simp[maxLen],rfl,rfl⟩⟩
theorem MG.one (W:World)(n₀:Nat)(hn:n₀<=W.heap.size)(t f:Int):MG (W.alloc (.cells #[.int .i64 t, .int .i64 f] 36)) n₀ W.heap.size 1 1 [⟨t,f⟩]:=
 ⟨rfl,rfl, .inr ⟨W.heap.size,1,#[.int .i64 t, .int .i64 f],rfl,hn,World.alloc_heap_new W _,Nat.le_refl _,by simp[maxLen],rfl,rfl⟩⟩
theorem LL.at {w:World}{a:Option Addr}{len:Nat}{ls:List Ln}(h:LL w a len ls){p:Nat}(hp:p<len):∃b off,a=some ⟨b,off,none⟩/\b<w.heap.size/\LC w b (off+p*6) (ls.getD p .z):=by obtain⟨-,-,h0|⟨b,off,rfl,hb,hx⟩⟩:=h;{omega};exact⟨b,off,rfl,hb,hx p hp⟩
def bQ (W:World)(b:Nat)(vs:List Value):Prop:=b<W.heap.size/\∀i x,vs[i]?=some x->W.cell? ⟨b,i,none⟩=some x/\W.frozen? ⟨b,i,none⟩=false
theorem bQ.cB {W W':World}{b:Nat}{row:Option Nat}{vs:List Value}(h:bQ W b vs)(hg:W.grownBy W' row)(hne:row≠some b):bQ W' b vs:=by have hb:=hg.block b h.1 (fun e=>hne e.symm);refine⟨ah h.1 hg.size,fun i x hx=>?_⟩;obtain⟨h1,h2⟩:=h.2 i x hx;exact⟨(World.cell?_of_block hb).trans h1,by unfold World.frozen?;rw[hb];exact h2⟩
theorem bQ.kept {W W':World}{b:Nat}{vs:List Value}(h:bQ W b vs)(hB:Below W.heap.size W W'):bQ W' b vs:=h.cB (row:=none) ⟨hB.os,hB.tape,hB.output,hB.size,fun k hk _=>hB.block k hk⟩ (by simp)
theorem bQ.new (W:World)(vs:List Value)(t:TypeId):bQ (W.alloc (.cells vs.toArray t)) W.heap.size vs:=by refine⟨by simp,fun i x hx=>⟨?_,by simp⟩⟩;rw[World.cell?_alloc_at _ _ _ _ rfl];simpa using hx
theorem bQ.set {W:World}{b:Nat}{vs:List Value}(h:bQ W b vs)(i:Nat)(x:Value):bQ (W.setCell ⟨b,i,none⟩ x) b (vs.set i x):=by refine⟨by simpa[World.setCell]using h.1,fun j y hy=>?_⟩;by_cases e:i=j;{subst e;have hi:i<vs.length:=by{rcases Nat.lt_or_ge i vs.length with h'|h';{exact h'};rw[List.getElem?_eq_none (by simpa using h')]at hy;cases hy};rw[List.getElem?_set_self hi]at hy;cases hy;obtain⟨h1,h2⟩:=h.2 i vs[i] (ag hi);exact⟨World.cell?_setCell_same _ _ _ h1,by simpa using h2⟩};rw[List.getElem?_set_ne e]at hy;obtain⟨h1,h2⟩:=h.2 j y hy;exact⟨(World.cell?_setCell_other _ _ _ _ (fun q=>e (by cases q;rfl))).trans h1,by simpa using h2⟩
namespace Hm
theorem dI (f:Nat->Bool)(n:Nat):(List.range (n+1)).all f=((List.range n).all f&&f n):=by rw[List.range_succ,List.all_append];simp
theorem dA {f:Nat->Bool}{n i:Nat}(hi:i<n)(h:f i=false):(List.range n).all f=false:=by rw[List.all_eq_false];exact⟨i,List.mem_range.2 hi,by rw[h];decide⟩
end Hm
theorem eu (x:Int)(w:World):Calls Try.prog 22 #[.int .i64 x] w fun e w'=>e= .returned (.bool (Hm.hm x))/\w'=w:=by have HM:Hid (Hm.hm x=(decide (x=-1)||(Wd.aS x 0 4||Wd.aS x 100 163))):=rfl;obtain⟨p,hp⟩:∃p,Wd.aS x 0 4=p:=⟨_,rfl⟩;obtain⟨q,hq⟩:∃q,Wd.aS x 100 163=q:=⟨_,rfl⟩;rw[hp,hq]at HM;generalize Hm.hm x=r at HM ⊢;by_cases hx:x=-1;{have HR:r=true:=by{rw[HM.out,decide_eq_true hx];rfl};subst hx;rw[HR];clear HM HR hp hq;go_enter Try.func22,Try.ntmps22;go_wp2;go_ret;exact⟨rfl,rfl⟩};have HR:r=(p||q):=by{rw[HM.out,decide_eq_false hx];rfl};rw[HR];have uF:(x==-1)=false:=by{simpa using hx};clear HM HR hx;cases p;{show Calls _ _ _ _ fun e w'=>e= .returned (.bool q)/\w'=w;go_enter Try.func22,Try.ntmps22;go_wp2_with(go_at_call 26;refine(ed _ _ _ _).mono ?_;rintro e w' ⟨rfl,rfl⟩;dsimp only;(first|rw[hp]|rw[hq]));go_ret;exact⟨rfl,rfl⟩};show Calls _ _ _ _ fun e w'=>e= .returned (.bool true)/\w'=w;go_enter Try.func22,Try.ntmps22;go_wp2_with(go_at_call 26;refine(ed _ _ _ _).mono ?_;rintro e w' ⟨rfl,rfl⟩;dsimp only;rw[hp]);go_ret;exact⟨rfl,rfl⟩
namespace Mv
theorem iy (l:List M)(i:Nat):aQ l i=((place (l.getD i .z).t&&place (l.getD i .z).f)&&(List.range i).all fun k=> !decide ((l.getD k .z).t=(l.getD i .z).t)):=rfl
end Mv
theorem bF (x:Int)(w:World):Calls Try.prog 19 #[.int .i64 x] w fun e w'=>e= .returned (.bool (Mv.place x))/\w'=w:=by obtain⟨p,hp⟩:∃p,Hm.hm x=p:=⟨_,rfl⟩;have HM:Mv.place x=(p&&decide (x≠-1)):=by{rw[←hp];rfl};rw[HM];have hcon:=eu x w;rw[hp]at hcon;clear HM hp;cases p;{show Calls _ _ _ _ fun e w'=>e= .returned (.bool false)/\w'=w;go_enter Try.func19,Try.ntmps19;go_wp2_with(go_at_call 22;refine hcon.mono ?_;rintro e w' ⟨rfl,rfl⟩;dsimp only);go_ret;exact⟨rfl,rfl⟩};obtain⟨q,hq⟩:∃q,decide (x≠-1)=q:=⟨_,rfl⟩;(have hq2:(x !=-1)=q:=by rw[←hq];by_cases h:x=-1<;>simp[h]);rw[hq];show Calls _ _ _ _ fun e w'=>e= .returned (.bool q)/\w'=w;clear hq;go_enter Try.func19,Try.ntmps19;go_wp2_with(go_at_call 22;refine hcon.mono ?_;rintro e w' ⟨rfl,rfl⟩;dsimp only);go_ret;exact⟨rfl,rfl⟩
theorem eF (a:Option Addr)(len cap:Nat)(l:List Mv.M)(w:World)(hs:ML w a len l):Calls Try.prog 14 #[.slice a len cap] w fun e w'=>e= .returned (.bool (Mv.isOk l))/\Below w.heap.size w w':=by have hln:=hs.1;have hmx:=hs.2.1;unfold maxLen at hmx;have HR:Hid (Mv.isOk l=((List.range len).all (fun i=>Mv.aQ l i)&&decide (len<=8))):=by{show _=_;rw[←hln];rfl};generalize Mv.isOk l=R at HR ⊢;have HS:=aa hs;clear hs hln;go_enter Try.func14,Try.ntmps14;go_wp2;go_loopg [3] len (fun gk vi wr=>∃(i:Nat),gk=len-i/\i<=len/\vi= .int .i64 (i:Int)/\Hid ((List.range i).all (fun i=>Mv.aQ l i)=true)/\Below w.heap.size w wr);(case atStart=>exact⟨0,rfl,by omega,rfl,(by show _=_;rfl),Below.refl _ _⟩);case round=>obtain⟨i,rR,hi,rfl,bT,hB⟩:=hrel;obtain⟨w0,rfl⟩:∃x,x=wr:=⟨_,rfl⟩;by_cases hlt:i<len;rotate_left;{have hie:i=len:=by{omega};subst hie;have HT:Hid (R=decide (i<=8)):=by{show _=_;rw[HR.out,bT.out];rfl};have HB:=aa hB;have j4:¬(i:Int)<(i:Int):=by{omega};by_cases h8:i<=8;{have qL:(i:Int)<=8:=by{omega};have HF:Hid (R=true):=by{show _=_;rw[HT.out];exact decide_eq_true h8};clear HT hB bT HR;go_wp2;go_ret;exact⟨by rw[HF.out]<;>rfl,HB.out⟩};have qL:¬(i:Int)<=8:=by{omega};have HF:Hid (R=false):=by{show _=_;rw[HT.out];exact decide_eq_false h8};clear HT hB bT HR;go_wp2;go_ret;exact⟨by rw[HF.out]<;>rfl,HB.out⟩};have j4:(i:Int)<(len:Int):=by{omega};obtain⟨-,-,h0|⟨b,off,rfl,hlb,hcc⟩⟩:=HS.out.kept hB;{omega};have tL:=aa hcc;obtain⟨c0,c1⟩:=hcc i hlt;have lq:=aa (Hm.dI (fun i=>Mv.aQ l i) i);have jf:Hid (Mv.aQ l i=false->R=false):=fun h=>by{rw[HR.out,Hm.dA (f:=fun i=>Mv.aQ l i) hlt h];rfl};have j5:=aa (Mv.iy l i);obtain⟨t,ht⟩:∃t,(l.getD i .z).t=t:=⟨_,rfl⟩;obtain⟨f,hf⟩:∃f,(l.getD i .z).f=f:=⟨_,rfl⟩;rw[ht]at c0;rw[hf]at c1;rw[ht,hf]at j5;have hp1:=fun W=>bF t W;have hp2:=fun W=>bF f W;obtain⟨p,hp⟩:∃p,Mv.place t=p:=⟨_,rfl⟩;obtain⟨q,hq⟩:∃q,Mv.place f=q:=⟨_,rfl⟩;simp only[hp]at hp1;simp only[hq]at hp2;rw[hp,hq]at j5;have HB:=aa hB;clear hp hq hf hcc hB;cases p;{have HF:=aa (jf.out (by rw[j5.out];rfl));clear lq jf j5 bT HR ht;go_wp2_with(go_at_call 19;refine(hp1 _).mono ?_;rintro e w' ⟨rfl,rfl⟩;dsimp only);go_ret;exact⟨by rw[HF.out]<;>rfl,HB.out⟩};cases q;{have HF:=aa (jf.out (by rw[j5.out];rfl));clear lq jf j5 bT HR ht;go_wp2_with fail;refine(hp1 _).mono ?_;rintro e w' ⟨rfl,rfl⟩;dsimp only;go_wp2_with fail;refine(hp2 _).mono ?_;rintro e w' ⟨rfl,rfl⟩;dsimp only;go_wp2;go_ret;exact⟨by rw[HF.out]<;>rfl,HB.out⟩};have dU:Hid (Mv.aQ l i=(List.range i).all fun k=> !decide ((l.getD k .z).t=t)):=by{show _=_;rw[j5.out];rfl};clear j5;go_wp2_with fail;refine(hp1 _).mono ?_;rintro e w' ⟨rfl,rfl⟩;dsimp only;go_wp2_with fail;refine(hp2 _).mono ?_;rintro e w' ⟨rfl,rfl⟩;dsimp only;clear hp1 hp2 c1;go_wp2;go_loopg [4] i (fun gj vk wx=>∃(k:Nat),gj=i-k/\k<=i/\vk= .int .i64 (k:Int)/\Hid (((List.range k).all fun k=> !decide ((l.getD k .z).t=t))=true)/\Below w'.heap.size w' wx);(case atStart=>exact⟨0,rfl,by omega,rfl,(by show _=_;rfl),Below.refl _ _⟩);case round=>obtain⟨k,hgj,hk,rfl,pz,hB2⟩:=hrel;obtain⟨w1,rfl⟩:∃x,x=wr:=⟨_,rfl⟩;have HB2:=aa (HB.out.trans (hB2.mono HB.out.size));have rT:=aa hB2;by_cases hki:k<i;rotate_left;{have hke:k=i:=by{omega};have HT:Hid ((List.range (i+1)).all (fun i=>Mv.aQ l i)=true):=by{show _=_;rw[lq.out,bT.out,dU.out];have:=pz.out;rw[hke]at this;rw[this];rfl};have qM:¬(k:Int)<(i:Int):=by{omega};clear hB2 hke pz;go_wp2;go_roundg (len-(i+1));(case measure=>omega);case rel=>exact⟨i+1,rfl,hlt,by simp,HT,HB2.out⟩};have qM:(k:Int)<(i:Int):=by{omega};have hkl:k<len:=by{omega};have hbl:=ah hlb hB2.size;have d0:=(hB2.cell (p:=⟨b,off+k*2,none⟩) hlb).trans (tL.out k hkl).1;have d1:=(hB2.cell (p:=⟨b,off+i*2,none⟩) hlb).trans c0;have qi:=aa (Hm.dI (fun k=> !decide ((l.getD k .z).t=t)) k);have qj:Hid ((!decide ((l.getD k .z).t=t))=false->R=false):=fun h=>jf.out (by rw[dU.out,Hm.dA (f:=fun k=> !decide ((l.getD k .z).t=t)) hki h]);generalize(l.getD k .z).t=u at d0 qi qj;clear hB2;by_cases hut:u=t;{have hq:(u==t)=true:=by{simpa using hut};have HF:=aa (qj.out (by rw[decide_eq_true hut];rfl));clear hut qi qj jf lq bT pz dU HR ht;go_wp2_with fail;go_quiet (fail);have HB3:=aa (HB2.out.trans ((cu w1 nq).mono HB2.out.size));go_wp2;go_ret;exact⟨by rw[HF.out]<;>rfl,HB3.out⟩};have hq:(u==t)=false:=by{simpa using hut};have HT:Hid (((List.range (k+1)).all fun k=> !decide ((l.getD k .z).t=t))=true):=by{show _=_;rw[qi.out,pz.out,decide_eq_false hut];rfl};clear hut qi qj pz;go_wp2_with fail;go_quiet (fail);have HB3:=aa (rT.out.trans ((cu w1 nq).mono rT.out.size));go_wp2;go_roundg (i-(k+1));(case measure=>omega);case rel=>exact⟨k+1,rfl,hki,by simp,HT,HB3.out⟩
section
open Go.RowKit
set_option linter.unusedSimpArgs false
namespace Mv
def FI (q:M->Bool)(l:List M)(r:Int):Prop:=(∃i:Nat,i<l.length/\r=(i:Int)/\q (l.getD i .z)=true/\∀k,k<i->q (l.getD k .z)=false)\/(r=-1/\∀k,k<l.length->q (l.getD k .z)=false)
def wT (h:Int)(m:M):Bool:=decide (m.t=h)
theorem FI.any {q:M->Bool}{l:List M}{r:Int}(h:FI q l r):decide (0<=r)=l.any q:=by rcases h with⟨i,hi,rfl,hq,-⟩|⟨rfl,hq⟩;{have:l.any q=true:=List.any_eq_true.2 ⟨l[i],List.getElem_mem hi,by rw[←bq hi];exact hq⟩;rw[this];simp};have:l.any q=false:=by{rw[List.any_eq_false];intro x hx;obtain⟨k,hk,rfl⟩:=List.getElem_of_mem hx;rw[←bq hk,hq k hk];simp};rw[this];rfl
theorem iW {q:M->Bool}{l:List M}{i:Nat}(h:∀k,k<i->q (l.getD k .z)=false)(hi:q (l.getD i .z)=false):∀k,k<i+1->q (l.getD k .z)=false:=fun k hk=>by
 by_cases e:k=i
 · rw[e];exact hi
 · exact h k (by omega)
end Mv
end
structure Fn where
 a:Int
 l:Int
 g:Int
 b:List (Int×Int)
namespace Fn
def z:Fn:=⟨0,0,0,[]⟩
end Fn
namespace Md
def om (f:Fn):Bool:=Wd.aS f.a 0 3&&(Wd.aS f.l 0 3&&(Wd.aS f.g 0 1&&(decide (f.b.length<=80)&&St.aT f.b)))
def aT (fs:List Fn):Bool:=fs.all om
def ok (fs:List Fn)(d:ByteArray):Bool:=(Wd.aS fs.length 1 4&&decide (d.size<=64))&&aT fs
def sum:List Fn->Nat
 |[]=>0
 |f::fs=>f.b.length+sum fs
theorem aK {fs:List Fn}(h:aT fs=true){j:Nat}(hj:j<fs.length):om (fs.getD j .z)=true:=by rw[af,ag hj];simp only[aT,List.all_eq_true]at h;exact h _ (List.getElem_mem hj)
theorem gP {fs:List Fn}(h:aT fs=true):sum fs<=80*fs.length:=by
 induction fs with
 |nil=>simp[sum]
 |cons x xs ih=>
  simp only[aT,List.all_cons,ai]at h
  have:=ih h.2
  have h1:=h.1
  simp only[om,ai,decide_eq_true_eq]at h1
  simp only[sum,List.length_cons]
  omega
end Md
def FL (w:World)(a:Option Addr)(len:Nat)(fs:List Fn):Prop:=
 fs.length=len/\len<=maxLen/\(len=0\/∃b off,a=some ⟨b,off,none⟩/\b<w.heap.size/\
   ∀ j,j<len->w.cell? ⟨b,off+j*4,none⟩=some (.int .i64 (fs.getD j .z).a)/\w.cell? ⟨b,off+j*4+1,none⟩=some (.int .i64 (fs.getD j .z).l)/\w.cell? ⟨b,off+j*4+2,none⟩=some (.int .i64 (fs.getD j .z).g)/\
     ∃ba bl bc,w.cell? ⟨b,off+j*4+3,none⟩=some (.slice ba bl bc)/\SL w ba bl (fs.getD j .z).b)
theorem FL.kept {w w':World}{a:Option Addr}{len:Nat}{fs:List Fn}(h:FL w a len fs)(hB:Below w.heap.size w w'):FL w' a len fs:=by obtain⟨h1,h2,h3|⟨b,off,rfl,hb,hx⟩⟩:=h;{exact⟨h1,h2, .inl h3⟩};refine⟨h1,h2, .inr ⟨b,off,rfl,ah hb hB.size,fun j hj=>?_⟩⟩;obtain⟨c0,c1,c2,ba,bl,bc,c3,hs⟩:=hx j hj;exact⟨(hB.cell (p:=⟨b,off+j*4,none⟩) hb).trans c0,(hB.cell (p:=⟨b,off+j*4+1,none⟩) hb).trans c1,(hB.cell (p:=⟨b,off+j*4+2,none⟩) hb).trans c2,ba,bl,bc,(hB.cell (p:=⟨b,off+j*4+3,none⟩) hb).trans c3,hs.kept hB⟩
end Go.Proofs.Ythamlonlgnjljab
