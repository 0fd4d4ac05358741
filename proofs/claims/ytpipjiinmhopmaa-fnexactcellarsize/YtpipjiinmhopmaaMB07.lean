/-
  Own texts for a law: SlOf Arr0 Mem1 Lin3 Sp1 Fs1 Fs3 Lin4 Fs4
-/
import Derived.Test.YtpipjiinmhopmaaMB06
import Derived.Deep.SlicePairs
import Derived.Deep.WholeRow
import Derived.Stop.BytesEq
import Derived.Laws.CopyOwn
import Derived.Laws.ResultCell
import Derived.Deep.LoopGhost
namespace Go.Proofs.Ytpipjiinmhopmaa
open Go.RowKit Go.Shelf
set_option linter.all false
set_option maxRecDepth 100000
set_option maxHeartbeats 16000000
section
open Go.ChangeShapes Go.WideShapes Go.ChangeAt Go.RowKit Go.Shelf Go.Deep
theorem OI.il {W:World}{n₀:Nat}{a:Option Addr}{n c:Nat}{xs:List Int}(h:OI W n₀ (.slice a n c) xs):n=xs.length/\IL W a n xs:=by obtain⟨a',c',e,hil⟩:=h.slice;simp only[Value.slice.injEq]at e;obtain⟨rfl,rfl,rfl⟩:=e;exact⟨rfl,hil⟩
theorem dI {W W':World}(h:W.grownBy W' none):Below W.heap.size W W':=⟨h.os,h.tape,h.output,h.size,fun k hk=>h.block k hk (by simp)⟩
end
structure Still (p:Prop):Prop where
 out:p
def dW (W:World)(g:Nat)(t:TypeId)(vs:List Value):Prop:=W.heap[g]?=some (.cells vs.toArray t (0,0))
theorem dW.lt {W:World}{g:Nat}{t:TypeId}{vs:List Value}(h:dW W g t vs):g<W.heap.size:=(Array.getElem?_eq_some_iff.1 h).1
theorem dW.cell {W:World}{g:Nat}{t:TypeId}{vs:List Value}(h:dW W g t vs){j:Nat}{v:Value}(hj:vs[j]?=some v):W.cell? ⟨g,j,none⟩=some v:=by rw[cell_of_row W g j _ t _ h];simpa using hj
theorem dW.frozen {W:World}{g:Nat}{t:TypeId}{vs:List Value}(h:dW W g t vs)(j:Nat):W.frozen? ⟨g,j,none⟩=false:=frozen_of_row W g j _ t h
theorem dW.kept {W W':World}{g:Nat}{t:TypeId}{vs:List Value}(h:dW W g t vs)(hB:Below W.heap.size W W'):dW W' g t vs:=(hB.block g h.lt).trans h
theorem dW.gm {W W':World}{g:Nat}{t:TypeId}{vs:List Value}{row:Option Nat}(h:dW W g t vs)(hg:W.grownBy W' row)(hne:some g≠row):dW W' g t vs:=(hg.block g h.lt hne).trans h
theorem dW.set {W:World}{g:Nat}{t:TypeId}{vs:List Value}(h:dW W g t vs)(j:Nat)(v:Value):dW (W.setCell ⟨g,j,none⟩ v) g t (vs.set j v):=by have:=heap_setCell_same W g j vs.toArray t v h;unfold dW;rw[this];simp
theorem dW.row {W:World}{g:Nat}{t:TypeId}{vs:List Value}(h:dW W g t vs)(ws:List Value):dW (W.setRow g ws.toArray) g t ws:=setRow_heap W g _ _ t _ h
theorem az {w w1 w2:World}{r:Nat}(h:Below w.heap.size w w1)(hg:w1.grownBy w2 (some r))(hr:w.heap.size<=r):Below w.heap.size w w2:=
 ⟨hg.os.trans h.os,hg.tape.trans h.tape,hg.output.trans h.output,Nat.le_trans h.size hg.size,fun k hk=>(hg.block k (ai hk h.size) (by simp only[ne_eq,Option.some.injEq];omega)).trans (h.block k hk)⟩
section
variable {P : Program}
theorem jX {ops:Array Oper}{rest:List Oper}{o:Oper}{a:Act}{w:World}{Q:Exit->Act->World->Prop}(hgd:o.guard=none)(t:TypeId)(x:Operand)(ho:o.op= .box t x)(zs:List Value)(hx:a.eval x= .agg zs.toArray)(h:∀g w',Hid (g=w.heap.size)->dW w' g t zs->Below w.heap.size w w'->wpList P ops Q rest (a.put o.dst (.pointer (some ⟨g,0,none⟩))) w'):wpList P ops Q (o::rest) a w:=by refine wpList_plain hgd fun K hK=>?_;unfold Oper.wp execOp;simp only[ho,hx,Instr.box,Sem.run_bind];simp[newVar,Value.cells];exact hK _ _ (h w.heap.size (w.alloc (.cells zs.toArray t)) rfl (heap_alloc_last w _) (Below.alloc (Below.refl _ _) (Nat.le_refl _) _))
theorem o6 {ops:Array Oper}{rest:List Oper}{o:Oper}{a:Act}{w:World}{Q:Exit->Act->World->Prop}(t:TypeId)(x:Operand)(ho:o.op= .box t x)(h:Still (wpList P ops Q (o::rest) a w)):wpList P ops Q (o::rest) a w:=h.out
theorem lq {ops:Array Oper}{rest:List Oper}{o:Oper}{a:Act}{w:World}{Q:Exit->Act->World->Prop}(t:TypeId)(ps:Array (Nat×Operand))(ho:o.op= .build t ps)(h:Still (wpList P ops Q (o::rest) a w)):wpList P ops Q (o::rest) a w:=h.out
variable {C : World → Prop}
end
theorem tX {bs:List Int}:∀v∈bs.map iv,v.oneCell'=true:=by intro v hv;obtain⟨b,_,rfl⟩:=List.mem_map.1 hv;rfl
theorem jH {f:Int->Value}{bs:List Int}{k:Nat}(h:k<bs.length):(bs.map f)[k]?=some (f (bs.getD k 0)):=by rw[List.getElem?_map,ah h,af,ah h];rfl
theorem ow {n:Nat}{ys:List Int}{f:Nat->Int}{k:Nat}{p:Int}(h:ys.length=n/\∀j,j<k->ys.getD j 0=f j)(hk:k<n)(hp:f k=p):(ys.set k p).length=n/\∀j,j<k+1->(ys.set k p).getD j 0=f j:=by refine⟨by rw[List.length_set];exact h.1,fun j hj=>?_⟩;by_cases e:j=k;{subst e;rw[af,List.getElem?_set_self (by omega),hp];rfl};rw[←h.2 j (by omega),af,List.getElem?_set_ne (by omega),←af]
theorem pV {n:Nat}{ys bs:List Int}(h:ys.length=n/\∀j,j<n->ys.getD j 0=bs.getD j 0)(hb:bs.length=n):ys=bs:=by apply List.ext_getElem;{rw[h.1,hb]};intro j h1 h2;have:=h.2 j (by omega);simpa[af,ah h1,ah h2]using this
def OG (W:World)(n₀ g n c:Nat)(xs:List Int):Prop:=xs.length=n/\W.ownsRow n₀ 2 1 (.slice (some ⟨g,0,none⟩) n c) n (xs.map iv)
theorem OG.oi {W:World}{n₀ g n c:Nat}{xs:List Int}(h:OG W n₀ g n c xs):OI W n₀ (.slice (some ⟨g,0,none⟩) n c) xs:=by unfold OI;rw[h.1];exact h.2
theorem OG.lt {W:World}{n₀ g n c:Nat}{xs:List Int}(h:OG W n₀ g n c xs):n₀<=g/\g<W.heap.size:=World.ownsRow.lt h.2 g rfl
theorem OG.cap {W:World}{n₀ g n c:Nat}{xs:List Int}(h:OG W n₀ g n c xs):n<=c/\c<=maxLen:=by rcases h.2.2 with⟨e,-⟩|⟨g',cap,cur,e,hb,hc,hn,hm,-⟩;{cases e};cases e;exact⟨hn,hm⟩
theorem OG.cell {W:World}{n₀ g n c:Nat}{xs:List Int}(h:OG W n₀ g n c xs){j:Nat}(hj:j<n):W.cell? ⟨g,j,none⟩=some (.int .i64 (xs.getD j 0)):=by have hi:=(OI.il h.oi).2;obtain⟨-,-,h0|⟨b,o,e,hb,hx⟩⟩:=hi;{omega};simp only[Option.some.injEq,Addr.mk.injEq,and_true]at e;obtain⟨rfl,rfl⟩:=e;have:=hx j hj;rwa [Nat.zero_add]at this
theorem OG.kept {W W':World}{n₀ g n c:Nat}{xs:List Int}(h:OG W n₀ g n c xs)(hB:Below W.heap.size W W'):OG W' n₀ g n c xs:=⟨h.1,aS h.2 hB⟩
theorem OG.gm {W W':World}{n₀ g n c b:Nat}{xs:List Int}(h:OG W n₀ g n c xs)(hg:W.grownBy W' (some b))(hne:g≠b):OG W' n₀ g n c xs:=by refine⟨h.1,World.ownsRow.kept h.2 hg (.inr ?_)⟩;simp only[Value.ownBlock,ne_eq,Option.some.injEq];omega
theorem OG.mono {W:World}{n₀ n₁ g n c:Nat}{xs:List Int}(h:OG W n₁ g n c xs)(hn:n₀<=n₁):OG W n₀ g n c xs:=by have:=OI.mono h.oi hn;unfold OI at this;rw[h.1]at this;exact⟨h.1,this⟩
theorem OG.empty (W:World)(n₀:Nat)(hn:n₀<=W.heap.size):OG (W.alloc (.cells #[] 2)) n₀ W.heap.size 0 0 []:=⟨rfl,by simpa[OI]using OI.mono (OI.empty W) hn⟩
theorem OG.one (W:World)(n₀:Nat)(hn:n₀<=W.heap.size)(y:Int):OG (W.alloc (.cells #[.int .i64 y] 2)) n₀ W.heap.size 1 1 [y]:=
 ⟨rfl,rfl, .inr ⟨W.heap.size,1,#[.int .i64 y],rfl,hn,World.alloc_heap_new W _,Nat.le_refl _,by simp[maxLen],rfl,rfl⟩⟩
theorem aN {ops:Array Oper}{rest:List Oper}{o:Oper}{a:Act}{Q:Exit->Act->World->Prop}(W:World)(hgd:o.guard=none)(s x:Operand)(ho:o.op= .call {callee:= .builtin .append,args:=#[s,x],argTypes:=#[23,23]})(n₀ g n c:Nat)(xs:List Int)(hs:a.eval s= .slice (some ⟨g,0,none⟩) n c)(hown:OG W n₀ g n c xs)(sb so m sc:Nat)(ys:List Int)(hx:a.eval x= .slice (some ⟨sb,so,none⟩) m sc)(hym:ys.length=m)(hy:∀j,j<m->W.cell? ⟨sb,so+j,none⟩=some (.int .i64 (ys.getD j 0)))(hsz:n+m<=1048576)(hbase:n₀<=W.heap.size)(h:∀g' c' N W',Hid (N=n+m)->OG W' n₀ g' N c' (xs++ys)->W.grownBy W' (some g)->wpList Try.prog ops Q rest (a.put o.dst (.slice (some ⟨g',0,none⟩) N c')) W'):wpList Try.prog ops Q (o::rest) a W:=by obtain⟨i0,hi,hz0,hz1,hz2⟩:=info_parts eY;refine wpList_append_own W hgd s x 23 ho n₀ 2 i0 (.int .i64 0) 1 8 Try.underlying23 hi hz0 hz1 hz2 rfl (by decide) _ n (xs.map iv) hs hown.2 ⟨sb,so,none⟩ m sc (ys.map iv) hx (by rw[List.length_map,hym,Nat.mul_one]) (fun j u hu=>?_) tX (by simp only[maxLen];omega) (by omega) hbase (fun v' W' hown' hgrow hnn=>?_);{have hj:j<m:=by{have:=(List.getElem?_eq_some_iff.1 hu).1;rwa [List.length_map,hym]at this};rw[jH (by rw[hym];exact hj)]at hu;cases hu;(have hadd:(⟨sb,so,none⟩:Addr).add j=⟨sb,so+j,none⟩:=by unfold Addr.add;split<;>simp_all);rw[hadd];exact hy j hj};rcases hown'.2 with⟨rfl,h0⟩|⟨g',cap',cur,rfl,r⟩;{exact absurd (hnn.1 rfl).1 (fun e=>by cases e)};refine h g' cap' (n+m) W' rfl ⟨by rw[List.length_append,hown.1,hym],?_⟩ hgrow;rw[List.map_append];exact hown'
theorem ed (n₀ g m c:Nat)(xs:List Int)(n:Int)(hm:m<=1000)(w:World)(hn:n₀<=w.heap.size)(ho:OG w n₀ g m c xs):Calls Try.prog 54 #[.slice (some ⟨g,0,none⟩) m c, .int .i64 n] w fun e w'=>∃g' m' c',e= .returned (.slice (some ⟨g',0,none⟩) m' c')/\OG w' n₀ g' m' c' (Ln.put xs n)/\Below w.heap.size w w':=by
 have hcap:=ho.cap
 have nR:=ho.lt
 have HX:=ae ho.1
 have HC:Hid (∀j,j<m->w.cell? ⟨g,j,none⟩=some (.int .i64 (xs.getD j 0))):=fun j hj=>ho.cell hj
 have HO:=ae ho
 clear ho
 go_enter Try.func54,Try.ntmps54
 go_wp2
 go_loopw [5] (fun i wr=>∃k:Nat,i= .int .i64 k/\k<=m/\Hid (∀j,j<k->xs.getD j 0<n)/\w=wr) (fun i _=>m-(intOf i).toNat)
 case atStart=>exact⟨0,rfl,Nat.zero_le _,(fun j hj=>by omega),rfl⟩
 case round=>
  obtain⟨k,rfl,hk,HL,aM⟩:=hrel
  subst aM
  have fin:Hid (∀(hge:k<m->n<=xs.getD k 0),Ln.put xs n=if k<m/\xs.getD k 0=n then xs else xs.take k++(n::xs.drop k)):=fun hge=>by have:=Ln.oI n xs k (by rw[HX.out];exact hk) HL.out (fun h=>hge (by rw[HX.out]at h;exact h));rw[HX.out]at this;exact this
  have Bo:(k:Int)<=(m:Int):=by omega
  have hkc:(k:Int)<=(c:Int):=by omega
  have Bp:(m:Int)<=(c:Int):=by omega
  have hqq:(k<m/\xs.getD k 0<n)\/(k<m/\xs.getD k 0=n)\/(k<m->n<=xs.getD k 0)/\¬(k<m/\xs.getD k 0=n):=by by_cases h1:k<m;{by_cases h2:xs.getD k 0<n;{exact .inl ⟨h1,h2⟩};by_cases h3:xs.getD k 0=n;{exact .inr (.inl ⟨h1,h3⟩)};exact .inr (.inr ⟨fun _=>by omega,fun h=>h3 h.2⟩)};exact .inr (.inr ⟨fun h=>absurd h h1,fun h=>h1 h.1⟩)
  rcases hqq with⟨hlt,hy⟩|⟨hlt,hy⟩|⟨hge,hno⟩
  · have aP:(k:Int)<(m:Int):=by{omega};have HL2:Hid (∀j,j<k+1->xs.getD j 0<n):=fun j hj=>by{by_cases e:j<k;{exact HL.out j e};obtain rfl:j=k:=by{omega};exact hy};have hc:=HC.out k hlt;obtain⟨y,pY⟩:∃y,xs.getD k 0=y:=⟨_,rfl⟩;rw[pY]at hc hy;clear pY;go_wp2;go_roundw;(case rel=>exact⟨k+1,by simp,hlt,HL2,by simp⟩);case measure=>simp[intOf];omega
  · have aP:(k:Int)<(m:Int):=by{omega};have hc:=HC.out k hlt;have HP:Hid (Ln.put xs n=xs):=by{show _=_;rw[fin.out (fun _=>by omega),av ⟨hlt,hy⟩]};rw[hy]at hc;clear hy fin HL;have hnn:¬(n<n):=by{omega};have Cj:(n==n)=true:=by{simp};go_wp2;go_ret;exact⟨g,m,c,rfl,by rw[HP.out];exact HO.out,Below.refl _ _⟩
  · have HP:Hid (Ln.put xs n=xs.take k++(n::xs.drop k)):=by show _=_;rw[fin.out hge,au hno]
    clear fin HL
    have hB1:=ay w (.cells #[] 2)
    have zY:=ae (OG.empty w w.heap.size (Nat.le_refl _))
    have HB1:=ae hB1
    have hc1:Hid (∀j,j<m-k->(w.alloc (.cells #[] 2)).cell? ⟨g,k+j,none⟩=some (.int .i64 ((xs.drop k).getD j 0))):=fun j hj=>by rw[(hB1.cell (p:=⟨g,k+j,none⟩) nR.2).trans (HC.out (k+j) (by omega)),af,af,List.getElem?_drop]
    have hct:Hid (∀j,j<k->xs.getD j 0=(xs.take k).getD j 0):=fun j hj=>by rw[af,af,List.getElem?_take_of_lt hj]
    have HD:Hid ((xs.drop k).length=m-k/\(xs.take k).length=k):=⟨by rw[List.length_drop,HX.out],by rw[List.length_take,HX.out];omega⟩
    clear hB1
    have wQ:(¬(k:Int)<(m:Int)/\c<=k)\/(¬(k:Int)<(m:Int)/\¬(k=c))\/((k:Int)<(m:Int)/\∃y,w.cell? ⟨g,k,none⟩=some (.int .i64 y)/\¬(y<n)/\(y==n)=false):=by by_cases hlt:k<m;{refine .inr (.inr ⟨by omega,xs.getD k 0,HC.out k hlt,?_,?_⟩);{have:=hge hlt;omega};have:¬(xs.getD k 0=n):=fun e=>hno ⟨hlt,e⟩;simpa using this};by_cases hkc:c<=k;{exact .inl ⟨by omega,hkc⟩};exact .inr (.inl ⟨by omega,by omega⟩)
    clear hge hno
    rcases wQ with⟨hlt,hck⟩|⟨hlt,hne⟩|⟨hlt,y,hc,hyn,hyq⟩
    all_goals
     go_wp2_with(first
       |(at_builtin;refine aN _ rfl _ _ rfl w.heap.size _ _ _ [] rfl zY.out g k (m-k) (c-k) (xs.drop k) rfl HD.out.1 hc1.out (by omega) (by simp) ?_;intro g1 c1 N1 w1 hN1 ho1 fD;have hB2:=az HB1.out fD (Nat.le_refl _);have hal:=ay w1 (.cells #[] 2);have HB3:=ae (hB2.trans (hal.mono hB2.size));have HE2:=ae (OG.empty w1 w1.heap.size (Nat.le_refl _));have HR1:=ae (ho1.kept hal);have hsz1:=hB2.size;have hg1:=ho1.lt;have hc2:Hid (∀j,j<k->(w1.alloc (.cells #[] 2)).cell? ⟨g,0+j,none⟩=some (.int .i64 ((xs.take k).getD j 0))):=(fun j hj=>by rw[Nat.zero_add,(HB3.out.cell (p:=⟨g,j,none⟩) nR.2).trans (HC.out j (by omega)),hct.out j hj]);clear hB2 hal ho1 fD)
       |(at_builtin;refine aN _ rfl _ _ rfl w.heap.size _ _ _ [] rfl zY.out g _ _ _ _ rfl HD.out.1 (fun j hj=>absurd hj (by omega)) (by omega) (by simp) ?_;intro g1 c1 N1 w1 hN1 ho1 fD;have hB2:=az HB1.out fD (Nat.le_refl _);have hal:=ay w1 (.cells #[] 2);have HB3:=ae (hB2.trans (hal.mono hB2.size));have HE2:=ae (OG.empty w1 w1.heap.size (Nat.le_refl _));have HR1:=ae (ho1.kept hal);have hsz1:=hB2.size;have hg1:=ho1.lt;have hc2:Hid (∀j,j<k->(w1.alloc (.cells #[] 2)).cell? ⟨g,0+j,none⟩=some (.int .i64 ((xs.take k).getD j 0))):=(fun j hj=>by rw[Nat.zero_add,(HB3.out.cell (p:=⟨g,j,none⟩) nR.2).trans (HC.out j (by omega)),hct.out j hj]);clear hB2 hal ho1 fD)
       |(at_builtin;refine aN _ rfl _ _ rfl w1.heap.size _ _ _ [] rfl HE2.out g 0 _ _ (xs.take _) rfl HD.out.2 hc2.out (by omega) (by simp) ?_;intro g2 c2 N2 w2 zZ ho2 uu;have hB4:=az HB3.out uu hsz1;have hal:=ay w2 (.cells #[.int .i64 n] 2);have lW:=ae (hB4.trans (hal.mono hB4.size));have HR2:=ae ((HR1.out.gm uu (by omega)).kept hal);have bT:=ae (ho2.kept hal);have hg2:=ho2.lt;have hc3:Hid (∀j,j<1->(w2.alloc (.cells #[.int .i64 n] 2)).cell? ⟨w2.heap.size,0+j,none⟩=some (.int .i64 (([n]:List Int).getD j 0))):=(fun j hj=>by obtain rfl:j=0:=(by omega);exact(OG.one w2 w2.heap.size (Nat.le_refl _) n).cell (j:=0) (by omega));clear hB4 hal ho2 uu HB3 HE2 HR1 hc2)
       |(at_builtin;refine aN _ rfl _ _ rfl w1.heap.size _ _ _ _ rfl bT.out w2.heap.size 0 1 1 [n] rfl rfl hc3.out (by have:=zZ.out;omega) (by simp;omega) ?_;intro g3 c3 N3 w3 uw ho3 iP;have lm:=ae (az lW.out iP (by omega));have HR3:=ae (HR2.out.gm iP (by omega));have gF:=ae ho3;have uy:=iP.size;have hg3:=ho3.lt;have hc4:Hid (∀j,j<N1->w3.cell? ⟨g1,0+j,none⟩=some (.int .i64 (([]++xs.drop k).getD j 0))):=(fun j hj=>by rw[Nat.zero_add];exact HR3.out.cell hj);clear ho3 iP HR2 bT hc3)
       |(at_builtin;refine aN _ rfl _ _ rfl w1.heap.size _ _ _ _ rfl gF.out g1 0 N1 c1 ([]++xs.drop k) rfl HR3.out.1 hc4.out (by have:=zZ.out;have:=uw.out;have:=hN1.out;omega) (by simp at uy;omega) ?_;intro g4 c4 N4 w4 z8 mM df;have rA:=ae (az lm.out df (by omega));have dC:=ae mM;clear mM df lm HR3 gF hc4))
     go_ret
     exact⟨g4,N4,c4,rfl,by rw[HP.out];simpa using dC.out.mono (by omega),rA.out⟩
def aJ (l:List Sp.S):List Value:=l.flatMap fun s=>[.int .i64 s.b, .int .i64 s.f, .int .i64 s.t, .bool s.c]
theorem eB (s:Sp.S)(l:List Sp.S):aJ (s::l)= .int .i64 s.b:: .int .i64 s.f:: .int .i64 s.t:: .bool s.c::aJ l:=rfl
theorem jd (l m:List Sp.S):aJ (l++m)=aJ l++aJ m:=by simp[aJ]
theorem bJ:∀(l:List Sp.S)(j:Nat),j<l.length->(aJ l)[j*4]?=some (.int .i64 (l.getD j .z).b)/\(aJ l)[j*4+1]?=some (.int .i64 (l.getD j .z).f)/\(aJ l)[j*4+2]?=some (.int .i64 (l.getD j .z).t)/\(aJ l)[j*4+3]?=some (.bool (l.getD j .z).c)
 |[],j,h=>by simp at h
 |s::l,0,h=>⟨rfl,rfl,rfl,rfl⟩
 | s::l,j+1,h=>by
   have ih:=bJ l j (by simpa using h)
   have e:(s::l).getD (j+1) .z=l.getD j .z:=rfl
   rw[e,eB]
   refine⟨?_,?_,?_,?_⟩
   · rw[show(j+1)*4=j*4+1+1+1+1 by omega];simp only[List.getElem?_cons_succ];exact ih.1
   · rw[show(j+1)*4+1=j*4+1+1+1+1+1 by omega];simp only[List.getElem?_cons_succ];exact ih.2.1
   · rw[show(j+1)*4+2=j*4+2+1+1+1+1 by omega];simp only[List.getElem?_cons_succ];exact ih.2.2.1
   · rw[show(j+1)*4+3=j*4+3+1+1+1+1 by omega];simp only[List.getElem?_cons_succ];exact ih.2.2.2
def SG (W:World)(n₀ g n c:Nat)(l:List Sp.S):Prop:=l.length=n/\W.ownsRow n₀ 42 4 (.slice (some ⟨g,0,none⟩) n c) n (aJ l)
theorem SG.lt {W:World}{n₀ g n c:Nat}{l:List Sp.S}(h:SG W n₀ g n c l):n₀<=g/\g<W.heap.size:=World.ownsRow.lt h.2 g rfl
theorem SG.cap {W:World}{n₀ g n c:Nat}{l:List Sp.S}(h:SG W n₀ g n c l):n<=c/\c<=maxLen:=by rcases h.2.2 with⟨e,-⟩|⟨g',cap,cur,e,hb,hc,hn,hm,-⟩;{cases e};cases e;exact⟨hn,hm⟩
theorem SG.cell {W:World}{n₀ g n c:Nat}{l:List Sp.S}(h:SG W n₀ g n c l){j:Nat}(hj:j<n):W.cell? ⟨g,j*4,none⟩=some (.int .i64 (l.getD j .z).b)/\W.cell? ⟨g,j*4+1,none⟩=some (.int .i64 (l.getD j .z).f)/\W.cell? ⟨g,j*4+2,none⟩=some (.int .i64 (l.getD j .z).t)/\W.cell? ⟨g,j*4+3,none⟩=some (.bool (l.getD j .z).c):=by have hc:=World.ownsRow.cells h.2 (g:=g) rfl;(have hadd:∀k,(⟨g,0,none⟩:Addr).add k=⟨g,k,none⟩:=fun k=>by unfold Addr.add;split<;>simp_all);obtain⟨h0,h1,h2,h3⟩:=bJ l j (by rw[h.1];exact hj);refine⟨?_,?_,?_,?_⟩;{rw[←hadd];exact hc _ _ h0};{rw[←hadd];exact hc _ _ h1};{rw[←hadd];exact hc _ _ h2};rw[←hadd];exact hc _ _ h3
theorem SG.kept {W W':World}{n₀ g n c:Nat}{l:List Sp.S}(h:SG W n₀ g n c l)(hB:Below W.heap.size W W'):SG W' n₀ g n c l:=⟨h.1,aS h.2 hB⟩
theorem SG.gm {W W':World}{n₀ g n c b:Nat}{l:List Sp.S}(h:SG W n₀ g n c l)(hg:W.grownBy W' (some b))(hne:g≠b):SG W' n₀ g n c l:=by refine⟨h.1,World.ownsRow.kept h.2 hg (.inr ?_)⟩;simp only[Value.ownBlock,ne_eq,Option.some.injEq];omega
theorem SG.mono {W:World}{n₀ n₁ g n c:Nat}{l:List Sp.S}(h:SG W n₁ g n c l)(hn:n₀<=n₁):SG W n₀ g n c l:=by refine⟨h.1,h.2.1,?_⟩;rcases h.2.2 with⟨e,-⟩|⟨g',cap,cur,e,hb,r⟩;{cases e};exact .inr ⟨g',cap,cur,e,by omega,r⟩
theorem SG.empty (W:World)(n₀:Nat)(hn:n₀<=W.heap.size):SG (W.alloc (.cells #[] 42)) n₀ W.heap.size 0 0 []:=
 ⟨rfl,rfl, .inr ⟨W.heap.size,0,#[],rfl,hn,World.alloc_heap_new W _,Nat.le_refl _,by simp[maxLen],rfl,rfl⟩⟩
theorem nC:(Try.prog.info? 42).map (fun i=>(i.zero,i.size,i.bytes))=some (some (.agg #[.int .i64 0, .int .i64 0, .int .i64 0, .bool false]),4,32):=by kernel_rfl
theorem gW (w:World)(x0 x1 x2 x3:Value)(t:TypeId):∀j u,[x0,x1,x2,x3][j]?=some u->(w.alloc (.cells #[x0,x1,x2,x3] t)).cell? ((⟨w.heap.size,0,none⟩:Addr).add j)=some u:=by
 intro j u hj
 match j,hj with
 |0,hj=>simp at hj;subst hj;simp[Addr.add]
 |1,hj=>simp at hj;subst hj;simp[Addr.add]
 |2,hj=>simp at hj;subst hj;simp[Addr.add]
 |3,hj=>simp at hj;subst hj;simp[Addr.add]
theorem kr {ops:Array Oper}{rest:List Oper}{o:Oper}{a:Act}{Q:Exit->Act->World->Prop}(W:World)(hgd:o.guard=none)(s x:Operand)(ho:o.op= .call {callee:= .builtin .append,args:=#[s,x],argTypes:=#[39,39]})(n₀ g n c:Nat)(l:List Sp.S)(hs:a.eval s= .slice (some ⟨g,0,none⟩) n c)(hown:SG W n₀ g n c l)(sb:Nat)(y:Sp.S)(hx:a.eval x= .slice (some ⟨sb,0,none⟩) 1 1)(hy:∀j u,[Value.int .i64 y.b, .int .i64 y.f, .int .i64 y.t, .bool y.c][j]?=some u->W.cell? ((⟨sb,0,none⟩:Addr).add j)=some u)(hsz:n<=1000)(hbase:n₀<=W.heap.size)(h:∀g' c' N W',Hid (N=n+1)->SG W' n₀ g' N c' (l++[y])->W.grownBy W' (some g)->wpList Try.prog ops Q rest (a.put o.dst (.slice (some ⟨g',0,none⟩) N c')) W'):wpList Try.prog ops Q (o::rest) a W:=by obtain⟨i0,hi,hz0,hz1,hz2⟩:=info_parts nC;refine wpList_append_own W hgd s x 39 ho n₀ 42 i0 (.agg #[.int .i64 0, .int .i64 0, .int .i64 0, .bool false]) 4 32 Try.underlying39 hi hz0 hz1 hz2 rfl (by decide) _ n (aJ l) hs hown.2 ⟨sb,0,none⟩ 1 1 [.int .i64 y.b, .int .i64 y.f, .int .i64 y.t, .bool y.c] hx rfl hy (fun u hu=>?_) (by simp only[maxLen];omega) (by omega) hbase (fun v' W' hown' hgrow hnn=>?_);{simp only[List.mem_cons,List.not_mem_nil,or_false]at hu;rcases hu with rfl|rfl|rfl|rfl<;>rfl};rcases hown'.2 with⟨rfl,h0⟩|⟨g',cap',cur,rfl,r⟩;{exact absurd (hnn.1 rfl).1 (fun e=>by cases e)};refine h g' cap' (n+1) W' rfl ⟨by rw[List.length_append,hown.1];rfl,?_⟩ hgrow;have e:aJ (l++[y])=aJ l++[.int .i64 y.b, .int .i64 y.f, .int .i64 y.t, .bool y.c]:=by{rw[jd];rfl};rw[e];exact hown'
theorem LL.at {w:World}{a:Option Addr}{len:Nat}{ls:List Ln}(h:LL w a len ls){p:Nat}(hp:p<len):∃b off,a=some ⟨b,off,none⟩/\b<w.heap.size/\LC w b (off+p*6) (ls.getD p .z):=by obtain⟨-,-,h0|⟨b,off,rfl,hb,hx⟩⟩:=h;{omega};exact⟨b,off,rfl,hb,hx p hp⟩
theorem iJ (a:Option Addr)(len cap:Nat)(ls:List Ln)(p:Nat)(hp:p<len)(hlen:len<=1000)(w:World)(hs:LL w a len ls):Calls Try.prog 43 #[.slice a len cap, .int .i64 (p:Int)] w fun e w'=>∃g m c,e= .returned (.slice (some ⟨g,0,none⟩) m c)/\OG w' w.heap.size g m c (Fl.nx (ls.getD p .z) p)/\Below w.heap.size w w':=by obtain⟨b,off,rfl,hb,hc⟩:=hs.at hp;clear hs;have rC:(p:Int)<(len:Int):=by{omega};have lX:(len:Int)<=1000:=by{omega};obtain⟨x,hx⟩:∃x,ls.getD p .z=x:=⟨_,rfl⟩;rw[hx]at hc ⊢;clear hx;obtain⟨k,d,a',b',n,l⟩:=x;obtain⟨c0,c1,c2,c3,c4,-⟩:=hc;simp only at c0 c1 c2 c3 c4;clear c1 c2 c3;by_cases h5:k=5;{subst h5;have e:Fl.nx ⟨5,d,a',b',n,l⟩ p=[n]:=rfl;rw[e];have ho:=OG.one w w.heap.size (Nat.le_refl _) n;have hB:=ay w (.cells #[.int .i64 n] 2);clear e;go_enter Try.func43,Try.ntmps43;go_wp2;go_ret;exact⟨_,1,1,rfl,ho,hB⟩};by_cases h6:k=6;{subst h6;have e:Fl.nx ⟨6,d,a',b',n,l⟩ p=Ln.put [(p:Int)+1] n:=rfl;rw[e];have ho:=OG.one w w.heap.size (Nat.le_refl _) ((p:Int)+1);have hB:=ay w (.cells #[.int .i64 ((p:Int)+1)] 2);have hcon:=ed w.heap.size w.heap.size 1 1 [(p:Int)+1] n (by omega) (w.alloc (.cells #[.int .i64 ((p:Int)+1)] 2)) hB.size ho;have HB:=ae hB;clear e ho hB h5;go_enter Try.func43,Try.ntmps43;go_wp2_with(go_at_call 54;refine hcon.mono ?_;rintro e w2 ⟨g,m,c,rfl,ho2,hB2⟩;dsimp only;have HF:=ae (aj ho2 (HB.out.trans (hB2.mono HB.out.size)));clear ho2 hB2 hcon);go_ret;exact⟨g,m,c,rfl,HF.out.1,HF.out.2⟩};have k5:(k==5)=false:=by{simp;omega};have k6:(k==6)=false:=by{simp;omega};by_cases h10:k=10\/k=11;{have e:Fl.nx ⟨k,d,a',b',n,l⟩ p=[]:=by{unfold Fl.nx;rw[au h5,au h6,av h10]};rw[e];have ho:=OG.empty w w.heap.size (Nat.le_refl _);have hB:=ay w (.cells #[] 2);clear e k5 k6 h5 h6;rcases h10 with rfl|rfl;all_goals go_enter Try.func43,Try.ntmps43;go_wp2;go_ret;exact⟨_,0,0,rfl,ho,hB⟩};have e:Fl.nx ⟨k,d,a',b',n,l⟩ p=[(p:Int)+1]:=by{unfold Fl.nx;rw[au h5,au h6,au h10]};rw[e];have k10:(k==10)=false:=by{simp;omega};have k11:(k==11)=false:=by{simp;omega};have ho:=OG.one w w.heap.size (Nat.le_refl _) ((p:Int)+1);have hB:=ay w (.cells #[.int .i64 ((p:Int)+1)] 2);clear e h5 h6 h10;go_enter Try.func43,Try.ntmps43;go_wp2;go_ret;exact⟨_,1,1,rfl,ho,hB⟩
def nz (f:List Nat):List Int:=f.map fun x:Nat=>(x:Int)
theorem ig (f:List Nat):(nz f).length=f.length:=by simp[nz]
theorem mh (f:List Nat)(i:Nat):(nz f).getD i 0=((f.getD i 0:Nat):Int):=by unfold nz;rw[af,af,List.getElem?_map];rcases f[i]? with _|x<;>rfl
theorem oD (f:List Nat)(i x:Nat):nz (f.set i x)=(nz f).set i (x:Int):=by unfold nz;rw[List.map_set]
theorem zP (n:Int)(h0:0<=n)(h1:n<2 ^ 40):IntKind.i64.wrap n=n:=by rw[IntKind.wrap_i64];omega
theorem tH {n m:Nat}(hn:n<2 ^ 40)(hm:m<2 ^ 40):bits .or .i64 n m=((n|||m:Nat):Int):=(bits_nat .i64 40 (by decide) zP n m hn hm).2
theorem fT (a:Option Addr)(len cap:Nat)(ls:List Ln)(hok:Ln.isOk ls=true)(p:Nat)(hp:p<len)(f:List Nat)(hf:∀i,f.getD i 0<2 ^ 40)(n₀ g c:Nat)(w:World)(hs:LL w a len ls)(ho:OG w n₀ g len c (nz f)):Calls Try.prog 31 #[.slice a len cap, .slice (some ⟨g,0,none⟩) len c, .int .i64 (p:Int)] w fun e w'=>e= .returned (.int .i64 ((Fl.ou ls f p:Nat):Int))/\Below w.heap.size w w':=by have hl:=hs.1;have hlen:=Ln.bi hok;have hcon:=iJ a len cap ls p hp (by omega) w hs;have HN:=ae (Fl.sG hok (p:=p) (by omega));rw[hl]at HN hlen;have nR:=ho.lt;have hcap:=ho.cap;have HO:=ae ho;have HF:=ae hf;have HR:Hid (Fl.ou ls f p=Fl.js f (Fl.nx (ls.getD p .z) p)):=rfl;obtain⟨R,hR⟩:∃R,Fl.ou ls f p=R:=⟨_,rfl⟩;rw[hR]at HR ⊢;generalize Fl.nx (ls.getD p .z) p=N at hcon HN HR;have lX:(len:Int)<=300:=by{omega};have rC:(p:Int)<(len:Int):=by{omega};clear hs ho hf hl hR hlen;go_enter Try.func31,Try.ntmps31;go_wp2_with fail;refine hcon.mono ?_;rintro e w2 ⟨gn,mn,cn,rfl,hon,hB2⟩;dsimp only;have hgn:=hon.lt;have hcn:=hon.cap;have lU:=ae hon.1;have HC:Hid (∀j,j<mn->w2.cell? ⟨gn,j,none⟩=some (.int .i64 (N.getD j 0))):=fun j hj=>hon.cell hj;have HI:Hid (∀j,j<len->w2.cell? ⟨g,j,none⟩=some (.int .i64 ((f.getD j 0:Nat):Int))):=fun j hj=>by{rw[←mh];exact(HO.out.kept hB2).cell hj};clear hcon hon;have hmx:mn<=9223372036854775807:=by{unfold maxLen at hcn;omega};go_wp2;go_loopw [7,9] (fun vx vi wr=>∃(k:Nat)(q:Nat),vx= .int .i64 (q:Int)/\vi= .int .i64 (k:Int)/\k<=mn/\Hid (q=Fl.js f (N.take k))/\w2=wr) (fun _ i _=>mn-(intOf i).toNat);(case atStart=>exact⟨0,0,rfl,rfl,Nat.zero_le _,(by show _=_;simp[Fl.js]),rfl⟩);case round=>obtain⟨k,q,rfl,rfl,hk,HQ,aM⟩:=hrel;subst aM;by_cases hlt:k<mn;{have aP:(k:Int)<(mn:Int):=by{omega};have hc:=HC.out k hlt;have hkl:k<N.length:=by{rw[lU.out];exact hlt};have hj:=HN.out (N.getD k 0) (by rw[af,ah hkl];exact List.getElem_mem hkl);have HS:=ae (Fl.mK (f:=f) hkl);rw[←HQ.out]at HS;have rD:Hid (q<2 ^ 40):=by{show _<_;rw[HQ.out];exact Fl.gY HF.out _};obtain⟨y,hy⟩:∃y,N.getD k 0=y:=⟨_,rfl⟩;rw[hy]at hc hj HS;clear hy hkl;obtain⟨j,rfl⟩:=Int.eq_ofNat_of_zero_le hj.1;rw[ax]at HS;have hjl:j<len:=by{omega};have yU:(j:Int)<(len:Int):=hj.2;have hi:=HI.out j hjl;have HZ:=ae (HF.out j);obtain⟨z,hz⟩:∃z,f.getD j 0=z:=⟨_,rfl⟩;rw[hz]at hi HS HZ;have hor:bits .or .i64 (q:Int) (z:Int)=((q|||z:Nat):Int):=tH rD.out HZ.out;clear hz hj;go_wp2;go_roundw;(case rel=>exact⟨k+1,q|||z,rfl,by simp,hlt,(by show _=_;rw[HS.out]),by simp⟩);case measure=>simp[intOf];omega};have hke:k=mn:=by{omega};have HE:Hid (q=R):=by{show _=_;rw[HQ.out,HR.out,hke,←lU.out,List.take_length]};clear HQ;have aP:¬(k:Int)<(mn:Int):=by{omega};clear hke;go_wp2;go_ret;exact⟨by rw[←HE.out]<;>rfl,hB2⟩
namespace Ln
theorem kP (l:List Int):∀k,(aT (l.take k)).length<=k
 |0=>by simp[aT]
 | k +1=>by
   have ih:=kP l k
   rw[List.take_add_one]
   rcases h:l[k]? with _|y
   · simp only[Option.toList_none,List.append_nil]
     omega
   · simp only[Option.toList_some,fI]
     have:=qF (aT (l.take k)) y
     omega
theorem fH {l:List Int}{k:Nat}(hk:k<l.length):aT (l.take (k+1))=put (aT (l.take k)) (l.getD k 0):=by rw[List.take_add_one,ah hk,af,ah hk];simp only[Option.toList_some,Option.getD_some];exact fI _ _
end Ln
theorem fU (x:Ln)(la:Option Addr)(ln lc:Nat)(w:World):Calls Try.prog 32 #[.agg #[.int .i64 x.k, .int .i64 x.d, .int .i64 x.a, .int .i64 x.b, .int .i64 x.n, .slice la ln lc]] w fun e w'=>e= .returned (.int .i64 (Ln.st x))/\Below w.heap.size w w':=by obtain⟨k,d,a,b,n,l⟩:=x;simp only;have hB:=ay w (.cells #[.int .i64 k, .int .i64 d, .int .i64 a, .int .i64 b, .int .i64 n, .slice la ln lc] 44);by_cases hq:k=1\/k=2\/k=3\/k=4\/k=7\/k=8;{have e:Ln.st ⟨k,d,a,b,n,l⟩=d:=by{unfold Ln.st;rw[av hq]};rw[e];clear e;rcases hq with rfl|rfl|rfl|rfl|rfl|rfl;all_goals go_enter Try.func32,Try.ntmps32;go_wp2;go_ret;exact⟨rfl,hB⟩};have e:Ln.st ⟨k,d,a,b,n,l⟩=-1:=by{unfold Ln.st;rw[au hq]};rw[e];clear e;have k1:(k==1)=false:=by{simp;omega};have k2:(k==2)=false:=by{simp;omega};have k3:(k==3)=false:=by{simp;omega};have k4:(k==4)=false:=by{simp;omega};have k7:(k==7)=false:=by{simp;omega};have k8:(k==8)=false:=by{simp;omega};clear hq;go_enter Try.func32,Try.ntmps32;go_wp2;go_ret;exact⟨rfl,hB⟩
theorem jY (x:Ln)(la:Option Addr)(ln lc:Nat)(w:World)(hs:IL w la ln x.l)(h3:ln<=3):Calls Try.prog 42 #[.agg #[.int .i64 x.k, .int .i64 x.d, .int .i64 x.a, .int .i64 x.b, .int .i64 x.n, .slice la ln lc]] w fun e w'=>∃g m c,e= .returned (.slice (some ⟨g,0,none⟩) m c)/\OG w' w.heap.size g m c (Ln.us x)/\Below w.heap.size w w':=by obtain⟨k,d,a,b,n,l⟩:=x;simp only at hs ⊢;have hB:=ay w (.cells #[.int .i64 k, .int .i64 d, .int .i64 a, .int .i64 b, .int .i64 n, .slice la ln lc] 44);by_cases hq:k=2\/k=4\/k=6\/k=8\/k=10;{have e:Ln.us ⟨k,d,a,b,n,l⟩=[a]:=by{unfold Ln.us;rw[av hq]};rw[e];have ho:=OG.one _ w.heap.size hB.size a;have hBx:=hB.trans ((ay _ (.cells #[.int .i64 a] 2)).mono hB.size);simp only[World.size_alloc]at ho;clear e hs;rcases hq with rfl|rfl|rfl|rfl|rfl;all_goals go_enter Try.func42,Try.ntmps42;go_wp2;go_ret;exact⟨_,1,1,rfl,ho,hBx⟩};by_cases hq2:k=3\/k=9;{have e:Ln.us ⟨k,d,a,b,n,l⟩=Ln.put [a] b:=by{unfold Ln.us;rw[au hq,av hq2]};rw[e];clear e hs hq;have ho:=OG.one _ w.heap.size hB.size a;have hBx:=hB.trans ((ay _ (.cells #[.int .i64 a] 2)).mono hB.size);simp only[World.size_alloc]at ho;have hcon:=ed w.heap.size _ 1 1 [a] b (by omega) _ hBx.size ho;clear hB ho;rcases hq2 with rfl|rfl;all_goals go_enter Try.func42,Try.ntmps42;go_wp2_with fail;refine hcon.mono ?_;rintro e w2 ⟨g,m,c,rfl,ho2,hB2⟩;dsimp only;have HF:=ae (aj ho2 (hBx.trans (hB2.mono hBx.size)));clear ho2 hBx hB2 hcon;go_wp2;go_ret;exact⟨g,m,c,rfl,HF.out.1,HF.out.2⟩};have e:Ln.us ⟨k,d,a,b,n,l⟩=Ln.aT l:=by{unfold Ln.us;rw[au hq,au hq2]};rw[e];have k2:(k==2)=false:=by{simp;omega};have k4:(k==4)=false:=by{simp;omega};have k6:(k==6)=false:=by{simp;omega};have k8:(k==8)=false:=by{simp;omega};have k10:(k==10)=false:=by{simp;omega};have k3:(k==3)=false:=by{simp;omega};have k9:(k==9)=false:=by{simp;omega};clear e hq hq2;have hA1:dW (w.alloc (.cells #[.int .i64 k, .int .i64 d, .int .i64 a, .int .i64 b, .int .i64 n, .slice la ln lc] 44)) w.heap.size 44 [.int .i64 k, .int .i64 d, .int .i64 a, .int .i64 b, .int .i64 n, .slice la ln lc]:=heap_alloc_last w _;have hs1:=hs.kept hB;obtain⟨W1,hW1⟩:∃X,w.alloc (.cells #[.int .i64 k, .int .i64 d, .int .i64 a, .int .i64 b, .int .i64 n, .slice la ln lc] 44)=X:=⟨_,rfl⟩;rw[hW1]at hA1 hs1 hB;have hE:=OG.empty W1 W1.heap.size (Nat.le_refl _);have xW:=ay W1 (.cells #[] 2);have HL:=ae hs.1;have Bq:w.heap.size<=W1.heap.size:=hB.size;clear hs;go_enter Try.func42,Try.ntmps42;have c0:=hA1.cell (j:=0) rfl;go_wp2;go_loopw [3,4] (fun v i wr=>∃kk g m c:Nat,v= .slice (some ⟨g,0,none⟩) m c/\i= .int .i64 kk/\kk<=ln/\m<=kk/\OG wr W1.heap.size g m c (Ln.aT (l.take kk))/\Below W1.heap.size W1 wr) (fun _ i _=>ln-(intOf i).toNat);(case atStart=>exact⟨0,_,0,0,rfl,rfl,Nat.zero_le _,Nat.le_refl _,by simpa[Ln.aT]using hE,xW⟩);case round=>obtain⟨kk,g,m,c,rfl,rfl,hk,hm,ho,hBr⟩:=hrel;have hAr:=hA1.kept hBr;have c5:=hAr.cell (j:=5) rfl;have dY:=hs1.kept hBr;clear hE xW c0 hA1 hs1;by_cases hlt:kk<ln;{have aP:(kk:Int)<(ln:Int):=by{omega};obtain⟨-,-,h0|⟨lb,lo,rfl,hlb,hx⟩⟩:=dY;{omega};have hc:=hx kk hlt;have hcon:=ed W1.heap.size g m c (Ln.aT (l.take kk)) (l.getD kk 0) (by omega) wr hBr.size ho;have HP:=ae (Ln.fH (l:=l) (k:=kk) (by rw[HL.out];exact hlt));rw[←HP.out]at hcon;have Aa:=ae (Ln.kP l (kk+1));obtain⟨y,hy⟩:∃y,l.getD kk 0=y:=⟨_,rfl⟩;rw[hy]at hc hcon;clear hx hy ho HP;go_wp2_with fail;refine hcon.mono ?_;rintro e w2 ⟨g2,m2,c2,rfl,ho2,hB2⟩;dsimp only;have hm2:m2<=kk+1:=by{have:=Aa.out;rw[ho2.1]at this;exact this};have HF:=ae (aj ho2 (hBr.trans (hB2.mono hBr.size)));clear hcon ho2 hB2 Aa;go_wp2;go_roundw;(case rel=>exact⟨kk+1,g2,m2,c2,rfl,by simp,hlt,hm2,HF.out.1,HF.out.2⟩);case measure=>simp[intOf];omega};have hke:kk=ln:=by{omega};have HF:Hid (OG wr w.heap.size g m c (Ln.aT l)/\Below w.heap.size w wr):=⟨by have:=ho.mono Bq;rwa [hke,←HL.out,List.take_length]at this,hB.trans (hBr.mono hB.size)⟩;clear ho dY;have aP:¬(kk:Int)<(ln:Int):=by{omega};clear hke;go_wp2;go_ret;exact⟨g,m,c,rfl,HF.out.1,HF.out.2⟩
theorem yu {n m:Nat}(hn:n<2 ^ 40)(hm:m<2 ^ 40):bits .andNot .i64 n m=((Fl.an n m:Nat):Int):=by have hx:Fl.an n m<2 ^ 40:=Fl.iZ hn;have e:(BitVec.ofInt 64 (n:Int)&&& ~~~BitVec.ofInt 64 (m:Int)).toNat=Fl.an n m:=by{rw[BitVec.toNat_and,BitVec.toNat_not,BitVec.ofInt_natCast,BitVec.ofInt_natCast,BitVec.toNat_ofNat,BitVec.toNat_ofNat,Nat.mod_eq_of_lt (by omega),Nat.mod_eq_of_lt (by omega)];refine Nat.eq_of_testBit_eq fun k=>?_;rw[Nat.testBit_and,Fl.fF,Nat.sub_sub,Nat.add_comm,Nat.testBit_two_pow_sub_succ (by omega)];by_cases h:k<64;{simp[h]};rw[Nat.testBit_lt_two_pow (ai hn (Nat.pow_le_pow_right (by decide) (by omega)))];rfl};show IntKind.i64.wrap ((BitVec.ofInt 64 (n:Int)&&& ~~~BitVec.ofInt 64 (m:Int)).toNat:Int)=_;rw[e];exact zP _ (by omega) (by omega)
theorem qE {j:Nat}(hj:j<=39):wrap64 ((2:Int) ^ j)=((2 ^ j:Nat):Int)/\(2:Nat) ^ j<2 ^ 40:=by have h:(2:Nat) ^ j<2 ^ 40:=Nat.pow_lt_pow_right (by decide) (by omega);refine⟨?_,h⟩;have e:(2:Int) ^ j=((2 ^ j:Nat):Int):=by{simp};rw[e];generalize(2:Nat) ^ j=m at h ⊢;exact IntWalk.wrap64_in _ (by omega)
theorem vX {n j:Nat}(hn:n<2 ^ 40)(hj:j<=39):bits .andNot .i64 (n:Int) (wrap64 (2 ^ j))=((Fl.an n (2 ^ j):Nat):Int):=by rw[(qE hj).1,yu hn (qE hj).2]
theorem sI {n j:Nat}(hn:n<2 ^ 40)(hj:j<=39):bits .or .i64 (n:Int) (wrap64 (2 ^ j))=((n|||2 ^ j:Nat):Int):=by rw[(qE hj).1,tH hn (qE hj).2]
theorem qR (n:Nat):nz (List.replicate n 0)=List.replicate n 0:=by simp[nz]
theorem jA (a:Option Addr) (len cap:Nat) (ls:List Ln) (hok:Ln.isOk ls=true) (w:World) (hs:LL w a len ls):Calls Try.prog 30 #[.slice a len cap] w fun e w'=>∃g c,e= .returned (.slice (some ⟨g,0,none⟩) len c)/\OG w' w.heap.size g len c (nz (Fl.live ls))/\Below w.heap.size w w':=by
 have hl:=hs.1
 have hlen:=Ln.bi hok
 rw[hl]at hlen
 obtain⟨i0,hi,hz0,hz1,hz2⟩:=info_parts eY
 obtain⟨wm,hmk,hown,hgrow⟩:=run_make_full (P:=Try.prog) w w.heap.size 23 2 i0 _ 1 Try.underlying23 hi hz0 hz1 .i64 .i64 len (by rw[hz2];omega) (by simp only[maxLen];omega) (Nat.le_refl _)
 have hBm:Below w.heap.size w wm:=⟨hgrow.os,hgrow.tape,hgrow.output,hgrow.size,fun k hk=>hgrow.block k hk (by simp)⟩
 have hown0:OG wm w.heap.size w.heap.size len len (nz (List.replicate ls.length 0)):=by have e:(madeCells (Value.int .i64 0).cells (len*1)).toList=List.replicate (len*1) (iv 0):=toList_madeCells_one _ _;rw[e,Nat.mul_one]at hown;refine⟨by rw[ig,List.length_replicate,hl],?_⟩;rw[qR,List.map_replicate,hl];exact hown
 obtain⟨M,hM⟩:∃M,∀f,Fl.In ls f->f.sum<=M:=⟨_,fun f h=>h.sum⟩
 have HM:=ae hM
 have bU:=ae hok
 have HL:=ae hl
 have lX:(len:Int)<=300:=by omega
 have hl1:(1:Int)<=(len:Int):=by omega
 have HS:=ae hs
 have HB0:=ae hBm
 have Ab:=ae hown0
 have HI0:=ae (Fl.In.zero ls)
 clear hown hgrow hs hl hok hM hlen hBm hown0
 go_enter Try.func30,Try.ntmps30
 go_wp2
 go_loopg [4] (M+1) (fun gk va wr=>∃(ag:Bool)(f:List Nat),va= .bool ag/\gk=M-f.sum+(if ag=true then 1 else 0)/\Hid (Fl.In ls f/\Fl.Sound ls f)/\Hid (ag=false->Fl.Fix ls f)/\OG wr w.heap.size w.heap.size len len (nz f)/\Below w.heap.size w wr)
 case atStart=>exact⟨true,_,rfl,by simp,⟨HI0.out,Fl.Sound.zero ls⟩,(fun h=>by cases h),Ab.out,HB0.out⟩
 case round=>
  obtain⟨ag,f,rfl,kT,HI,HX,ho,hB⟩:=hrel
  cases ag with
  |false=>
   have HE:Hid (OG wr w.heap.size w.heap.size len len (nz (Fl.live ls))/\Below w.heap.size w wr):=by have h:=HI.out;refine⟨?_,hB⟩;rw[←Fl.jU bU.out h.1 h.2 (HX.out rfl)];exact ho
   clear ho HX HI
   go_wp2
   go_ret
   exact⟨_,len,rfl,HE.out.1,HE.out.2⟩
  | true=>
   have HO:=ae ho
   have HB:=ae hB
   have hwr:=hB.size
   have Br:gk=M-f.sum+1:=by simpa using kT
   clear ho hB HX Ab kT
   go_wp2
   go_loopg [4,5] len (fun gj va vi wx=>∃(ag:Bool)(f':List Nat),va= .bool ag/\vi= .int .i64 ((gj:Int)-1)/\gj<=len/\Hid (Fl.In ls f'/\Fl.Sound ls f')/\Hid (ag=false->f'=f/\∀i,gj<=i->i<len->Fl.dh ls f i=f.getD i 0)/\Hid (ag=true->f.sum<f'.sum)/\OG wx w.heap.size w.heap.size len len (nz f')/\Below w.heap.size w wx)
   case atStart=>exact⟨false,f,rfl,rfl,Nat.le_refl _,HI,(fun _=>⟨rfl,fun i h1 h2=>by omega⟩),(fun h=>by cases h),HO.out,HB.out⟩
   case round=>
    obtain⟨ag,f',rfl,rfl,hgj,iH,sM,wR,ho,hB⟩:=hrel
    rcases gk with _|p
    · have hN:¬((0:Nat):Int)-1≥0:=by omega
      have aM:=hB.size
      have bT:=ae (aj ho hB)
      clear ho hB
      go_wp2
      go_roundg (M-f'.sum+(if ag=true then 1 else 0))
      case measure=>
       have h1:=HM.out _ iH.out.1
       have h2:=HM.out _ HI.out.1
       cases ag with
       |false=>
        have h3:=(sM.out rfl).1
        subst h3
        simp
       |true=>
        have h3:=wR.out rfl
        simp
        omega
      case rel=>refine⟨ag,f',rfl,rfl,iH,(fun h=>?_),bT.out.1,bT.out.2⟩;have h3:=sM.out h;have h4:=h3.1;subst h4;intro i hi;exact h3.2 i (Nat.zero_le _) (by rw[←HL.out];exact hi)
    · have hp:p<len:=by{omega};have hY:((p:Int)≥0):=by{omega};have rC:(p:Int)<(len:Int):=by{omega};have uz:=HS.out.kept hB;have iw:=fT a len cap ls bU.out p hp f' iH.out.1.lt w.heap.size w.heap.size len wr uz ho;have hlt:=ho.lt;have e5:(((p+1:Nat):Int)-1)=(p:Int):=by{omega};rw[e5];have xX:=ae (aj ho hB);obtain⟨b,off,rfl,hb,hc⟩:=uz.at hp;have iy:=Ln.di bU.out (i:=p) (by rw[HL.out];exact hp);have HST:Hid (Fl.dh ls f' p=Fl.um (ls.getD p .z)|||Fl.an (Fl.ou ls f' p) (Fl.sm (ls.getD p .z))):=rfl;have HX0:Hid (Fl.ou ls f' p<2 ^ 40):=Fl.gY iH.out.1.lt _;obtain⟨x,hx⟩:∃x,ls.getD p .z=x:=⟨_,rfl⟩;rw[hx]at hc iy HST;obtain⟨X0,hX0⟩:∃X0,Fl.ou ls f' p=X0:=⟨_,rfl⟩;rw[hX0]at iw HST HX0;clear hx hX0 ho hB uz;have hst:=Ln.ma iy;have xY:=ae (Ln.pG iy);have h3:=Ln.gP iy;obtain⟨c0,c1,c2,c3,c4,la,ln,lc,c5,hil⟩:=hc;have hl3:ln<=3:=by{have:=hil.1;omega};go_wp2_with fail;refine iw.mono ?_;rintro e w2 ⟨rfl,hB2⟩;dsimp only;have e0:=(hB2.cell (p:=⟨b,off+p*6,none⟩) hb).trans c0;have e1:=(hB2.cell (p:=⟨b,off+p*6+1,none⟩) hb).trans c1;have e2:=(hB2.cell (p:=⟨b,off+p*6+2,none⟩) hb).trans c2;have e3:=(hB2.cell (p:=⟨b,off+p*6+3,none⟩) hb).trans c3;have e4:=(hB2.cell (p:=⟨b,off+p*6+4,none⟩) hb).trans c4;have e5:=(hB2.cell (p:=⟨b,off+p*6+5,none⟩) hb).trans c5;have nS:=hil.kept hB2;have aY:=fU x la ln lc w2;have bT:Hid (OG w2 w.heap.size w.heap.size len len (nz f')/\Below w.heap.size w w2):=⟨xX.out.1.kept hB2,xX.out.2.trans (hB2.mono xX.out.2.size)⟩;have hb2:=ai hb hB2.size;clear iw c0 c1 c2 c3 c4 c5 hil hB2 xX;go_wp2_with fail;refine aY.mono ?_;rintro e w3 ⟨rfl,hB3⟩;dsimp only;have c0:=(hB3.cell (p:=⟨b,off+p*6,none⟩) hb2).trans e0;have c1:=(hB3.cell (p:=⟨b,off+p*6+1,none⟩) hb2).trans e1;have c2:=(hB3.cell (p:=⟨b,off+p*6+2,none⟩) hb2).trans e2;have c3:=(hB3.cell (p:=⟨b,off+p*6+3,none⟩) hb2).trans e3;have c4:=(hB3.cell (p:=⟨b,off+p*6+4,none⟩) hb2).trans e4;have c5:=(hB3.cell (p:=⟨b,off+p*6+5,none⟩) hb2).trans e5;have uA:=nS.kept hB3;have bQ:=jY x la ln lc w3 uA hl3;have gF:Hid (OG w3 w.heap.size w.heap.size len len (nz f')/\Below w.heap.size w w3):=⟨bT.out.1.kept hB3,bT.out.2.trans (hB3.mono bT.out.2.size)⟩;clear aY e0 e1 e2 e3 e4 e5 nS hB3 bT hb2;have wS:Hid (Fl.sm x=if 0<=Ln.st x then 2 ^ (Ln.st x).toNat else 0):=rfl;obtain⟨d,hd⟩:∃d,Ln.st x=d:=⟨_,rfl⟩;rw[hd]at hst wS ⊢;clear hd;by_cases hd0:0<=d;{obtain⟨j,rfl⟩:=Int.eq_ofNat_of_zero_le hd0;have hj:(j:Int)<=39:=hst.2;have hA:bits .andNot .i64 (X0:Int) (wrap64 (2 ^ j))=((Fl.an X0 (2 ^ j):Nat):Int):=vX HX0.out (by omega);obtain⟨q0,hq0⟩:∃q0,Fl.an X0 (2 ^ j)=q0:=⟨_,rfl⟩;have yV:Hid (Fl.an X0 (Fl.sm x)=q0):=by{show _=_;rw[wS.out,av hd0,ax];exact hq0};have yX:Hid (q0<2 ^ 40):=by{show _<_;rw[←hq0];exact Fl.iZ HX0.out};rw[hq0]at hA;clear hq0;go_wp2_with fail;refine bQ.mono ?_;rintro e w4 ⟨gu,mu,cu,rfl,hou,hB4⟩;dsimp only;have hgu:=hou.lt;have yY:=hou.cap;have lU:=ae hou.1;have HC:Hid (∀k,k<mu->w4.cell? ⟨gu,k,none⟩=some (.int .i64 ((Ln.us x).getD k 0))):=fun k hk=>hou.cell hk;have dC:Hid (OG w4 w.heap.size w.heap.size len len (nz f')/\Below w.heap.size w w4):=⟨gF.out.1.kept hB4,gF.out.2.trans (hB4.mono gF.out.2.size)⟩;have hmx:mu<=9223372036854775807:=by{unfold maxLen at yY;omega};clear bQ hou hB4 gF uA c0 c1 c2 c3 c4 c5;go_wp2;go_loopg [6,9] mu (fun gz vx vk wy=>∃(k q:Nat),gz=mu-k/\k<=mu/\vx= .int .i64 (q:Int)/\vk= .int .i64 (k:Int)/\Hid (q=q0|||Fl.mk ((Ln.us x).take k))/\w4=wy);(case atStart=>exact⟨0,q0,by omega,Nat.zero_le _,rfl,rfl,(by show _=_;simp[Fl.mk]),rfl⟩);case round=>obtain⟨k,q,hgz,hk,rfl,rfl,HQ,aM⟩:=hrel;subst aM;by_cases hlt2:k<mu;{have aP:(k:Int)<(mu:Int):=by{omega};have hkl:k<(Ln.us x).length:=by{rw[lU.out];exact hlt2};have hc:=HC.out k hlt2;have hy:=xY.out ((Ln.us x).getD k 0) (by rw[af,ah hkl];exact List.getElem_mem hkl);have HS2:Hid (q0|||Fl.mk ((Ln.us x).take (k+1))=q|||2 ^ ((Ln.us x).getD k 0).toNat):=by{show _=_;rw[Fl.jh hkl,←Nat.or_assoc,←HQ.out]};have rD:Hid (q<2 ^ 40):=by{show _<_;rw[HQ.out];exact Nat.or_lt_two_pow yX.out (Fl.kN fun y hy=>xY.out y (List.mem_of_mem_take hy))};obtain⟨y,pY⟩:∃y,(Ln.us x).getD k 0=y:=⟨_,rfl⟩;rw[pY]at hc hy HS2;clear pY hkl;obtain⟨j2,rfl⟩:=Int.eq_ofNat_of_zero_le hy.1;rw[ax]at HS2;have hj2:(j2:Int)<=39:=hy.2;have hor:bits .or .i64 (q:Int) (wrap64 (2 ^ j2))=((q|||2 ^ j2:Nat):Int):=sI rD.out (by omega);clear hy;go_wp2;go_roundg (mu-(k+1));(case measure=>omega);case rel=>exact⟨k+1,q|||2 ^ j2,rfl,hlt2,rfl,by simp,(by show _=_;rw[HS2.out]),rfl⟩};have hke:k=mu:=by{omega};have HE:Hid (Fl.dh ls f' p=q):=by{show _=_;rw[HST.out,HQ.out,hke,←lU.out,List.take_length,yV.out,Nat.or_comm];rfl};have aP:¬(k:Int)<(mu:Int):=by{omega};have hci:=dC.out.1.cell hp;have hfi:=World.ownsRow.frozenAt dC.out.1.2 p;rw[mh]at hci;obtain⟨z,hz⟩:∃z,f'.getD p 0=z:=⟨_,rfl⟩;rw[hz]at hci;have nR:=dC.out.1.lt;clear HQ hke;by_cases hqz:q=z;{subst hqz;have HZ:=ae hz;clear hz;go_wp2;go_roundg p;(case measure=>omega);case rel=>refine⟨ag,f',rfl,rfl,by omega,iH,(fun h=>?_),wR,dC.out.1,dC.out.2⟩;have h1:=sM.out h;refine⟨h1.1,fun i h2 h3=>?_⟩;by_cases yZ:i=p;{subst yZ;rw[←h1.1,HE.out,HZ.out]};exact h1.2 i (by omega) h3};have hnq:((q:Int)==(z:Int))=false:=by{simp;omega};have wT:Hid (Fl.dh ls f' p≠f'.getD p 0):=by{show _≠_;rw[HE.out,hz];exact hqz};have lY:=(dC.out.1.2.stored p (.int .i64 (q:Int))).1;rw[←bz,←oD]at lY;have nZ:Hid (OG (w4.setCell ⟨w.heap.size,p,none⟩ (.int .i64 (q:Int))) w.heap.size w.heap.size len len (nz (f'.set p q))/\Below w.heap.size w (w4.setCell ⟨w.heap.size,p,none⟩ (.int .i64 (q:Int)))):=by{refine⟨⟨?_,lY⟩,?_⟩;{rw[ig,List.length_set,←ig];exact dC.out.1.1};exact dC.out.2.setCell (p:=⟨w.heap.size,p,none⟩) (Nat.le_refl _) _};clear lY hz;go_wp2;go_roundg p;(case measure=>omega);case rel=>refine⟨true,f'.set p q,rfl,rfl,by omega,?_,(fun h=>by cases h),(fun _=>?_),nZ.out.1,nZ.out.2⟩;{have h1:=iH.out.1.set bU.out (i:=p) (by rw[HL.out];exact hp);have h2:=iH.out.2.set bU.out (i:=p) (by rw[HL.out];exact hp);rw[HE.out]at h1 h2;exact⟨h1,h2⟩};have h1:=iH.out.1.more (i:=p) (by rw[HL.out];exact hp) wT.out;rw[HE.out]at h1;rcases ag with _|_;{rw[(sM.out rfl).1]at h1;rw[(sM.out rfl).1];exact h1};exact Nat.lt_trans (wR.out rfl) h1};obtain⟨q0,hq0⟩:∃q0,q0=X0:=⟨_,rfl⟩;have yV:Hid (Fl.an X0 (Fl.sm x)=q0):=by{show _=_;rw[wS.out,au hd0,hq0];refine Nat.eq_of_testBit_eq fun k=>?_;rw[Fl.fF];simp};have yX:Hid (q0<2 ^ 40):=by{show _<_;rw[hq0];exact HX0.out};subst hq0;go_wp2_with fail;refine bQ.mono ?_;rintro e w4 ⟨gu,mu,cu,rfl,hou,hB4⟩;dsimp only;have hgu:=hou.lt;have yY:=hou.cap;have lU:=ae hou.1;have HC:Hid (∀k,k<mu->w4.cell? ⟨gu,k,none⟩=some (.int .i64 ((Ln.us x).getD k 0))):=fun k hk=>hou.cell hk;have dC:Hid (OG w4 w.heap.size w.heap.size len len (nz f')/\Below w.heap.size w w4):=⟨gF.out.1.kept hB4,gF.out.2.trans (hB4.mono gF.out.2.size)⟩;have hmx:mu<=9223372036854775807:=by{unfold maxLen at yY;omega};clear bQ hou hB4 gF uA c0 c1 c2 c3 c4 c5;go_wp2;go_loopg [6,9] mu (fun gz vx vk wy=>∃(k q:Nat),gz=mu-k/\k<=mu/\vx= .int .i64 (q:Int)/\vk= .int .i64 (k:Int)/\Hid (q=q0|||Fl.mk ((Ln.us x).take k))/\w4=wy);(case atStart=>exact⟨0,q0,by omega,Nat.zero_le _,rfl,rfl,(by show _=_;simp[Fl.mk]),rfl⟩);case round=>obtain⟨k,q,hgz,hk,rfl,rfl,HQ,aM⟩:=hrel;subst aM;by_cases hlt2:k<mu;{have aP:(k:Int)<(mu:Int):=by{omega};have hkl:k<(Ln.us x).length:=by{rw[lU.out];exact hlt2};have hc:=HC.out k hlt2;have hy:=xY.out ((Ln.us x).getD k 0) (by rw[af,ah hkl];exact List.getElem_mem hkl);have HS2:Hid (q0|||Fl.mk ((Ln.us x).take (k+1))=q|||2 ^ ((Ln.us x).getD k 0).toNat):=by{show _=_;rw[Fl.jh hkl,←Nat.or_assoc,←HQ.out]};have rD:Hid (q<2 ^ 40):=by{show _<_;rw[HQ.out];exact Nat.or_lt_two_pow yX.out (Fl.kN fun y hy=>xY.out y (List.mem_of_mem_take hy))};obtain⟨y,pY⟩:∃y,(Ln.us x).getD k 0=y:=⟨_,rfl⟩;rw[pY]at hc hy HS2;clear pY hkl;obtain⟨j2,rfl⟩:=Int.eq_ofNat_of_zero_le hy.1;rw[ax]at HS2;have hj2:(j2:Int)<=39:=hy.2;have hor:bits .or .i64 (q:Int) (wrap64 (2 ^ j2))=((q|||2 ^ j2:Nat):Int):=sI rD.out (by omega);clear hy;go_wp2;go_roundg (mu-(k+1));(case measure=>omega);case rel=>exact⟨k+1,q|||2 ^ j2,rfl,hlt2,rfl,by simp,(by show _=_;rw[HS2.out]),rfl⟩};have hke:k=mu:=by{omega};have HE:Hid (Fl.dh ls f' p=q):=by{show _=_;rw[HST.out,HQ.out,hke,←lU.out,List.take_length,yV.out,Nat.or_comm];rfl};have aP:¬(k:Int)<(mu:Int):=by{omega};have hci:=dC.out.1.cell hp;have hfi:=World.ownsRow.frozenAt dC.out.1.2 p;rw[mh]at hci;obtain⟨z,hz⟩:∃z,f'.getD p 0=z:=⟨_,rfl⟩;rw[hz]at hci;have nR:=dC.out.1.lt;clear HQ hke;by_cases hqz:q=z;{subst hqz;have HZ:=ae hz;clear hz;go_wp2;go_roundg p;(case measure=>omega);case rel=>refine⟨ag,f',rfl,rfl,by omega,iH,(fun h=>?_),wR,dC.out.1,dC.out.2⟩;have h1:=sM.out h;refine⟨h1.1,fun i h2 h3=>?_⟩;by_cases yZ:i=p;{subst yZ;rw[←h1.1,HE.out,HZ.out]};exact h1.2 i (by omega) h3};have hnq:((q:Int)==(z:Int))=false:=by{simp;omega};have wT:Hid (Fl.dh ls f' p≠f'.getD p 0):=by{show _≠_;rw[HE.out,hz];exact hqz};have lY:=(dC.out.1.2.stored p (.int .i64 (q:Int))).1;rw[←bz,←oD]at lY;have nZ:Hid (OG (w4.setCell ⟨w.heap.size,p,none⟩ (.int .i64 (q:Int))) w.heap.size w.heap.size len len (nz (f'.set p q))/\Below w.heap.size w (w4.setCell ⟨w.heap.size,p,none⟩ (.int .i64 (q:Int)))):=by{refine⟨⟨?_,lY⟩,?_⟩;{rw[ig,List.length_set,←ig];exact dC.out.1.1};exact dC.out.2.setCell (p:=⟨w.heap.size,p,none⟩) (Nat.le_refl _) _};clear lY hz;go_wp2;go_roundg p;(case measure=>omega);case rel=>refine⟨true,f'.set p q,rfl,rfl,by omega,?_,(fun h=>by cases h),(fun _=>?_),nZ.out.1,nZ.out.2⟩;{have h1:=iH.out.1.set bU.out (i:=p) (by rw[HL.out];exact hp);have h2:=iH.out.2.set bU.out (i:=p) (by rw[HL.out];exact hp);rw[HE.out]at h1 h2;exact⟨h1,h2⟩};have h1:=iH.out.1.more (i:=p) (by rw[HL.out];exact hp) wT.out;rw[HE.out]at h1;rcases ag with _|_;{rw[(sM.out rfl).1]at h1;rw[(sM.out rfl).1];exact h1};exact Nat.lt_trans (wR.out rfl) h1
end Go.Proofs.Ytpipjiinmhopmaa
