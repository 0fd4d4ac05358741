/-
  Own texts for a law: SlOf Arr0 Mem1 Lin3 Fs1 Fs3 Lin4 Fi0 RowsB
-/
import Derived.Test.YtghjooipkofodabKT05
import Derived.Deep.SlicePairs
import Derived.Deep.WholeRow
import Derived.Stop.BytesEq
import Derived.Laws.CopyOwn
import Derived.Laws.ResultCell
import Derived.Deep.LoopGhost
namespace Go.Proofs.Ytghjooipkofodab
open Go.RowKit Go.Shelf
set_option linter.all false
set_option maxRecDepth 100000
set_option maxHeartbeats 16000000
section
open Go.ChangeShapes Go.WideShapes Go.ChangeAt Go.RowKit Go.Shelf Go.Deep
theorem OI.il {W:World}{n₀:Nat}{a:Option Addr}{n c:Nat}{xs:List Int}(h:OI W n₀ (.slice a n c) xs):n=xs.length/\IL W a n xs:=by obtain⟨a',c',e,hil⟩:=h.slice;simp only[Value.slice.injEq]at e;obtain⟨rfl,rfl,rfl⟩:=e;exact⟨rfl,hil⟩
theorem dP {W W':World}(h:W.grownBy W' none):Below W.heap.size W W':=⟨h.os,h.tape,h.output,h.size,fun k hk=>h.block k hk (by simp)⟩
end
def fA (W:World)(g:Nat)(t:TypeId)(vs:List Value):Prop:=W.heap[g]?=some (.cells vs.toArray t (0,0))
theorem fA.lt {W:World}{g:Nat}{t:TypeId}{vs:List Value}(h:fA W g t vs):g<W.heap.size:=(Array.getElem?_eq_some_iff.1 h).1
theorem fA.cell {W:World}{g:Nat}{t:TypeId}{vs:List Value}(h:fA W g t vs){j:Nat}{v:Value}(hj:vs[j]?=some v):W.cell? ⟨g,j,none⟩=some v:=by rw[cell_of_row W g j _ t _ h];simpa using hj
theorem fA.frozen {W:World}{g:Nat}{t:TypeId}{vs:List Value}(h:fA W g t vs)(j:Nat):W.frozen? ⟨g,j,none⟩=false:=frozen_of_row W g j _ t h
theorem fA.kept {W W':World}{g:Nat}{t:TypeId}{vs:List Value}(h:fA W g t vs)(hB:Below W.heap.size W W'):fA W' g t vs:=(hB.block g h.lt).trans h
theorem fA.cK {W W':World}{g:Nat}{t:TypeId}{vs:List Value}{row:Option Nat}(h:fA W g t vs)(hg:W.grownBy W' row)(hne:some g≠row):fA W' g t vs:=(hg.block g h.lt hne).trans h
theorem fA.set {W:World}{g:Nat}{t:TypeId}{vs:List Value}(h:fA W g t vs)(j:Nat)(v:Value):fA (W.setCell ⟨g,j,none⟩ v) g t (vs.set j v):=by have:=heap_setCell_same W g j vs.toArray t v h;unfold fA;rw[this];simp
theorem fA.row {W:World}{g:Nat}{t:TypeId}{vs:List Value}(h:fA W g t vs)(ws:List Value):fA (W.setRow g ws.toArray) g t ws:=setRow_heap W g _ _ t _ h
theorem aD {w w1 w2:World}{r:Nat}(h:Below w.heap.size w w1)(hg:w1.grownBy w2 (some r))(hr:w.heap.size<=r):Below w.heap.size w w2:=
 ⟨hg.os.trans h.os,hg.tape.trans h.tape,hg.output.trans h.output,Nat.le_trans h.size hg.size,fun k hk=>(hg.block k (aj hk h.size) (by simp only[ne_eq,af];omega)).trans (h.block k hk)⟩
section
variable {P : Program}
variable {C : World → Prop}
end
theorem wT {bs:List Int}:∀v∈bs.map iv,v.oneCell'=true:=by intro v hv;obtain⟨b,_,rfl⟩:=List.mem_map.1 hv;rfl
theorem kQ {f:Int->Value}{bs:List Int}{k:Nat}(h:k<bs.length):(bs.map f)[k]?=some (f (bs.getD k 0)):=by rw[List.getElem?_map,ai h,ah,ai h];rfl
theorem rD {n:Nat}{ys:List Int}{f:Nat->Int}{k:Nat}{p:Int}(h:ys.length=n/\∀j,j<k->ys.getD j 0=f j)(hk:k<n)(hp:f k=p):(ys.set k p).length=n/\∀j,j<k+1->(ys.set k p).getD j 0=f j:=by refine⟨by rw[List.length_set];exact h.1,fun j hj=>?_⟩;by_cases e:j=k;{subst e;rw[ah,List.getElem?_set_self (by omega),hp];rfl};rw[←h.2 j (by omega),ah,List.getElem?_set_ne (by omega),←ah]
theorem rq {n:Nat}{ys bs:List Int}(h:ys.length=n/\∀j,j<n->ys.getD j 0=bs.getD j 0)(hb:bs.length=n):ys=bs:=by apply List.ext_getElem;{rw[h.1,hb]};intro j h1 h2;have:=h.2 j (by omega);simpa[ah,ai h1,ai h2]using this
def OG (W:World)(n₀ g n c:Nat)(xs:List Int):Prop:=xs.length=n/\W.ownsRow n₀ 2 1 (.slice (some ⟨g,0,none⟩) n c) n (xs.map iv)
theorem OG.oi {W:World}{n₀ g n c:Nat}{xs:List Int}(h:OG W n₀ g n c xs):OI W n₀ (.slice (some ⟨g,0,none⟩) n c) xs:=by unfold OI;rw[h.1];exact h.2
theorem OG.lt {W:World}{n₀ g n c:Nat}{xs:List Int}(h:OG W n₀ g n c xs):n₀<=g/\g<W.heap.size:=World.ownsRow.lt h.2 g rfl
theorem OG.cap {W:World}{n₀ g n c:Nat}{xs:List Int}(h:OG W n₀ g n c xs):n<=c/\c<=maxLen:=by rcases h.2.2 with⟨e,-⟩|⟨g',cap,cur,e,hb,hc,hn,hm,-⟩;{cases e};cases e;exact⟨hn,hm⟩
theorem OG.cell {W:World}{n₀ g n c:Nat}{xs:List Int}(h:OG W n₀ g n c xs){j:Nat}(hj:j<n):W.cell? ⟨g,j,none⟩=some (.int .i64 (xs.getD j 0)):=by have hi:=(OI.il h.oi).2;obtain⟨-,-,h0|⟨b,o,e,hb,hx⟩⟩:=hi;{omega};simp only[af,Addr.mk.injEq,and_true]at e;obtain⟨rfl,rfl⟩:=e;have:=hx j hj;rwa [Nat.zero_add]at this
theorem OG.kept {W W':World}{n₀ g n c:Nat}{xs:List Int}(h:OG W n₀ g n c xs)(hB:Below W.heap.size W W'):OG W' n₀ g n c xs:=⟨h.1,aM h.2 hB⟩
theorem OG.cK {W W':World}{n₀ g n c b:Nat}{xs:List Int}(h:OG W n₀ g n c xs)(hg:W.grownBy W' (some b))(hne:g≠b):OG W' n₀ g n c xs:=by refine⟨h.1,World.ownsRow.kept h.2 hg (.inr ?_)⟩;simp only[Value.ownBlock,ne_eq,af];omega
theorem OG.mono {W:World}{n₀ n₁ g n c:Nat}{xs:List Int}(h:OG W n₁ g n c xs)(hn:n₀<=n₁):OG W n₀ g n c xs:=by have:=OI.mono h.oi hn;unfold OI at this;rw[h.1]at this;exact⟨h.1,this⟩
theorem OG.empty (W:World)(n₀:Nat)(hn:n₀<=W.heap.size):OG (W.alloc (.cells #[] 2)) n₀ W.heap.size 0 0 []:=⟨rfl,by simpa[OI]using OI.mono (OI.empty W) hn⟩
theorem OG.one (W:World)(n₀:Nat)(hn:n₀<=W.heap.size)(y:Int):OG (W.alloc (.cells #[.int .i64 y] 2)) n₀ W.heap.size 1 1 [y]:=
 ⟨rfl,rfl, .inr ⟨W.heap.size,1,#[.int .i64 y],rfl,hn,World.alloc_heap_new W _,Nat.le_refl _,by simp[maxLen],rfl,rfl⟩⟩
theorem aT {ops:Array Oper}{rest:List Oper}{o:Oper}{a:Act}{Q:Exit->Act->World->Prop}(W:World)(hgd:o.guard=none)(s x:Operand)(ho:o.op= .call {callee:= .builtin .append,args:=#[s,x],argTypes:=#[24,24]})(n₀ g n c:Nat)(xs:List Int)(hs:a.eval s= .slice (some ⟨g,0,none⟩) n c)(hown:OG W n₀ g n c xs)(sb so m sc:Nat)(ys:List Int)(hx:a.eval x= .slice (some ⟨sb,so,none⟩) m sc)(hym:ys.length=m)(hy:∀j,j<m->W.cell? ⟨sb,so+j,none⟩=some (.int .i64 (ys.getD j 0)))(hsz:n+m<=1048576)(hbase:n₀<=W.heap.size)(h:∀g' c' N W',Hid (N=n+m)->OG W' n₀ g' N c' (xs++ys)->W.grownBy W' (some g)->wpList Try.prog ops Q rest (a.put o.dst (.slice (some ⟨g',0,none⟩) N c')) W'):wpList Try.prog ops Q (o::rest) a W:=by obtain⟨i0,hi,hz0,hz1,hz2⟩:=info_parts fG;refine wpList_append_own W hgd s x 24 ho n₀ 2 i0 (.int .i64 0) 1 8 Try.underlying24 hi hz0 hz1 hz2 rfl (by decide) _ n (xs.map iv) hs hown.2 ⟨sb,so,none⟩ m sc (ys.map iv) hx (by rw[List.length_map,hym,Nat.mul_one]) (fun j u hu=>?_) wT (by simp only[maxLen];omega) (by omega) hbase (fun v' W' hown' hgrow hnn=>?_);{have hj:j<m:=by{have:=(List.getElem?_eq_some_iff.1 hu).1;rwa [List.length_map,hym]at this};rw[kQ (by rw[hym];exact hj)]at hu;cases hu;(have hadd:(⟨sb,so,none⟩:Addr).add j=⟨sb,so+j,none⟩:=by unfold Addr.add;split<;>simp_all);rw[hadd];exact hy j hj};rcases hown'.2 with⟨rfl,h0⟩|⟨g',cap',cur,rfl,r⟩;{exact absurd (hnn.1 rfl).1 (fun e=>by cases e)};refine h g' cap' (n+m) W' rfl ⟨by rw[List.length_append,hown.1,hym],?_⟩ hgrow;rw[List.map_append];exact hown'
theorem eT (n₀ g m c:Nat)(xs:List Int)(n:Int)(hm:m<=1000)(w:World)(hn:n₀<=w.heap.size)(ho:OG w n₀ g m c xs):Calls Try.prog 39 #[.slice (some ⟨g,0,none⟩) m c, .int .i64 n] w fun e w'=>∃g' m' c',e= .returned (.slice (some ⟨g',0,none⟩) m' c')/\OG w' n₀ g' m' c' (Ln.put xs n)/\Below w.heap.size w w':=by
 have hcap:=ho.cap
 have qR:=ho.lt
 have HX:=ae ho.1
 have HC:Hid (∀j,j<m->w.cell? ⟨g,j,none⟩=some (.int .i64 (xs.getD j 0))):=fun j hj=>ho.cell hj
 have HO:=ae ho
 clear ho
 go_enter Try.func39,Try.ntmps39
 go_wp2
 go_loopw [5] (fun i wr=>∃k:Nat,i= .int .i64 k/\k<=m/\Hid (∀j,j<k->xs.getD j 0<n)/\w=wr) (fun i _=>m-(intOf i).toNat)
 case atStart=>exact⟨0,rfl,Nat.zero_le _,(fun j hj=>by omega),rfl⟩
 case round=>
  obtain⟨k,rfl,hk,HL,aF⟩:=hrel
  subst aF
  have fin:Hid (∀(hge:k<m->n<=xs.getD k 0),Ln.put xs n=if k<m/\xs.getD k 0=n then xs else xs.take k++(n::xs.drop k)):=fun hge=>by have:=Ln.rM n xs k (by rw[HX.out];exact hk) HL.out (fun h=>hge (by rw[HX.out]at h;exact h));rw[HX.out]at this;exact this
  have Ev:(k:Int)<=(m:Int):=by omega
  have hkc:(k:Int)<=(c:Int):=by omega
  have Dk:(m:Int)<=(c:Int):=by omega
  have hqq:(k<m/\xs.getD k 0<n)\/(k<m/\xs.getD k 0=n)\/(k<m->n<=xs.getD k 0)/\¬(k<m/\xs.getD k 0=n):=by by_cases h1:k<m;{by_cases h2:xs.getD k 0<n;{exact .inl ⟨h1,h2⟩};by_cases h3:xs.getD k 0=n;{exact .inr (.inl ⟨h1,h3⟩)};exact .inr (.inr ⟨fun _=>by omega,fun h=>h3 h.2⟩)};exact .inr (.inr ⟨fun h=>absurd h h1,fun h=>h1 h.1⟩)
  rcases hqq with⟨hlt,hy⟩|⟨hlt,hy⟩|⟨hge,hno⟩
  · have bL:(k:Int)<(m:Int):=by{omega};have HL2:Hid (∀j,j<k+1->xs.getD j 0<n):=fun j hj=>by{by_cases e:j<k;{exact HL.out j e};obtain rfl:j=k:=by{omega};exact hy};have hc:=HC.out k hlt;obtain⟨y,sN⟩:∃y,xs.getD k 0=y:=⟨_,rfl⟩;rw[sN]at hc hy;clear sN;go_wp2;go_roundw;(case rel=>exact⟨k+1,by simp,hlt,HL2,by simp⟩);case measure=>simp[intOf];omega
  · have bL:(k:Int)<(m:Int):=by{omega};have hc:=HC.out k hlt;have HP:Hid (Ln.put xs n=xs):=by{show _=_;rw[fin.out (fun _=>by omega),ax ⟨hlt,hy⟩]};rw[hy]at hc;clear hy fin HL;have hnn:¬(n<n):=by{omega};have Ew:(n==n)=true:=by{simp};go_wp2;go_ret;exact⟨g,m,c,rfl,by rw[HP.out];exact HO.out,Below.refl _ _⟩
  · have HP:Hid (Ln.put xs n=xs.take k++(n::xs.drop k)):=by show _=_;rw[fin.out hge,av hno]
    clear fin HL
    have hB1:=az w (.cells #[] 2)
    have BX:=ae (OG.empty w w.heap.size (Nat.le_refl _))
    have HB1:=ae hB1
    have hc1:Hid (∀j,j<m-k->(w.alloc (.cells #[] 2)).cell? ⟨g,k+j,none⟩=some (.int .i64 ((xs.drop k).getD j 0))):=fun j hj=>by rw[(hB1.cell (p:=⟨g,k+j,none⟩) qR.2).trans (HC.out (k+j) (by omega)),ah,ah,List.getElem?_drop]
    have hct:Hid (∀j,j<k->xs.getD j 0=(xs.take k).getD j 0):=fun j hj=>by rw[ah,ah,List.getElem?_take_of_lt hj]
    have HD:Hid ((xs.drop k).length=m-k/\(xs.take k).length=k):=⟨by rw[List.length_drop,HX.out],by rw[List.length_take,HX.out];omega⟩
    clear hB1
    have zf:(¬(k:Int)<(m:Int)/\c<=k)\/(¬(k:Int)<(m:Int)/\¬(k=c))\/((k:Int)<(m:Int)/\∃y,w.cell? ⟨g,k,none⟩=some (.int .i64 y)/\¬(y<n)/\(y==n)=false):=by by_cases hlt:k<m;{refine .inr (.inr ⟨by omega,xs.getD k 0,HC.out k hlt,?_,?_⟩);{have:=hge hlt;omega};have:¬(xs.getD k 0=n):=fun e=>hno ⟨hlt,e⟩;simpa using this};by_cases hkc:c<=k;{exact .inl ⟨by omega,hkc⟩};exact .inr (.inl ⟨by omega,by omega⟩)
    clear hge hno
    rcases zf with⟨hlt,hck⟩|⟨hlt,hne⟩|⟨hlt,y,hc,hyn,hyq⟩
    all_goals
     go_wp2_with(first
       |(at_builtin;refine aT _ rfl _ _ rfl w.heap.size _ _ _ [] rfl BX.out g k (m-k) (c-k) (xs.drop k) rfl HD.out.1 hc1.out (by omega) (by simp) ?_;intro g1 c1 N1 w1 hN1 ho1 bP;have hB2:=aD HB1.out bP (Nat.le_refl _);have hal:=az w1 (.cells #[] 2);have HB3:=ae (hB2.trans (hal.mono hB2.size));have HE2:=ae (OG.empty w1 w1.heap.size (Nat.le_refl _));have HR1:=ae (ho1.kept hal);have hsz1:=hB2.size;have hg1:=ho1.lt;have hc2:Hid (∀j,j<k->(w1.alloc (.cells #[] 2)).cell? ⟨g,0+j,none⟩=some (.int .i64 ((xs.take k).getD j 0))):=(fun j hj=>by rw[Nat.zero_add,(HB3.out.cell (p:=⟨g,j,none⟩) qR.2).trans (HC.out j (by omega)),hct.out j hj]);clear hB2 hal ho1 bP)
       |(at_builtin;refine aT _ rfl _ _ rfl w.heap.size _ _ _ [] rfl BX.out g _ _ _ _ rfl HD.out.1 (fun j hj=>absurd hj (by omega)) (by omega) (by simp) ?_;intro g1 c1 N1 w1 hN1 ho1 bP;have hB2:=aD HB1.out bP (Nat.le_refl _);have hal:=az w1 (.cells #[] 2);have HB3:=ae (hB2.trans (hal.mono hB2.size));have HE2:=ae (OG.empty w1 w1.heap.size (Nat.le_refl _));have HR1:=ae (ho1.kept hal);have hsz1:=hB2.size;have hg1:=ho1.lt;have hc2:Hid (∀j,j<k->(w1.alloc (.cells #[] 2)).cell? ⟨g,0+j,none⟩=some (.int .i64 ((xs.take k).getD j 0))):=(fun j hj=>by rw[Nat.zero_add,(HB3.out.cell (p:=⟨g,j,none⟩) qR.2).trans (HC.out j (by omega)),hct.out j hj]);clear hB2 hal ho1 bP)
       |(at_builtin;refine aT _ rfl _ _ rfl w1.heap.size _ _ _ [] rfl HE2.out g 0 _ _ (xs.take _) rfl HD.out.2 hc2.out (by omega) (by simp) ?_;intro g2 c2 N2 w2 BZ ho2 wY;have hB4:=aD HB3.out wY hsz1;have hal:=az w2 (.cells #[.int .i64 n] 2);have Dl:=ae (hB4.trans (hal.mono hB4.size));have HR2:=ae ((HR1.out.cK wY (by omega)).kept hal);have gm:=ae (ho2.kept hal);have hg2:=ho2.lt;have hc3:Hid (∀j,j<1->(w2.alloc (.cells #[.int .i64 n] 2)).cell? ⟨w2.heap.size,0+j,none⟩=some (.int .i64 (([n]:List Int).getD j 0))):=(fun j hj=>by obtain rfl:j=0:=(by omega);exact(OG.one w2 w2.heap.size (Nat.le_refl _) n).cell (j:=0) (by omega));clear hB4 hal ho2 wY HB3 HE2 HR1 hc2)
       |(at_builtin;refine aT _ rfl _ _ rfl w1.heap.size _ _ _ _ rfl gm.out w2.heap.size 0 1 1 [n] rfl rfl hc3.out (by have:=BZ.out;omega) (by simp;omega) ?_;intro g3 c3 N3 w3 wZ ho3 jG;have Ca:=ae (aD Dl.out jG (by omega));have HR3:=ae (HR2.out.cK jG (by omega));have lD:=ae ho3;have xe:=jG.size;have hg3:=ho3.lt;have hc4:Hid (∀j,j<N1->w3.cell? ⟨g1,0+j,none⟩=some (.int .i64 (([]++xs.drop k).getD j 0))):=(fun j hj=>by rw[Nat.zero_add];exact HR3.out.cell hj);clear ho3 jG HR2 gm hc3)
       |(at_builtin;refine aT _ rfl _ _ rfl w1.heap.size _ _ _ _ rfl lD.out g1 0 N1 c1 ([]++xs.drop k) rfl HR3.out.1 hc4.out (by have:=BZ.out;have:=wZ.out;have:=hN1.out;omega) (by simp at xe;omega) ?_;intro g4 c4 N4 w4 Cb nu dU;have AR:=ae (aD Ca.out dU (by omega));have dI:=ae nu;clear nu dU Ca HR3 lD hc4))
     go_ret
     exact⟨g4,N4,c4,rfl,by rw[HP.out];simpa using dI.out.mono (by omega),AR.out⟩
theorem LL.at {w:World}{a:Option Addr}{len:Nat}{ls:List Ln}(h:LL w a len ls){p:Nat}(hp:p<len):∃b off,a=some ⟨b,off,none⟩/\b<w.heap.size/\LC w b (off+p*6) (ls.getD p .z):=by obtain⟨-,-,h0|⟨b,off,rfl,hb,hx⟩⟩:=h;{omega};exact⟨b,off,rfl,hb,hx p hp⟩
theorem jE (a:Option Addr)(len cap:Nat)(ls:List Ln)(p:Nat)(hp:p<len)(hlen:len<=1000)(w:World)(hs:LL w a len ls):Calls Try.prog 37 #[.slice a len cap, .int .i64 (p:Int)] w fun e w'=>∃g m c,e= .returned (.slice (some ⟨g,0,none⟩) m c)/\OG w' w.heap.size g m c (Fl.nx (ls.getD p .z) p)/\Below w.heap.size w w':=by obtain⟨b,off,rfl,hb,hc⟩:=hs.at hp;clear hs;have xg:(p:Int)<(len:Int):=by{omega};have qo:(len:Int)<=1000:=by{omega};obtain⟨x,hx⟩:∃x,ls.getD p .z=x:=⟨_,rfl⟩;rw[hx]at hc ⊢;clear hx;obtain⟨k,d,a',b',n,l⟩:=x;obtain⟨c0,c1,c2,c3,c4,-⟩:=hc;simp only at c0 c1 c2 c3 c4;clear c1 c2 c3;by_cases h5:k=5;{subst h5;have e:Fl.nx ⟨5,d,a',b',n,l⟩ p=[n]:=rfl;rw[e];have ho:=OG.one w w.heap.size (Nat.le_refl _) n;have hB:=az w (.cells #[.int .i64 n] 2);clear e;go_enter Try.func37,Try.ntmps37;go_wp2;go_ret;exact⟨_,1,1,rfl,ho,hB⟩};by_cases h6:k=6;{subst h6;have e:Fl.nx ⟨6,d,a',b',n,l⟩ p=Ln.put [(p:Int)+1] n:=rfl;rw[e];have ho:=OG.one w w.heap.size (Nat.le_refl _) ((p:Int)+1);have hB:=az w (.cells #[.int .i64 ((p:Int)+1)] 2);have hcon:=eT w.heap.size w.heap.size 1 1 [(p:Int)+1] n (by omega) (w.alloc (.cells #[.int .i64 ((p:Int)+1)] 2)) hB.size ho;have HB:=ae hB;clear e ho hB h5;go_enter Try.func37,Try.ntmps37;go_wp2_with(go_at_call 39;refine hcon.mono ?_;rintro e w2 ⟨g,m,c,rfl,ho2,hB2⟩;dsimp only;have HF:=ae (ak ho2 (HB.out.trans (hB2.mono HB.out.size)));clear ho2 hB2 hcon);go_ret;exact⟨g,m,c,rfl,HF.out.1,HF.out.2⟩};have k5:(k==5)=false:=by{simp;omega};have k6:(k==6)=false:=by{simp;omega};by_cases h10:k=10\/k=11;{have e:Fl.nx ⟨k,d,a',b',n,l⟩ p=[]:=by{unfold Fl.nx;rw[av h5,av h6,ax h10]};rw[e];have ho:=OG.empty w w.heap.size (Nat.le_refl _);have hB:=az w (.cells #[] 2);clear e k5 k6 h5 h6;rcases h10 with rfl|rfl;all_goals go_enter Try.func37,Try.ntmps37;go_wp2;go_ret;exact⟨_,0,0,rfl,ho,hB⟩};have e:Fl.nx ⟨k,d,a',b',n,l⟩ p=[(p:Int)+1]:=by{unfold Fl.nx;rw[av h5,av h6,av h10]};rw[e];have k10:(k==10)=false:=by{simp;omega};have k11:(k==11)=false:=by{simp;omega};have ho:=OG.one w w.heap.size (Nat.le_refl _) ((p:Int)+1);have hB:=az w (.cells #[.int .i64 ((p:Int)+1)] 2);clear e h5 h6 h10;go_enter Try.func37,Try.ntmps37;go_wp2;go_ret;exact⟨_,1,1,rfl,ho,hB⟩
theorem gW (a:Option Addr)(len cap:Nat)(ls:List Ln)(p:Int)(w:World)(hs:LL w a len ls):Calls Try.prog 17 #[.slice a len cap, .int .i64 p] w fun e w'=>e= .returned (.bool (Fl.has ls p))/\Below w.heap.size w w':=by have hcon:=j3 a len cap ls w hs;have hl:=hs.1;clear hs;have e:Fl.has ls p=(Ln.isOk ls&&decide (0<=p/\p<(len:Int))):=by{unfold Fl.has;rw[hl]};rw[e];clear e hl;generalize Ln.isOk ls=r at hcon ⊢;rcases r with _|_;{go_enter Try.func17,Try.ntmps17;go_wp2_with fail;refine hcon.mono ?_;rintro e w2 ⟨rfl,hB⟩;dsimp only;clear hcon;go_wp2;go_ret;exact⟨rfl,hB⟩};by_cases h0:0<=p;{by_cases h1:p<(len:Int);{have e:decide (0<=p/\p<(len:Int))=true:=decide_eq_true ⟨h0,h1⟩;rw[e];clear e;go_enter Try.func17,Try.ntmps17;go_wp2_with fail;refine hcon.mono ?_;rintro e w2 ⟨rfl,hB⟩;dsimp only;clear hcon;go_wp2;go_ret;exact⟨rfl,hB⟩};have e:decide (0<=p/\p<(len:Int))=false:=decide_eq_false fun h=>h1 h.2;rw[e];clear e;go_enter Try.func17,Try.ntmps17;go_wp2_with fail;refine hcon.mono ?_;rintro e w2 ⟨rfl,hB⟩;dsimp only;clear hcon;go_wp2;go_ret;exact⟨by simp[h1],hB⟩};have e:decide (0<=p/\p<(len:Int))=false:=decide_eq_false fun h=>h0 h.1;rw[e];clear e;go_enter Try.func17,Try.ntmps17;go_wp2_with fail;refine hcon.mono ?_;rintro e w2 ⟨rfl,hB⟩;dsimp only;clear hcon;go_wp2;go_ret;exact⟨rfl,hB⟩
def nz (f:List Nat):List Int:=f.map fun x:Nat=>(x:Int)
theorem iX (f:List Nat):(nz f).length=f.length:=by simp[nz]
theorem qj (f:List Nat)(i:Nat):(nz f).getD i 0=((f.getD i 0:Nat):Int):=by unfold nz;rw[ah,ah,List.getElem?_map];rcases f[i]? with _|x<;>rfl
theorem qY (f:List Nat)(i x:Nat):nz (f.set i x)=(nz f).set i (x:Int):=by unfold nz;rw[List.map_set]
theorem BM (n:Int)(h0:0<=n)(h1:n<2 ^ 40):IntKind.i64.wrap n=n:=by rw[IntKind.wrap_i64];omega
theorem yT {n m:Nat}(hn:n<2 ^ 40)(hm:m<2 ^ 40):bits .or .i64 n m=((n|||m:Nat):Int):=(bits_nat .i64 40 (by decide) BM n m hn hm).2
theorem gY (a:Option Addr)(len cap:Nat)(ls:List Ln)(hok:Ln.isOk ls=true)(p:Nat)(hp:p<len)(f:List Nat)(hf:∀i,f.getD i 0<2 ^ 40)(n₀ g c:Nat)(w:World)(hs:LL w a len ls)(ho:OG w n₀ g len c (nz f)):Calls Try.prog 25 #[.slice a len cap, .slice (some ⟨g,0,none⟩) len c, .int .i64 (p:Int)] w fun e w'=>e= .returned (.int .i64 ((Fl.ou ls f p:Nat):Int))/\Below w.heap.size w w':=by have hl:=hs.1;have hlen:=Ln.aZ hok;have hcon:=jE a len cap ls p hp (by omega) w hs;have HN:=ae (Fl.vz hok (p:=p) (by omega));rw[hl]at HN hlen;have qR:=ho.lt;have hcap:=ho.cap;have HO:=ae ho;have HF:=ae hf;have HR:Hid (Fl.ou ls f p=Fl.js f (Fl.nx (ls.getD p .z) p)):=rfl;obtain⟨R,hR⟩:∃R,Fl.ou ls f p=R:=⟨_,rfl⟩;rw[hR]at HR ⊢;generalize Fl.nx (ls.getD p .z) p=N at hcon HN HR;have qo:(len:Int)<=300:=by{omega};have xg:(p:Int)<(len:Int):=by{omega};clear hs ho hf hl hR hlen;go_enter Try.func25,Try.ntmps25;go_wp2_with fail;refine hcon.mono ?_;rintro e w2 ⟨gn,mn,cn,rfl,hon,hB2⟩;dsimp only;have hgn:=hon.lt;have hcn:=hon.cap;have qU:=ae hon.1;have HC:Hid (∀j,j<mn->w2.cell? ⟨gn,j,none⟩=some (.int .i64 (N.getD j 0))):=fun j hj=>hon.cell hj;have HI:Hid (∀j,j<len->w2.cell? ⟨g,j,none⟩=some (.int .i64 ((f.getD j 0:Nat):Int))):=fun j hj=>by{rw[←qj];exact(HO.out.kept hB2).cell hj};clear hcon hon;have hmx:mn<=9223372036854775807:=by{unfold maxLen at hcn;omega};go_wp2;go_loopw [7,9] (fun vx vi wr=>∃(k:Nat)(q:Nat),vx= .int .i64 (q:Int)/\vi= .int .i64 (k:Int)/\k<=mn/\Hid (q=Fl.js f (N.take k))/\w2=wr) (fun _ i _=>mn-(intOf i).toNat);(case atStart=>exact⟨0,0,rfl,rfl,Nat.zero_le _,(by show _=_;simp[Fl.js]),rfl⟩);case round=>obtain⟨k,q,rfl,rfl,hk,HQ,aF⟩:=hrel;subst aF;by_cases hlt:k<mn;{have bL:(k:Int)<(mn:Int):=by{omega};have hc:=HC.out k hlt;have hkl:k<N.length:=by{rw[qU.out];exact hlt};have hj:=HN.out (N.getD k 0) (by rw[ah,ai hkl];exact List.getElem_mem hkl);have HS:=ae (Fl.pQ (f:=f) hkl);rw[←HQ.out]at HS;have uZ:Hid (q<2 ^ 40):=by{show _<_;rw[HQ.out];exact Fl.iG HF.out _};obtain⟨y,hy⟩:∃y,N.getD k 0=y:=⟨_,rfl⟩;rw[hy]at hc hj HS;clear hy hkl;obtain⟨j,rfl⟩:=Int.eq_ofNat_of_zero_le hj.1;rw[ay]at HS;have hjl:j<len:=by{omega};have Dm:(j:Int)<(len:Int):=hj.2;have hi:=HI.out j hjl;have HZ:=ae (HF.out j);obtain⟨z,hz⟩:∃z,f.getD j 0=z:=⟨_,rfl⟩;rw[hz]at hi HS HZ;have hor:bits .or .i64 (q:Int) (z:Int)=((q|||z:Nat):Int):=yT uZ.out HZ.out;clear hz hj;go_wp2;go_roundw;(case rel=>exact⟨k+1,q|||z,rfl,by simp,hlt,(by show _=_;rw[HS.out]),by simp⟩);case measure=>simp[intOf];omega};have hke:k=mn:=by{omega};have HE:Hid (q=R):=by{show _=_;rw[HQ.out,HR.out,hke,←qU.out,List.take_length]};clear HQ;have bL:¬(k:Int)<(mn:Int):=by{omega};clear hke;go_wp2;go_ret;exact⟨by rw[←HE.out]<;>rfl,hB2⟩
namespace Ln
theorem iV (l:List Int):∀k,(aY (l.take k)).length<=k
 |0=>by simp[aY]
 | k +1=>by
   have ih:=iV l k
   rw[List.take_add_one]
   rcases h:l[k]? with _|y
   · simp only[Option.toList_none,List.append_nil]
     omega
   · simp only[Option.toList_some,gF]
     have:=uA (aY (l.take k)) y
     omega
theorem gK {l:List Int}{k:Nat}(hk:k<l.length):aY (l.take (k+1))=put (aY (l.take k)) (l.getD k 0):=by rw[List.take_add_one,ai hk,ah,ai hk];simp only[Option.toList_some,Option.getD_some];exact gF _ _
end Ln
theorem lU (x:Ln)(la:Option Addr)(ln lc:Nat)(w:World):Calls Try.prog 29 #[.agg #[.int .i64 x.k, .int .i64 x.d, .int .i64 x.a, .int .i64 x.b, .int .i64 x.n, .slice la ln lc]] w fun e w'=>e= .returned (.int .i64 (Ln.st x))/\Below w.heap.size w w':=by obtain⟨k,d,a,b,n,l⟩:=x;simp only;have hB:=az w (.cells #[.int .i64 k, .int .i64 d, .int .i64 a, .int .i64 b, .int .i64 n, .slice la ln lc] 39);by_cases hq:k=1\/k=2\/k=3\/k=4\/k=7\/k=8;{have e:Ln.st ⟨k,d,a,b,n,l⟩=d:=by{unfold Ln.st;rw[ax hq]};rw[e];clear e;rcases hq with rfl|rfl|rfl|rfl|rfl|rfl;all_goals go_enter Try.func29,Try.ntmps29;go_wp2;go_ret;exact⟨rfl,hB⟩};have e:Ln.st ⟨k,d,a,b,n,l⟩=-1:=by{unfold Ln.st;rw[av hq]};rw[e];clear e;have k1:(k==1)=false:=by{simp;omega};have k2:(k==2)=false:=by{simp;omega};have k3:(k==3)=false:=by{simp;omega};have k4:(k==4)=false:=by{simp;omega};have k7:(k==7)=false:=by{simp;omega};have k8:(k==8)=false:=by{simp;omega};clear hq;go_enter Try.func29,Try.ntmps29;go_wp2;go_ret;exact⟨rfl,hB⟩
theorem mE (x:Ln)(la:Option Addr)(ln lc:Nat)(w:World)(hs:IL w la ln x.l)(h3:ln<=3):Calls Try.prog 30 #[.agg #[.int .i64 x.k, .int .i64 x.d, .int .i64 x.a, .int .i64 x.b, .int .i64 x.n, .slice la ln lc]] w fun e w'=>∃g m c,e= .returned (.slice (some ⟨g,0,none⟩) m c)/\OG w' w.heap.size g m c (Ln.us x)/\Below w.heap.size w w':=by obtain⟨k,d,a,b,n,l⟩:=x;simp only at hs ⊢;have hB:=az w (.cells #[.int .i64 k, .int .i64 d, .int .i64 a, .int .i64 b, .int .i64 n, .slice la ln lc] 39);by_cases hq:k=2\/k=4\/k=6\/k=8\/k=10;{have e:Ln.us ⟨k,d,a,b,n,l⟩=[a]:=by{unfold Ln.us;rw[ax hq]};rw[e];have ho:=OG.one _ w.heap.size hB.size a;have hBx:=hB.trans ((az _ (.cells #[.int .i64 a] 2)).mono hB.size);simp only[World.size_alloc]at ho;clear e hs;rcases hq with rfl|rfl|rfl|rfl|rfl;all_goals go_enter Try.func30,Try.ntmps30;go_wp2;go_ret;exact⟨_,1,1,rfl,ho,hBx⟩};by_cases hq2:k=3\/k=9;{have e:Ln.us ⟨k,d,a,b,n,l⟩=Ln.put [a] b:=by{unfold Ln.us;rw[av hq,ax hq2]};rw[e];clear e hs hq;have ho:=OG.one _ w.heap.size hB.size a;have hBx:=hB.trans ((az _ (.cells #[.int .i64 a] 2)).mono hB.size);simp only[World.size_alloc]at ho;have hcon:=eT w.heap.size _ 1 1 [a] b (by omega) _ hBx.size ho;clear hB ho;rcases hq2 with rfl|rfl;all_goals go_enter Try.func30,Try.ntmps30;go_wp2_with fail;refine hcon.mono ?_;rintro e w2 ⟨g,m,c,rfl,ho2,hB2⟩;dsimp only;have HF:=ae (ak ho2 (hBx.trans (hB2.mono hBx.size)));clear ho2 hBx hB2 hcon;go_wp2;go_ret;exact⟨g,m,c,rfl,HF.out.1,HF.out.2⟩};have e:Ln.us ⟨k,d,a,b,n,l⟩=Ln.aY l:=by{unfold Ln.us;rw[av hq,av hq2]};rw[e];have k2:(k==2)=false:=by{simp;omega};have k4:(k==4)=false:=by{simp;omega};have k6:(k==6)=false:=by{simp;omega};have k8:(k==8)=false:=by{simp;omega};have k10:(k==10)=false:=by{simp;omega};have k3:(k==3)=false:=by{simp;omega};have k9:(k==9)=false:=by{simp;omega};clear e hq hq2;have hA1:fA (w.alloc (.cells #[.int .i64 k, .int .i64 d, .int .i64 a, .int .i64 b, .int .i64 n, .slice la ln lc] 39)) w.heap.size 39 [.int .i64 k, .int .i64 d, .int .i64 a, .int .i64 b, .int .i64 n, .slice la ln lc]:=heap_alloc_last w _;have hs1:=hs.kept hB;obtain⟨W1,hW1⟩:∃X,w.alloc (.cells #[.int .i64 k, .int .i64 d, .int .i64 a, .int .i64 b, .int .i64 n, .slice la ln lc] 39)=X:=⟨_,rfl⟩;rw[hW1]at hA1 hs1 hB;have hE:=OG.empty W1 W1.heap.size (Nat.le_refl _);have Ce:=az W1 (.cells #[] 2);have HL:=ae hs.1;have Dn:w.heap.size<=W1.heap.size:=hB.size;clear hs;go_enter Try.func30,Try.ntmps30;have c0:=hA1.cell (j:=0) rfl;go_wp2;go_loopw [3,4] (fun v i wr=>∃kk g m c:Nat,v= .slice (some ⟨g,0,none⟩) m c/\i= .int .i64 kk/\kk<=ln/\m<=kk/\OG wr W1.heap.size g m c (Ln.aY (l.take kk))/\Below W1.heap.size W1 wr) (fun _ i _=>ln-(intOf i).toNat);(case atStart=>exact⟨0,_,0,0,rfl,rfl,Nat.zero_le _,Nat.le_refl _,by simpa[Ln.aY]using hE,Ce⟩);case round=>obtain⟨kk,g,m,c,rfl,rfl,hk,hm,ho,hBr⟩:=hrel;have hAr:=hA1.kept hBr;have c5:=hAr.cell (j:=5) rfl;have ib:=hs1.kept hBr;clear hE Ce c0 hA1 hs1;by_cases hlt:kk<ln;{have bL:(kk:Int)<(ln:Int):=by{omega};obtain⟨-,-,h0|⟨lb,lo,rfl,hlb,hx⟩⟩:=ib;{omega};have hc:=hx kk hlt;have hcon:=eT W1.heap.size g m c (Ln.aY (l.take kk)) (l.getD kk 0) (by omega) wr hBr.size ho;have HP:=ae (Ln.gK (l:=l) (k:=kk) (by rw[HL.out];exact hlt));rw[←HP.out]at hcon;have Cf:=ae (Ln.iV l (kk+1));obtain⟨y,hy⟩:∃y,l.getD kk 0=y:=⟨_,rfl⟩;rw[hy]at hc hcon;clear hx hy ho HP;go_wp2_with fail;refine hcon.mono ?_;rintro e w2 ⟨g2,m2,c2,rfl,ho2,hB2⟩;dsimp only;have hm2:m2<=kk+1:=by{have:=Cf.out;rw[ho2.1]at this;exact this};have HF:=ae (ak ho2 (hBr.trans (hB2.mono hBr.size)));clear hcon ho2 hB2 Cf;go_wp2;go_roundw;(case rel=>exact⟨kk+1,g2,m2,c2,rfl,by simp,hlt,hm2,HF.out.1,HF.out.2⟩);case measure=>simp[intOf];omega};have hke:kk=ln:=by{omega};have HF:Hid (OG wr w.heap.size g m c (Ln.aY l)/\Below w.heap.size w wr):=⟨by have:=ho.mono Dn;rwa [hke,←HL.out,List.take_length]at this,hB.trans (hBr.mono hB.size)⟩;clear ho ib;have bL:¬(kk:Int)<(ln:Int):=by{omega};clear hke;go_wp2;go_ret;exact⟨g,m,c,rfl,HF.out.1,HF.out.2⟩
theorem zM (n:Int)(h0:0<=n)(h1:n<2 ^ 40):IntKind.u64.wrap n=n:=by rw[IntKind.wrap_u64];omega
theorem rA {n m:Nat}(hn:n<2 ^ 40)(hm:m<2 ^ 40):bits .or .u64 n m=((n|||m:Nat):Int):=(bits_nat .u64 40 (by decide) zM n m hn hm).2
theorem wL {n m:Nat}(hn:n<2 ^ 40)(hm:m<2 ^ 40):bits .and .u64 n m=((n&&& m:Nat):Int):=(bits_nat .u64 40 (by decide) zM n m hn hm).1
theorem yw {n m:Nat}(hn:n<2 ^ 40)(hm:m<2 ^ 40):bits .andNot .u64 n m=((Fl.an n m:Nat):Int):=by have hx:Fl.an n m<2 ^ 40:=Fl.lQ hn;have e:(BitVec.ofInt 64 (n:Int)&&& ~~~BitVec.ofInt 64 (m:Int)).toNat=Fl.an n m:=by{rw[BitVec.toNat_and,BitVec.toNat_not,BitVec.ofInt_natCast,BitVec.ofInt_natCast,BitVec.toNat_ofNat,BitVec.toNat_ofNat,Nat.mod_eq_of_lt (by omega),Nat.mod_eq_of_lt (by omega)];refine Nat.eq_of_testBit_eq fun k=>?_;rw[Nat.testBit_and,Fl.je,Nat.sub_sub,Nat.add_comm,Nat.testBit_two_pow_sub_succ (by omega)];by_cases h:k<64;{simp[h]};rw[Nat.testBit_lt_two_pow (aj hn (Nat.pow_le_pow_right (by decide) (by omega)))];rfl};show IntKind.u64.wrap ((BitVec.ofInt 64 (n:Int)&&& ~~~BitVec.ofInt 64 (m:Int)).toNat:Int)=_;rw[e];exact zM _ (by omega) (by omega)
theorem vF {j:Nat}(hj:j<=39):IntKind.u64.wrap ((2:Int) ^ j)=((2 ^ j:Nat):Int)/\(2:Nat) ^ j<2 ^ 40:=by have h:(2:Nat) ^ j<2 ^ 40:=Nat.pow_lt_pow_right (by decide) (by omega);refine⟨?_,h⟩;have e:(2:Int) ^ j=((2 ^ j:Nat):Int):=by{simp};rw[e];generalize(2:Nat) ^ j=m at h ⊢;exact zM _ (by omega) (by omega)
theorem wV {n j:Nat}(hn:n<2 ^ 40)(hj:j<=39):bits .or .u64 (n:Int) (IntKind.u64.wrap (2 ^ j))=((n|||2 ^ j:Nat):Int):=by rw[(vF hj).1,rA hn (vF hj).2]
theorem bY (la:Option Addr)(ln lc:Nat)(xs:List Int)(hx:∀y∈xs,0<=y/\y<=39)(hlen:ln<=1000000)(w:World)(hs:IL w la ln xs):Calls Try.prog 36 #[.slice la ln lc] w fun e w'=>e= .returned (.int .u64 ((Fl.mk xs:Nat):Int))/\w'=w:=by have HL:=ae hs.1;have HX:=ae hx;have qo:(ln:Int)<=1000000:=by{omega};go_enter Try.func36,Try.ntmps36;go_wp2;go_loopg [3,8] ln (fun gk vx vi wr=>∃(k q:Nat),gk=ln-k/\k<=ln/\vx= .int .u64 (q:Int)/\vi= .int .i64 (k:Int)/\Hid (q=Fl.mk (xs.take k))/\w=wr);(case atStart=>exact⟨0,0,rfl,by omega,rfl,rfl,(by show _=_;simp[Fl.mk]),rfl⟩);case round=>obtain⟨k,q,vP,hk,rfl,rfl,HQ,aF⟩:=hrel;subst aF;by_cases hlt:k<ln;{have bL:(k:Int)<(ln:Int):=by{omega};have hkl:k<xs.length:=by{rw[HL.out];exact hlt};obtain⟨-,-,h0|⟨lb,lo,rfl,hlb,hcc⟩⟩:=hs;{omega};have hc:=hcc k hlt;have hy:=HX.out (xs.getD k 0) (by rw[ah,ai hkl];exact List.getElem_mem hkl);have HS:=ae (Fl.lq hkl);rw[←HQ.out]at HS;have uZ:Hid (q<2 ^ 40):=by{show _<_;rw[HQ.out];exact Fl.mW fun y hy=>HX.out y (List.mem_of_mem_take hy)};obtain⟨y,sN⟩:∃y,xs.getD k 0=y:=⟨_,rfl⟩;rw[sN]at hc hy HS;clear sN hkl hx hcc;obtain⟨j,rfl⟩:=Int.eq_ofNat_of_zero_le hy.1;rw[ay]at HS;have hj:(j:Int)<=39:=hy.2;have hor:bits .or .u64 (q:Int) (IntKind.u64.wrap (2 ^ j))=((q|||2 ^ j:Nat):Int):=wV uZ.out (by omega);clear hy;go_wp2;go_roundg (ln-(k+1));(case measure=>omega);case rel=>exact⟨k+1,q|||2 ^ j,rfl,hlt,rfl,by simp,(by show _=_;rw[HS.out]),rfl⟩};have hke:k=ln:=by{omega};have HE:Hid (q=Fl.mk xs):=by{show _=_;rw[HQ.out,hke,←HL.out,List.take_length]};have bL:¬(k:Int)<(ln:Int):=by{omega};clear HQ hke;go_wp2;go_ret;exact⟨by rw[←HE.out]<;>rfl,rfl⟩
theorem uh (m k:Nat):(m&&& Fl.mk [(k:Int)]=0↔m.testBit k=false):=by have e:Fl.mk [(k:Int)]=2 ^ k:=by{simp[Fl.mk]};rw[e];constructor;{intro h;have h2:=congrArg (fun n=>n.testBit k) h;simp only[Nat.testBit_and,Nat.testBit_two_pow_self,Nat.zero_testBit,Bool.and_true]at h2;exact h2};intro h;refine Nat.eq_of_testBit_eq fun j=>?_;rw[Nat.testBit_and,Nat.testBit_two_pow,Nat.zero_testBit];by_cases hj:k=j;{subst hj;rw[h];rfl};simp[hj]
theorem jc (m:Nat) (hm:m<2 ^ 40) (w:World):Calls Try.prog 23 #[.int .u64 (m:Int)] w fun e w'=>∃g n c,e= .returned (.slice (some ⟨g,0,none⟩) n c)/\OG w' w.heap.size g n c (Fl.uJ m)/\Below w.heap.size w w':=by
 have ho:=OG.empty w w.heap.size (Nat.le_refl _)
 have hB:=az w (.cells #[] 2)
 go_enter Try.func23,Try.ntmps23
 go_wp2
 go_loopg [3,6] 40 (fun gk vo vi wr=>∃(k g n c:Nat),gk=40-k/\k<=40/\vo= .slice (some ⟨g,0,none⟩) n c/\vi= .int .i64 (k:Int)/\OG wr w.heap.size g n c (Fl.jQ m k)/\Below w.heap.size w wr)
 case atStart=>exact⟨0,_,0,0,rfl,by omega,rfl,rfl,ho,hB⟩
 case round=>
  obtain⟨k,g,n,c,vP,hk,rfl,rfl,hor,hBr⟩:=hrel
  clear ho hB
  have aF:=hBr.size
  have HO:=ae (ak hor hBr)
  clear hor hBr
  by_cases hlt:k<40
  · have bL:(k:Int)<40:=by omega
    have hlen:=Fl.iy m k
    have hnk:n<=k:=by rw[HO.out.1.1]at hlen;exact hlen
    have hal:=az wr (.cells #[.int .i64 (k:Int)] 2)
    have hcon:=bY (some ⟨wr.heap.size,0,none⟩) 1 1 [(k:Int)] (fun y hy=>by rw[List.mem_singleton]at hy;omega) (by omega) (wr.alloc (.cells #[.int .i64 (k:Int)] 2)) (OI.il (OG.one wr wr.heap.size (Nat.le_refl _) (k:Int)).oi).2
    have hp:Fl.mk [(k:Int)]<2 ^ 40:=Fl.mW fun y hy=>by rw[List.mem_singleton]at hy;omega
    have hAnd:=wL hm hp
    have hbit:=uh m k
    generalize Fl.mk [(k:Int)]=P at hcon hAnd hbit
    generalize m&&& P=z at hAnd hbit
    have HR:=ae (HO.out.1.kept hal)
    have HB:=ae (HO.out.2.trans (hal.mono aF))
    have hg:=HO.out.1.lt
    clear hlen hp
    rcases hb:m.testBit k with _|_
    · have hz:=hbit.2 hb;subst hz;have Cg:bits .and .u64 (m:Int) (P:Int)=0:=hAnd;have HE:Hid (Fl.jQ m (k+1)=Fl.jQ m k):=by{show _=_;rw[Fl.jQ,av (by rw[hb];decide)]};clear hb hbit hAnd hal;go_wp2_with(go_at_call 36;refine hcon.mono ?_;rintro e w4 ⟨rfl,hw4⟩;subst w4;dsimp only);go_roundg (40-(k+1));(case measure=>omega);case rel=>exact⟨k+1,g,n,c,rfl,hlt,rfl,by simp,by rw[HE.out];exact HR.out,HB.out⟩
    · have hz:¬(z:Int)=0:=by intro h;have:=hbit.1 (by omega);rw[hb]at this;cases this
      have HE:Hid (Fl.jQ m (k+1)=Fl.jQ m k++[(k:Int)]):=by show _=_;rw[Fl.jQ,ax hb]
      clear hb hbit hal
      have xh:=az (wr.alloc (.cells #[.int .i64 (k:Int)] 2)) (.cells #[.int .i64 (k:Int)] 2)
      have HR2:=ae (HR.out.kept xh)
      have HB2:=ae (HB.out.trans (xh.mono HB.out.size))
      have HC:Hid (∀j,j<1->((wr.alloc (.cells #[.int .i64 (k:Int)] 2)).alloc (.cells #[.int .i64 (k:Int)] 2)).cell? ⟨wr.heap.size+1,0+j,none⟩=some (.int .i64 (([(k:Int)]:List Int).getD j 0))):=fun j hj=>by obtain rfl:j=0:=by{omega};simp
      clear xh
      go_wp2_with(first
        |(go_at_call 36;refine hcon.mono ?_;rintro e w4 ⟨rfl,hw4⟩;subst w4;dsimp only)
        |(at_builtin;refine aT _ rfl _ _ rfl w.heap.size _ _ _ _ rfl HR2.out (wr.heap.size+1) 0 1 1 [(k:Int)] (by simp[Act.eval]) rfl HC.out (by omega) (by simp;omega) ?_;intro g4 c4 N4 w4 Cb nu dU;have HF:=ae (ak nu (aD HB2.out dU (by omega)));clear nu dU))
      go_roundg (40-(k+1))
      case measure=>omega
      case rel=>exact⟨k+1,g4,N4,c4,rfl,hlt,rfl,by simp,by rw[HE.out];exact HF.out.1,HF.out.2⟩
  · have hke:k=40:=by{omega};subst hke;go_wp2;go_ret;exact⟨g,n,c,rfl,HO.out.1,HO.out.2⟩
theorem sw {W:World}{n₀ e k g n c:Nat}{xs:List Value}(h:W.ownsRow n₀ e k (.slice (some ⟨g,0,none⟩) n c) n xs)(m:Nat)(hm:m<=n):W.ownsRow n₀ e k (.slice (some ⟨g,0,none⟩) m c) m (xs.take (m*k)):=by obtain⟨h1,h2⟩:=h;have hmk:m*k<=n*k:=Nat.mul_le_mul_right k hm;refine⟨by rw[List.length_take,h1];omega,?_⟩;rcases h2 with⟨h',_⟩|⟨g',cap',cur,h',hb,hc,hn,hx,hs,ht⟩;{cases h'};cases h';refine .inr ⟨g,c,cur,rfl,hb,hc,by omega,hx,hs,?_⟩;rw[←ht,List.take_take];congr 1;omega
end Go.Proofs.Ytghjooipkofodab
