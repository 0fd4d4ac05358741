/-
  Own texts for a law: Sp2 Hs0 Hs1 SpI0 Fi0 SpI4 Mem4 Mem7 LinR
-/
import Derived.Test.YtpipjiinmhopmaaMB07
namespace Go.Proofs.Ytpipjiinmhopmaa
open Go.RowKit Go.Shelf
set_option linter.all false
set_option maxRecDepth 100000
set_option maxHeartbeats 16000000
theorem nH (x y:Sp.S)(w:World):Calls Try.prog 18 #[.agg #[.int .i64 x.b, .int .i64 x.f, .int .i64 x.t, .bool x.c], .agg #[.int .i64 y.b, .int .i64 y.f, .int .i64 y.t, .bool y.c]] w fun e w'=>e= .returned (.bool (Sp.aI x y))/\Below w.heap.size w w':=by obtain⟨xb,xf,xt,xc⟩:=x;obtain⟨yb,yf,yt,yc⟩:=y;simp only;have hB1:=ay w (.cells #[.int .i64 xb, .int .i64 xf, .int .i64 xt, .bool xc] 42);have hB2:=hB1.trans ((ay (w.alloc (.cells #[.int .i64 xb, .int .i64 xf, .int .i64 xt, .bool xc] 42)) (.cells #[.int .i64 yb, .int .i64 yf, .int .i64 yt, .bool yc] 42)).mono hB1.size);have HB:=ae hB2;have fin:∀r:Bool,Hid (r=Sp.aI ⟨xb,xf,xt,xc⟩ ⟨yb,yf,yt,yc⟩)->Value.bool r= .bool (Sp.aI ⟨xb,xf,xt,xc⟩ ⟨yb,yf,yt,yc⟩):=fun r h=>by{rw[h.out]};have HF:=ae fin;clear hB1 hB2 fin;by_cases h1:xf<=yt;{by_cases h2:yf<=xt;{by_cases h3:xf<=xt;{by_cases h4:yf<=yt;{have HM:Hid (Sp.aI ⟨xb,xf,xt,xc⟩ ⟨yb,yf,yt,yc⟩=true):=by{show _=_;simp[Sp.aI,h1,h2,h3,h4]};go_enter Try.func18,Try.ntmps18;go_wp2;go_ret;exact⟨(by rw[HM.out];rfl),HB.out⟩};have HM:Hid (Sp.aI ⟨xb,xf,xt,xc⟩ ⟨yb,yf,yt,yc⟩=false):=by{show _=_;simp[Sp.aI,h4]};go_enter Try.func18,Try.ntmps18;go_wp2;go_ret;exact⟨(by rw[HM.out];rfl),HB.out⟩};have HM:Hid (Sp.aI ⟨xb,xf,xt,xc⟩ ⟨yb,yf,yt,yc⟩=false):=by{show _=_;simp[Sp.aI,h3]};go_enter Try.func18,Try.ntmps18;go_wp2;go_ret;exact⟨(by rw[HM.out];rfl),HB.out⟩};have HM:Hid (Sp.aI ⟨xb,xf,xt,xc⟩ ⟨yb,yf,yt,yc⟩=false):=by{show _=_;simp[Sp.aI,h2]};go_enter Try.func18,Try.ntmps18;go_wp2;go_ret;exact⟨(by rw[HM.out];rfl),HB.out⟩};have HM:Hid (Sp.aI ⟨xb,xf,xt,xc⟩ ⟨yb,yf,yt,yc⟩=false):=by{show _=_;simp[Sp.aI,h1]};go_enter Try.func18,Try.ntmps18;go_wp2;go_ret;exact⟨(by rw[HM.out];rfl),HB.out⟩
def gH (W:World)(n₀ g n c:Nat)(xs:List Int):Prop:=xs.length=n/\W.ownsRow n₀ 3 1 (.slice (some ⟨g,0,none⟩) n c) n (xs.map iv)
theorem gH.lt {W:World}{n₀ g n c:Nat}{xs:List Int}(h:gH W n₀ g n c xs):n₀<=g/\g<W.heap.size:=World.ownsRow.lt h.2 g rfl
theorem gH.cap {W:World}{n₀ g n c:Nat}{xs:List Int}(h:gH W n₀ g n c xs):n<=c/\c<=maxLen:=by rcases h.2.2 with⟨e,-⟩|⟨g',cap,cur,e,hb,hc,hn,hm,-⟩;{cases e};cases e;exact⟨hn,hm⟩
theorem gH.cell {W:World}{n₀ g n c:Nat}{xs:List Int}(h:gH W n₀ g n c xs){j:Nat}(hj:j<n):W.cell? ⟨g,j,none⟩=some (.int .i64 (xs.getD j 0)):=by have hc:=World.ownsRow.cells h.2 (g:=g) rfl;(have hadd:(⟨g,0,none⟩:Addr).add j=⟨g,j,none⟩:=by unfold Addr.add;split<;>simp_all);rw[←hadd];refine hc j _ ?_;rw[jH (by rw[h.1];exact hj)];rfl
theorem gH.frozen {W:World}{n₀ g n c:Nat}{xs:List Int}(h:gH W n₀ g n c xs)(j:Nat):W.frozen? ⟨g,j,none⟩=false:=World.ownsRow.frozenAt h.2 j
theorem gH.kept {W W':World}{n₀ g n c:Nat}{xs:List Int}(h:gH W n₀ g n c xs)(hB:Below W.heap.size W W'):gH W' n₀ g n c xs:=⟨h.1,aS h.2 hB⟩
theorem gH.gm {W W':World}{n₀ g n c b:Nat}{xs:List Int}(h:gH W n₀ g n c xs)(hg:W.grownBy W' (some b))(hne:g≠b):gH W' n₀ g n c xs:=by refine⟨h.1,World.ownsRow.kept h.2 hg (.inr ?_)⟩;simp only[Value.ownBlock,ne_eq,Option.some.injEq];omega
theorem gH.mono {W:World}{n₀ n₁ g n c:Nat}{xs:List Int}(h:gH W n₁ g n c xs)(hn:n₀<=n₁):gH W n₀ g n c xs:=by refine⟨h.1,h.2.1,?_⟩;rcases h.2.2 with⟨e,-⟩|⟨g',cap,cur,e,hb,r⟩;{cases e};exact .inr ⟨g',cap,cur,e,by omega,r⟩
theorem gH.empty (W:World)(n₀:Nat)(hn:n₀<=W.heap.size):gH (W.alloc (.cells #[] 3)) n₀ W.heap.size 0 0 []:=
 ⟨rfl,rfl, .inr ⟨W.heap.size,0,#[],rfl,hn,World.alloc_heap_new W _,Nat.le_refl _,by simp[maxLen],rfl,rfl⟩⟩
theorem gH.one (W:World)(n₀:Nat)(hn:n₀<=W.heap.size)(y:Int):gH (W.alloc (.cells #[.int .i64 y] 3)) n₀ W.heap.size 1 1 [y]:=
 ⟨rfl,rfl, .inr ⟨W.heap.size,1,#[.int .i64 y],rfl,hn,World.alloc_heap_new W _,Nat.le_refl _,by simp[maxLen],rfl,rfl⟩⟩
theorem gH.set {W:World}{n₀ g n c:Nat}{xs:List Int}(h:gH W n₀ g n c xs)(j:Nat)(x:Int):gH (W.setCell ⟨g,j,none⟩ (.int .i64 x)) n₀ g n c (xs.set j x):=by have hst:=(World.ownsRow.stored h.2 j (.int .i64 x)).1;refine⟨by rw[List.length_set];exact h.1,?_⟩;have e:(xs.set j x).map iv=(xs.map iv).set j (.int .i64 x):=by{rw[List.map_set];rfl};rw[e];exact hst
def holds (l:List Sp.S)(h:List Int)(i k:Nat):List Int:=(List.range 5).map fun(sh:Nat)=>Hm.hold l h i (sh:Int) k
section
set_option linter.unusedSimpArgs false
def tZ (b:Int):Value:= .agg #[.int .i64 b, .int .i64 (-1), .int .i64 (-1), .bool false]
theorem bK:∀(l:List Sp.S)(k:Nat)(y:Sp.S),k<l.length->aJ (l.set k y)=((((aJ l).set (k*4) (.int .i64 y.b)).set (k*4+1) (.int .i64 y.f)).set (k*4+2) (.int .i64 y.t)).set (k*4+3) (.bool y.c)
 |[],k,y,h=>by simp at h
 |s::l,0,y,_=>rfl
 | s::l,k+1,y,h=>by
   have ih:=bK l k y (by simpa using h)
   rw[List.set_cons_succ,eB,eB,show(k+1)*4=k*4+1+1+1+1 by omega,show k*4+1+1+1+1+1=(k*4+1)+1+1+1+1 by omega,show k*4+1+1+1+1+2=(k*4+2)+1+1+1+1 by omega,show k*4+1+1+1+1+3=(k*4+3)+1+1+1+1 by omega]
   simp only[List.set_cons_succ]
   rw[ih]
theorem dm {α:Type _}{l:List α}{j:Nat}{x:α}(h:l[j]?=some x):l.set j x=l:=by obtain⟨h1,h2⟩:=List.getElem?_eq_some_iff.1 h;rw[←h2];exact List.set_getElem_self h1
theorem jQ {α:Type _}{l:List α}{i j:Nat}{x:α}(h:i≠j):(l.set i x)[j]?=l[j]?:=List.getElem?_set_ne h
def SA (W:World)(g:Nat)(l:List Sp.S):Prop:=l.length=40/\dW W g 78 (aJ l)
theorem SA.lt {W:World}{g:Nat}{l:List Sp.S}(h:SA W g l):g<W.heap.size:=h.2.lt
theorem SA.kept {W W':World}{g:Nat}{l:List Sp.S}(h:SA W g l)(hB:Below W.heap.size W W'):SA W' g l:=⟨h.1,h.2.kept hB⟩
theorem SA.gm {W W':World}{g:Nat}{l:List Sp.S}{row:Option Nat}(h:SA W g l)(hg:W.grownBy W' row)(hne:some g≠row):SA W' g l:=⟨h.1,h.2.gm hg hne⟩
theorem SA.frozen {W:World}{g:Nat}{l:List Sp.S}(h:SA W g l)(j:Nat):W.frozen? ⟨g,j,none⟩=false:=h.2.frozen j
theorem SA.cell {W:World}{g:Nat}{l:List Sp.S}(h:SA W g l){j:Nat}(hj:j<40):W.cell? ⟨g,j*4,none⟩=some (.int .i64 (l.getD j .z).b)/\W.cell? ⟨g,j*4+1,none⟩=some (.int .i64 (l.getD j .z).f)/\W.cell? ⟨g,j*4+2,none⟩=some (.int .i64 (l.getD j .z).t)/\W.cell? ⟨g,j*4+3,none⟩=some (.bool (l.getD j .z).c):=by obtain⟨h0,h1,h2,h3⟩:=bJ l j (by rw[h.1];exact hj);exact⟨h.2.cell h0,h.2.cell h1,h.2.cell h2,h.2.cell h3⟩
theorem SA.put {W:World}{g:Nat}{l:List Sp.S}(h:SA W g l){j:Nat}(hj:j<40)(b f t:Int)(c:Bool):SA ((((W.setCell ⟨g,j*4,none⟩ (.int .i64 b)).setCell ⟨g,j*4+1,none⟩ (.int .i64 f)).setCell ⟨g,j*4+2,none⟩ (.int .i64 t)).setCell ⟨g,j*4+3,none⟩ (.bool c)) g (l.set j ⟨b,f,t,c⟩):=by refine⟨by rw[List.length_set];exact h.1,?_⟩;rw[bK l j ⟨b,f,t,c⟩ (by rw[h.1];exact hj)];exact(((h.2.set _ _).set _ _).set _ _).set _ _
theorem SA.to {W:World}{g:Nat}{l:List Sp.S}(h:SA W g l){j:Nat}(hj:j<40)(t:Int):SA (W.setCell ⟨g,j*4+2,none⟩ (.int .i64 t)) g (l.set j ⟨(l.getD j .z).b,(l.getD j .z).f,t,(l.getD j .z).c⟩):=by refine⟨by rw[List.length_set];exact h.1,?_⟩;have hlt:j<l.length:=by{rw[h.1];exact hj};rw[bK l j _ hlt];obtain⟨h0,h1,h2,h3⟩:=bJ l j hlt;rw[dm h0,dm h1];have e:(((aJ l).set (j*4+2) (.int .i64 t)).set (j*4+3) (.bool (l.getD j .z).c))=(aJ l).set (j*4+2) (.int .i64 t):=dm (by rw[jQ (by omega)];exact h3);dsimp only;rw[e];exact h.2.set _ _
theorem SA.fr {W:World}{g:Nat}{l:List Sp.S}(h:SA W g l){j:Nat}(hj:j<40)(f:Int):SA (W.setCell ⟨g,j*4+1,none⟩ (.int .i64 f)) g (l.set j ⟨(l.getD j .z).b,f,(l.getD j .z).t,(l.getD j .z).c⟩):=by refine⟨by rw[List.length_set];exact h.1,?_⟩;have hlt:j<l.length:=by{rw[h.1];exact hj};rw[bK l j _ hlt];obtain⟨h0,h1,h2,h3⟩:=bJ l j hlt;rw[dm h0];dsimp only;have e2:((aJ l).set (j*4+1) (.int .i64 f)).set (j*4+2) (.int .i64 (l.getD j .z).t)=(aJ l).set (j*4+1) (.int .i64 f):=dm (by rw[jQ (by omega)];exact h2);rw[e2];have e3:((aJ l).set (j*4+1) (.int .i64 f)).set (j*4+3) (.bool (l.getD j .z).c)=(aJ l).set (j*4+1) (.int .i64 f):=dm (by rw[jQ (by omega)];exact h3);rw[e3];exact h.2.set _ _
theorem SA.cr {W:World}{g:Nat}{l:List Sp.S}(h:SA W g l){j:Nat}(hj:j<40):SA (W.setCell ⟨g,j*4+3,none⟩ (.bool true)) g (l.set j (Sp.xd (l.getD j .z))):=by refine⟨by rw[List.length_set];exact h.1,?_⟩;have hlt:j<l.length:=by{rw[h.1];exact hj};unfold Sp.xd;rw[bK l j _ hlt];obtain⟨h0,h1,h2,h3⟩:=bJ l j hlt;rw[dm h0];dsimp only;rw[dm h1,dm h2];exact h.2.set _ _
theorem nD {l:List Sp.S}{j:Nat}(hj:j<l.length)(y:Sp.S):(l.set j y).getD j .z=y:=by rw[af,List.getElem?_set_self hj];rfl
theorem SA.both {W:World}{g:Nat}{l:List Sp.S}(h:SA W g l){j:Nat}(hj:j<40)(f t:Int):SA ((W.setCell ⟨g,j*4+1,none⟩ (.int .i64 f)).setCell ⟨g,j*4+2,none⟩ (.int .i64 t)) g (l.set j ⟨(l.getD j .z).b,f,t,(l.getD j .z).c⟩):=by have h1:=(h.fr hj f).to hj t;have e:∀y,(l.set j y).getD j .z=y:=fun y=>nD (by rw[h.1];exact hj) y;simp only[e,List.set_set]at h1;exact h1
theorem nu (W:World)(g a b c d:Nat)(u v x y:Value):W.grownBy ((((W.setCell ⟨g,a,none⟩ u).setCell ⟨g,b,none⟩ v).setCell ⟨g,c,none⟩ x).setCell ⟨g,d,none⟩ y) (some g):=
 (((aA W ⟨g,a,none⟩ u).trans (aA _ ⟨g,b,none⟩ v)).trans (aA _ ⟨g,c,none⟩ x)).trans (aA _ ⟨g,d,none⟩ y)
theorem lu (W:World)(g a b:Nat)(u v:Value):W.grownBy ((W.setCell ⟨g,a,none⟩ u).setCell ⟨g,b,none⟩ v) (some g):=(aA W ⟨g,a,none⟩ u).trans (aA _ ⟨g,b,none⟩ v)
theorem eu {W W1 W2:World}{g:Nat}(hB:Below W.heap.size W W1)(hg:W1.grownBy W2 (some g)):W.grownBy W2 (some g):=
 ⟨hg.os.trans hB.os,hg.tape.trans hB.tape,hg.output.trans hB.output,Nat.le_trans hB.size hg.size,fun k hk hne=>(hg.block k (ai hk hB.size) hne).trans (hB.block k hk)⟩
theorem aK {W W1:World}{n:Nat}(hB:Below (W.drewN n).heap.size (W.drewN n) W1):Below W.heap.size W W1:=⟨hB.os,hB.tape,hB.output,hB.size,fun k hk=>hB.block k hk⟩
def NL (k:Nat):List Sp.S:=(List.range 40).map fun(b:Nat)=>if b<k then⟨(b:Int),-1,-1,false⟩else⟨0,0,0,false⟩
theorem sV:NL 40=(List.range 40).map fun(b:Nat)=>⟨(b:Int),-1,-1,false⟩:=by refine List.map_congr_left fun b hb=>?_;rw[av (List.mem_range.1 hb)]
theorem qX (k:Nat)(hk:k<40):NL (k+1)=(NL k).set k ⟨(k:Int),-1,-1,false⟩:=by refine List.ext_getElem? fun j=>?_;by_cases h:k=j;{subst h;rw[List.getElem?_set_self (by simp[NL];exact hk)];simp[NL,hk]};rw[List.getElem?_set_ne h];unfold NL;rw[List.getElem?_map,List.getElem?_map];by_cases hj:j<40;{rw[List.getElem?_range hj];simp only[Option.map_some];by_cases h2:j<k;{rw[av (by omega),av h2]};rw[au (by omega),au h2]};rw[List.getElem?_eq_none (by simp;omega)];rfl
theorem bf (b:Int)(w:World):Calls Try.prog 50 #[.int .i64 b] w fun e w'=>e= .returned (tZ b)/\Below w.heap.size w w':=by go_enter Try.func50,Try.ntmps50;go_wp2;refine bodyPost_ret (v:=tZ b) ?_ rfl ⟨rfl,ay w _⟩;rw[aB rfl];go_simp;rfl
theorem pI:Try.prog.built 78 []=some (aJ (NL 0)).toArray:=by kernel_rfl
theorem lJ {ops:Array Oper}{rest:List Oper}{o:Oper}{a:Act}{w:World}{Q:Exit->Act->World->Prop}(hgd:o.guard=none)(ho:o.op= .build 78 #[])(zs:List Value)(hz:aJ (NL 0)=zs)(h:wpList Try.prog ops Q rest (a.put o.dst (.agg zs.toArray)) w):wpList Try.prog ops Q (o::rest) a w:=by refine wpList_plain hgd fun K hK=>?_;have hrun:=run_build (P:=Try.prog) w 78 #[] _ pI;rw[hz]at hrun;unfold Oper.wp execOp;simp only[ho,Sem.run_bind];rw[show(Array.map (fun x:Nat×Operand=>(x.fst,a.eval x.snd)) #[])=#[]from by simp,hrun];simp only[Result.andThen_ok];exact hK _ _ h
theorem bV (w:World):Calls Try.prog 36 #[] w fun e w'=>∃g,e= .returned (.pointer (some ⟨g,0,none⟩))/\w.heap.size<=g/\SA w' g (NL 40)/\Below w.heap.size w w':=by obtain⟨zs,hzs⟩:∃zs,aJ (NL 0)=zs:=⟨_,rfl⟩;have HZ:=ae hzs;go_enter Try.func36,Try.ntmps36;go_wp2_with(refine lq 78 _ rfl ?_);refine⟨?_⟩;refine lJ rfl rfl zs hzs ?_;go_wp2_with(refine o6 78 _ rfl ?_);refine⟨?_⟩;refine jX rfl _ _ rfl zs rfl ?_;intro g1 w1 hg1 hA1 hB1;have HA:=ae (show SA w1 g1 (NL 0)/\Below w.heap.size w w1 from⟨⟨by simp[NL],by rw[HZ.out];exact hA1⟩,hB1⟩);have hge:w.heap.size<=g1:=Nat.le_of_eq hg1.out.symm;clear hg1 hA1 hB1 hzs HZ;go_wp2;go_loopg [5] 40 (fun gk vi wr=>∃(k:Nat),gk=40-k/\k<=40/\vi= .int .i64 (k:Int)/\SA wr g1 (NL k)/\Below w.heap.size w wr);(case atStart=>exact⟨0,rfl,by omega,rfl,HA.out.1,HA.out.2⟩);case round=>obtain⟨k,kT,hk,rfl,hs,hB⟩:=hrel;clear HA;have HH:=ae (aj hs hB);by_cases hlt:k<40;{have aP:(k:Int)<40:=by{omega};have hgl:=hs.lt;have hfz:=hs.frozen;have aM:=hB.size;obtain⟨d0,d1,d2,d3⟩:=hs.cell hlt;clear hs hB;go_wp2_with fail;go_region_with (go_at_call 50;refine(bf _ _).mono ?_;rintro e w4 ⟨rfl,hB4⟩;unfold tZ;have hs4:=HH.out.1.kept (aK hB4);have bE:=HH.out.2.trans ((aK hB4).mono aM);have wX:=hs4.lt;have wY:=hs4.frozen;obtain⟨e0,e1,e2,e3⟩:=hs4.cell hlt;have rG:=ae (aj hs4 bE);clear hs4 bE hB4);have HF:=ae (aj (rG.out.1.put hlt (k:Int) (-1) (-1) false) (az rG.out.2 (nu _ g1 (k*4) (k*4+1) (k*4+2) (k*4+3) (.int .i64 (k:Int)) (.int .i64 (-1)) (.int .i64 (-1)) (.bool false)) hge));rw[←qX k hlt]at HF;go_wp2;go_roundg (40-(k+1));(case measure=>omega);case rel=>exact⟨k+1,rfl,hlt,by simp,HF.out.1,HF.out.2⟩};have hke:k=40:=by{omega};subst hke;clear hs hB;go_wp2;go_ret;exact⟨g1,rfl,hge,HH.out.1,HH.out.2⟩
theorem lH (l:List Sp.S)(hv:Sp.Vs l)(j:Nat)(hj:j<40)(n:Int)(g:Nat)(w:World)(hs:SA w g l):Calls Try.prog 53 #[.pointer (some ⟨g,0,none⟩), .int .i64 (j:Int), .int .i64 n] w fun e w'=>e= .returned (.tuple #[])/\SA w' g (Sp.on (Sp.rc n) l (j:Int))/\w.grownBy w' (some g):=by have yU:(j:Int)<40:=by{omega};have HH:=ae hs;have hgl:=hs.lt;have hfz:=hs.frozen;obtain⟨d0,d1,d2,d3⟩:=hs.cell hj;have uB:Hid (Sp.on (Sp.rc n) l (j:Int)=l.set j (Sp.rc n (l.getD j .z))):=rfl;have hbx:=hv.bx j hj;have hun:=hv.un j hj;have HX:Hid (∀W t,SA W g l->SA (W.setCell ⟨g,j*4+2,none⟩ (.int .i64 t)) g (l.set j ⟨(l.getD j .z).b,(l.getD j .z).f,t,(l.getD j .z).c⟩)):=fun W t h=>h.to hj t;have HY:Hid (∀W f t,SA W g l->SA ((W.setCell ⟨g,j*4+1,none⟩ (.int .i64 f)).setCell ⟨g,j*4+2,none⟩ (.int .i64 t)) g (l.set j ⟨(l.getD j .z).b,f,t,(l.getD j .z).c⟩)):=fun W f t h=>h.both hj f t;have za:Hid (∀W,SA W g l->W.cell? ⟨g,j*4,none⟩=some (.int .i64 (l.getD j .z).b)/\W.cell? ⟨g,j*4+1,none⟩=some (.int .i64 (l.getD j .z).f)/\W.cell? ⟨g,j*4+2,none⟩=some (.int .i64 (l.getD j .z).t)/\W.cell? ⟨g,j*4+3,none⟩=some (.bool (l.getD j .z).c)):=fun W h=>h.cell hj;generalize l.getD j .z=s at d0 d1 d2 d3 hbx hun HX HY uB za;obtain⟨l2,hl2⟩:∃l2,Sp.on (Sp.rc n) l (j:Int)=l2:=⟨_,rfl⟩;rw[hl2]at uB ⊢;obtain⟨sb,sf,st,sc⟩:=s;dsimp only at hbx hun d0 d1 d2 d3;subst hbx;clear hs hv hl2;by_cases hf:sf<0;{have h2:=hun hf;injection h2 with _ h3 h4 h5;subst h3 h4 h5;clear hun hf;go_enter Try.func53,Try.ntmps53;go_wp2;go_region_with (go_at_call 50;refine(bf _ _).mono ?_;rintro e w4 ⟨rfl,hB4⟩;unfold tZ;have hs4:=HH.out.kept (aK hB4);have wX:=hs4.lt;have wY:=hs4.frozen;obtain⟨e0,e1,e2,e3⟩:=za.out _ hs4;have rG:=ae (aj hs4 (aK hB4));clear hs4 hB4);all_goals go_wp2;refine bodyPost_end (results_none rfl _ _ _) rfl ⟨rfl,?_,eu rG.out.2 (lu _ _ _ _ _ _)⟩;rw[uB.out];have e:Sp.rc n ⟨(j:Int),-1,-1,false⟩=⟨(j:Int),n,n,false⟩:=by{unfold Sp.rc;rw[av (show(-1:Int)<0 by decide)]};rw[e];exact HY.out _ n n rG.out.1};have hq:¬sf=-1:=by{omega};have Bv:Hid (Sp.rc n ⟨(j:Int),sf,st,sc⟩=⟨(j:Int),sf,n,sc⟩):=by{show _=_;unfold Sp.rc;rw[au (by simpa using hf)]};clear hun hf;go_enter Try.func53,Try.ntmps53;go_wp2;go_region_with (go_at_call 50;refine(bf _ _).mono ?_;rintro e w4 ⟨rfl,hB4⟩;unfold tZ;have hs4:=HH.out.kept (aK hB4);have wX:=hs4.lt;have wY:=hs4.frozen;obtain⟨e0,e1,e2,e3⟩:=za.out _ hs4;have rG:=ae (aj hs4 (aK hB4));clear hs4 hB4);all_goals go_wp2;refine bodyPost_end (results_none rfl _ _ _) rfl ⟨rfl,?_,eu rG.out.2 (aA _ ⟨g,j*4+2,none⟩ _)⟩;rw[uB.out,Bv.out];exact HX.out _ n rG.out.1
end
theorem xV (n:Int)(h0:0<=n)(h1:n<2 ^ 40):IntKind.u64.wrap n=n:=by rw[IntKind.wrap_u64];omega
theorem ko {n m:Nat}(hn:n<2 ^ 40)(hm:m<2 ^ 40):bits .or .u64 n m=((n|||m:Nat):Int):=(bits_nat .u64 40 (by decide) xV n m hn hm).2
theorem tC {n m:Nat}(hn:n<2 ^ 40)(hm:m<2 ^ 40):bits .and .u64 n m=((n&&& m:Nat):Int):=(bits_nat .u64 40 (by decide) xV n m hn hm).1
theorem rV {n m:Nat}(hn:n<2 ^ 40)(hm:m<2 ^ 40):bits .andNot .u64 n m=((Fl.an n m:Nat):Int):=by have hx:Fl.an n m<2 ^ 40:=Fl.iZ hn;have e:(BitVec.ofInt 64 (n:Int)&&& ~~~BitVec.ofInt 64 (m:Int)).toNat=Fl.an n m:=by{rw[BitVec.toNat_and,BitVec.toNat_not,BitVec.ofInt_natCast,BitVec.ofInt_natCast,BitVec.toNat_ofNat,BitVec.toNat_ofNat,Nat.mod_eq_of_lt (by omega),Nat.mod_eq_of_lt (by omega)];refine Nat.eq_of_testBit_eq fun k=>?_;rw[Nat.testBit_and,Fl.fF,Nat.sub_sub,Nat.add_comm,Nat.testBit_two_pow_sub_succ (by omega)];by_cases h:k<64;{simp[h]};rw[Nat.testBit_lt_two_pow (ai hn (Nat.pow_le_pow_right (by decide) (by omega)))];rfl};show IntKind.u64.wrap ((BitVec.ofInt 64 (n:Int)&&& ~~~BitVec.ofInt 64 (m:Int)).toNat:Int)=_;rw[e];exact xV _ (by omega) (by omega)
theorem sw {j:Nat}(hj:j<=39):IntKind.u64.wrap ((2:Int) ^ j)=((2 ^ j:Nat):Int)/\(2:Nat) ^ j<2 ^ 40:=by have h:(2:Nat) ^ j<2 ^ 40:=Nat.pow_lt_pow_right (by decide) (by omega);refine⟨?_,h⟩;have e:(2:Int) ^ j=((2 ^ j:Nat):Int):=by{simp};rw[e];generalize(2:Nat) ^ j=m at h ⊢;exact xV _ (by omega) (by omega)
theorem tq {n j:Nat}(hn:n<2 ^ 40)(hj:j<=39):bits .or .u64 (n:Int) (IntKind.u64.wrap (2 ^ j))=((n|||2 ^ j:Nat):Int):=by rw[(sw hj).1,ko hn (sw hj).2]
theorem bS (la:Option Addr)(ln lc:Nat)(xs:List Int)(hx:∀y∈xs,0<=y/\y<=39)(hlen:ln<=1000000)(w:World)(hs:IL w la ln xs):Calls Try.prog 61 #[.slice la ln lc] w fun e w'=>e= .returned (.int .u64 ((Fl.mk xs:Nat):Int))/\w'=w:=by have HL:=ae hs.1;have HX:=ae hx;have lX:(ln:Int)<=1000000:=by{omega};go_enter Try.func61,Try.ntmps61;go_wp2;go_loopg [3,8] ln (fun gk vx vi wr=>∃(k q:Nat),gk=ln-k/\k<=ln/\vx= .int .u64 (q:Int)/\vi= .int .i64 (k:Int)/\Hid (q=Fl.mk (xs.take k))/\w=wr);(case atStart=>exact⟨0,0,rfl,by omega,rfl,rfl,(by show _=_;simp[Fl.mk]),rfl⟩);case round=>obtain⟨k,q,kT,hk,rfl,rfl,HQ,aM⟩:=hrel;subst aM;by_cases hlt:k<ln;{have aP:(k:Int)<(ln:Int):=by{omega};have hkl:k<xs.length:=by{rw[HL.out];exact hlt};obtain⟨-,-,h0|⟨lb,lo,rfl,hlb,hcc⟩⟩:=hs;{omega};have hc:=hcc k hlt;have hy:=HX.out (xs.getD k 0) (by rw[af,ah hkl];exact List.getElem_mem hkl);have HS:=ae (Fl.jh hkl);rw[←HQ.out]at HS;have rD:Hid (q<2 ^ 40):=by{show _<_;rw[HQ.out];exact Fl.kN fun y hy=>HX.out y (List.mem_of_mem_take hy)};obtain⟨y,pY⟩:∃y,xs.getD k 0=y:=⟨_,rfl⟩;rw[pY]at hc hy HS;clear pY hkl hx hcc;obtain⟨j,rfl⟩:=Int.eq_ofNat_of_zero_le hy.1;rw[ax]at HS;have hj:(j:Int)<=39:=hy.2;have hor:bits .or .u64 (q:Int) (IntKind.u64.wrap (2 ^ j))=((q|||2 ^ j:Nat):Int):=tq rD.out (by omega);clear hy;go_wp2;go_roundg (ln-(k+1));(case measure=>omega);case rel=>exact⟨k+1,q|||2 ^ j,rfl,hlt,rfl,by simp,(by show _=_;rw[HS.out]),rfl⟩};have hke:k=ln:=by{omega};have HE:Hid (q=Fl.mk xs):=by{show _=_;rw[HQ.out,hke,←HL.out,List.take_length]};have aP:¬(k:Int)<(ln:Int):=by{omega};clear HQ hke;go_wp2;go_ret;exact⟨by rw[←HE.out]<;>rfl,rfl⟩
theorem qY (m k:Nat):(m&&& Fl.mk [(k:Int)]=0↔m.testBit k=false):=by have e:Fl.mk [(k:Int)]=2 ^ k:=by{simp[Fl.mk]};rw[e];constructor;{intro h;have h2:=congrArg (fun n=>n.testBit k) h;simp only[Nat.testBit_and,Nat.testBit_two_pow_self,Nat.zero_testBit,Bool.and_true]at h2;exact h2};intro h;refine Nat.eq_of_testBit_eq fun j=>?_;rw[Nat.testBit_and,Nat.testBit_two_pow,Nat.zero_testBit];by_cases hj:k=j;{subst hj;rw[h];rfl};simp[hj]
theorem gX (m:Nat) (hm:m<2 ^ 40) (w:World):Calls Try.prog 52 #[.int .u64 (m:Int)] w fun e w'=>∃g n c,e= .returned (.slice (some ⟨g,0,none⟩) n c)/\OG w' w.heap.size g n c (Fl.dZ m)/\Below w.heap.size w w':=by
 have ho:=OG.empty w w.heap.size (Nat.le_refl _)
 have hB:=ay w (.cells #[] 2)
 go_enter Try.func52,Try.ntmps52
 go_wp2
 go_loopg [3,6] 40 (fun gk vo vi wr=>∃(k g n c:Nat),gk=40-k/\k<=40/\vo= .slice (some ⟨g,0,none⟩) n c/\vi= .int .i64 (k:Int)/\OG wr w.heap.size g n c (Fl.jy m k)/\Below w.heap.size w wr)
 case atStart=>exact⟨0,_,0,0,rfl,by omega,rfl,rfl,ho,hB⟩
 case round=>
  obtain⟨k,g,n,c,kT,hk,rfl,rfl,hor,hBr⟩:=hrel
  clear ho hB
  have aM:=hBr.size
  have HO:=ae (aj hor hBr)
  clear hor hBr
  by_cases hlt:k<40
  · have aP:(k:Int)<40:=by omega
    have hlen:=Fl.gI m k
    have hnk:n<=k:=by rw[HO.out.1.1]at hlen;exact hlen
    have hal:=ay wr (.cells #[.int .i64 (k:Int)] 2)
    have hcon:=bS (some ⟨wr.heap.size,0,none⟩) 1 1 [(k:Int)] (fun y hy=>by rw[List.mem_singleton]at hy;omega) (by omega) (wr.alloc (.cells #[.int .i64 (k:Int)] 2)) (OI.il (OG.one wr wr.heap.size (Nat.le_refl _) (k:Int)).oi).2
    have hp:Fl.mk [(k:Int)]<2 ^ 40:=Fl.kN fun y hy=>by rw[List.mem_singleton]at hy;omega
    have hAnd:=tC hm hp
    have hbit:=qY m k
    generalize Fl.mk [(k:Int)]=P at hcon hAnd hbit
    generalize m&&& P=z at hAnd hbit
    have HR:=ae (HO.out.1.kept hal)
    have HB:=ae (HO.out.2.trans (hal.mono aM))
    have hg:=HO.out.1.lt
    clear hlen hp
    rcases hb:m.testBit k with _|_
    · have hz:=hbit.2 hb;subst hz;have Af:bits .and .u64 (m:Int) (P:Int)=0:=hAnd;have HE:Hid (Fl.jy m (k+1)=Fl.jy m k):=by{show _=_;rw[Fl.jy,au (by rw[hb];decide)]};clear hb hbit hAnd hal;go_wp2_with(go_at_call 61;refine hcon.mono ?_;rintro e w4 ⟨rfl,hw4⟩;subst w4;dsimp only);go_roundg (40-(k+1));(case measure=>omega);case rel=>exact⟨k+1,g,n,c,rfl,hlt,rfl,by simp,by rw[HE.out];exact HR.out,HB.out⟩
    · have hz:¬(z:Int)=0:=by intro h;have:=hbit.1 (by omega);rw[hb]at this;cases this
      have HE:Hid (Fl.jy m (k+1)=Fl.jy m k++[(k:Int)]):=by show _=_;rw[Fl.jy,av hb]
      clear hb hbit hal
      have uC:=ay (wr.alloc (.cells #[.int .i64 (k:Int)] 2)) (.cells #[.int .i64 (k:Int)] 2)
      have HR2:=ae (HR.out.kept uC)
      have HB2:=ae (HB.out.trans (uC.mono HB.out.size))
      have HC:Hid (∀j,j<1->((wr.alloc (.cells #[.int .i64 (k:Int)] 2)).alloc (.cells #[.int .i64 (k:Int)] 2)).cell? ⟨wr.heap.size+1,0+j,none⟩=some (.int .i64 (([(k:Int)]:List Int).getD j 0))):=fun j hj=>by obtain rfl:j=0:=by{omega};simp
      clear uC
      go_wp2_with(first
        |(go_at_call 61;refine hcon.mono ?_;rintro e w4 ⟨rfl,hw4⟩;subst w4;dsimp only)
        |(at_builtin;refine aN _ rfl _ _ rfl w.heap.size _ _ _ _ rfl HR2.out (wr.heap.size+1) 0 1 1 [(k:Int)] (by simp[Act.eval]) rfl HC.out (by omega) (by simp;omega) ?_;intro g4 c4 N4 w4 z8 mM df;have HF:=ae (aj mM (az HB2.out df (by omega)));clear mM df))
      go_roundg (40-(k+1))
      case measure=>omega
      case rel=>exact⟨k+1,g4,N4,c4,rfl,hlt,rfl,by simp,by rw[HE.out];exact HF.out.1,HF.out.2⟩
  · have hke:k=40:=by{omega};subst hke;go_wp2;go_ret;exact⟨g,n,c,rfl,HO.out.1,HO.out.2⟩
theorem mV (x y:Sp.S)(w:World):Calls Try.prog 24 #[.agg #[.int .i64 x.b, .int .i64 x.f, .int .i64 x.t, .bool x.c], .agg #[.int .i64 y.b, .int .i64 y.f, .int .i64 y.t, .bool y.c]] w fun e w'=>e= .returned (.bool (Sp.aI x y))/\Below w.heap.size w w':=by
 have HM:Hid (Sp.aI x y=decide (max x.f y.f<=min x.t y.t)):=by show _=_;unfold Sp.aI;rw[Bool.eq_iff_iff];simp only[ak,decide_eq_true_eq];omega
 obtain⟨xb,xf,xt,xc⟩:=x
 obtain⟨yb,yf,yt,yc⟩:=y
 dsimp only at HM ⊢
 obtain⟨q,hq⟩:∃q,Sp.aI ⟨xb,xf,xt,xc⟩ ⟨yb,yf,yt,yc⟩=q:=⟨_,rfl⟩
 rw[hq]at HM ⊢
 clear hq
 have hal:=ay w (.cells #[.int .i64 xb, .int .i64 xf, .int .i64 xt, .bool xc] 42)
 have HB:=ae (hal.trans ((ay (w.alloc (.cells #[.int .i64 xb, .int .i64 xf, .int .i64 xt, .bool xc] 42)) (.cells #[.int .i64 yb, .int .i64 yf, .int .i64 yt, .bool yc] 42)).mono hal.size))
 clear hal
 go_enter Try.func24,Try.ntmps24
 go_wp2
 all_goals
  go_ret
  refine⟨?_,HB.out⟩
  first
    |exact(show Ending.returned (.bool (decide (max xf yf<=min xt yt)))=Ending.returned (.bool q)from by rw[HM.out])
    |exact(show Ending.returned (.bool (decide (xf<=xt)))=Ending.returned (.bool q)from by rw[HM.out,show decide (xf<=xt)=decide (max xf yf<=min xt yt)from decide_eq_decide.2 (by omega)])
    |exact(show Ending.returned (.bool (decide (xf<=yt)))=Ending.returned (.bool q)from by rw[HM.out,show decide (xf<=yt)=decide (max xf yf<=min xt yt)from decide_eq_decide.2 (by omega)])
    |exact(show Ending.returned (.bool (decide (yf<=xt)))=Ending.returned (.bool q)from by rw[HM.out,show decide (yf<=xt)=decide (max xf yf<=min xt yt)from decide_eq_decide.2 (by omega)])
    |exact(show Ending.returned (.bool (decide (yf<=yt)))=Ending.returned (.bool q)from by rw[HM.out,show decide (yf<=yt)=decide (max xf yf<=min xt yt)from decide_eq_decide.2 (by omega)])
def OT (W:World)(n₀:Nat)(v:Value)(xs:List Int):Prop:=∃t,W.ownsRow n₀ t 1 v xs.length (xs.map iv)
theorem OI.ot {W:World}{n₀:Nat}{v:Value}{xs:List Int}(h:OI W n₀ v xs):OT W n₀ v xs:=⟨_,h⟩
theorem OT.slice {W:World}{n₀:Nat}{v:Value}{xs:List Int}(h:OT W n₀ v xs):∃a cap,v= .slice a xs.length cap/\IL W a xs.length xs:=by obtain⟨t,h⟩:=h;rcases h.2 with⟨rfl,h0⟩|⟨g,cap,cur,rfl,hb,hc,hn,hm,hs,ht⟩;{exact⟨none,0,by rw[h0],rfl,by rw[h0];exact Nat.zero_le _, .inl h0⟩};refine⟨_,cap,rfl,rfl,Nat.le_trans hn hm, .inr ⟨g,0,rfl,(h.lt g rfl).2,fun j hj=>?_⟩⟩;have:=h.cellAt j (by omega);rw[Nat.zero_add,this,List.getElem?_map,ah hj,af,ah hj];rfl
theorem OT.il {W:World}{n₀:Nat}{a:Option Addr}{n c:Nat}{xs:List Int}(h:OT W n₀ (.slice a n c) xs):n=xs.length/\IL W a n xs:=by obtain⟨a',c',e,hil⟩:=h.slice;simp only[Value.slice.injEq]at e;obtain⟨rfl,rfl,rfl⟩:=e;exact⟨rfl,hil⟩
theorem OT.kept {W W':World}{n₀:Nat}{v:Value}{xs:List Int}(h:OT W n₀ v xs)(hB:Below W.heap.size W W'):OT W' n₀ v xs:=by obtain⟨t,h⟩:=h;refine⟨t,World.ownsRow.kept (row:=none) h ⟨hB.os,hB.tape,hB.output,hB.size,fun k hk _=>hB.block k hk⟩ ?_⟩;rcases hv:v.ownBlock with _|b;{exact .inl rfl};exact .inr (by simp)
theorem OT.gm {W W':World}{n₀ b:Nat}{v:Value}{xs:List Int}(h:OT W n₀ v xs)(hg:W.grownBy W' (some b))(hne:∀g,v.ownBlock=some g->g≠b):OT W' n₀ v xs:=by obtain⟨t,h⟩:=h;refine⟨t,World.ownsRow.kept h hg ?_⟩;rcases hv:v.ownBlock with _|b';{exact .inl rfl};refine .inr ?_;have:=hne b' hv;simp only[ne_eq,Option.some.injEq];omega
theorem OT.mono {W:World}{n₀ n₁:Nat}{v:Value}{xs:List Int}(h:OT W n₁ v xs)(hn:n₀<=n₁):OT W n₀ v xs:=by obtain⟨t,h⟩:=h;refine⟨t,h.1,?_⟩;rcases h.2 with h'|⟨g',cap',cur,h',hb,r⟩;{exact .inl h'};exact .inr ⟨g',cap',cur,h',Nat.le_trans hn hb,r⟩
theorem OT.lt {W:World}{n₀:Nat}{v:Value}{xs:List Int}(h:OT W n₀ v xs)(g:Nat)(hg:v.ownBlock=some g):n₀<=g/\g<W.heap.size:=by obtain⟨t,h⟩:=h;exact World.ownsRow.lt h g hg
theorem dW.ot {W:World}{n₀ g:Nat}{t:TypeId}{xs:List Int}(h:dW W g t (xs.map iv))(hg:n₀<=g)(hm:xs.length<=maxLen):OT W n₀ (.slice (some ⟨g,0,none⟩) xs.length xs.length) xs:=
 ⟨t,by simp, .inr ⟨g,xs.length,(xs.map iv).toArray,rfl,hg,h,Nat.le_refl _,hm,by simp,by rw[Nat.mul_one];exact List.take_of_length_le (by simp)⟩⟩
theorem bC (a:Option Addr)(len cap:Nat)(xs:List Int)(h20:len<=1048576)(w:World)(hs:IL w a len xs):Calls Try.prog 8 #[.slice a len cap] w fun e w'=>∃g c,e= .returned (.slice (some ⟨g,0,none⟩) len c)/\w.heap.size<=g/\OI w' w.heap.size (.slice (some ⟨g,0,none⟩) len c) xs/\Below w.heap.size w w':=by obtain⟨hl,hm,hrow⟩:=hs;have HL:=ae hl;clear hm hl;obtain⟨i0,hi,hz0,hz1,hz2⟩:=info_parts eY;obtain⟨wm,hmk,hown,hgrow⟩:=run_make_full (P:=Try.prog) w w.heap.size 23 2 i0 _ 1 Try.underlying23 hi hz0 hz1 .i64 .i64 len (by rw[hz2];omega) (by simp only[maxLen];omega) (Nat.le_refl _);have hBm:Below w.heap.size w wm:=⟨hgrow.os,hgrow.tape,hgrow.output,hgrow.size,fun k hk=>hgrow.block k hk (by simp)⟩;have hown0:wm.ownsRow w.heap.size 2 1 (.slice (some ⟨w.heap.size,0,none⟩) len len) len ((List.replicate len 0).map iv):=by{have e:(madeCells (Value.int .i64 0).cells (len*1)).toList=List.replicate (len*1) (iv 0):=toList_madeCells_one _ _;rw[List.map_replicate];rw[e,Nat.mul_one]at hown;exact hown};clear hown hgrow;go_enter Try.func8,Try.ntmps8;go_wp2;go_loopw [4] (fun i wr=>∃(k:Nat)(ys:List Int),i= .int .i64 k/\k<=len/\ys.length=len/\(∀j,j<k->ys.getD j 0=xs.getD j 0)/\wr.ownsRow w.heap.size 2 1 (.slice (some ⟨w.heap.size,0,none⟩) len len) len (ys.map iv)/\Below w.heap.size w wr) (fun i _=>len-(intOf i).toNat);(case atStart=>exact⟨0,List.replicate len 0,rfl,Nat.zero_le _,by simp,by simp,hown0,hBm⟩);case round=>obtain⟨k,ys,rfl,hk,hyl,hys,hown,hB⟩:=hrel;have HY:=ae (aj hyl hys);clear hown0;by_cases hlt:k<len;{rcases hrow with h0|⟨b,off,rfl,hb,hx⟩;{omega};have hx0:=(hB.cell (p:=⟨b,off+k,none⟩) hb).trans (hx k hlt);obtain⟨p,hp⟩:∃p,xs.getD k 0=p:=⟨_,rfl⟩;rw[hp]at hx0;have HP:=ae hp;have hc0:=hown.cellAt k (by omega);rw[jH (by omega)]at hc0;obtain⟨q,hq⟩:∃q,ys.getD k 0=q:=⟨_,rfl⟩;rw[hq]at hc0;have hf0:=hown.frozenAt k;have l5:=hown.stored k (.int .i64 p);rw[←bz ys k]at l5;have HST:=ae l5.1;have HB:=ae (hB.setCell (p:=⟨w.heap.size,k,none⟩) (Nat.le_refl _) (.int .i64 p));clear hyl hys hp hq l5 hown hx hB;unfold iv at hc0;go_wp2;go_roundw;(case rel=>obtain⟨y1,y2⟩:=ow (f:=fun j=>xs.getD j 0) HY.out hlt HP.out;exact⟨k+1,ys.set k p,by simp,by omega,y1,y2,HST.out,HB.out⟩);case measure=>simp[intOf];omega};have hke:k=len:=by{omega};subst hke;have e:ys=xs:=pV HY.out HL.out;subst e;have HO:=ae (aj hown hB);clear hyl hys hown hB hrow HY;go_wp2;go_ret;refine⟨_,_,rfl,Nat.le_refl _,?_,HO.out.2⟩;unfold OI;rw[HL.out];exact HO.out.1
abbrev Lv:=Int×Int×Int×Int×Int×Value
def gJ:Lv:=(0,0,0,0,0, .slice none 0 0)
def bH (xs:List Lv):List Value:=xs.flatMap fun x=>[.int .i64 x.1, .int .i64 x.2.1, .int .i64 x.2.2.1, .int .i64 x.2.2.2.1, .int .i64 x.2.2.2.2.1,x.2.2.2.2.2]
theorem dA (x:Lv)(xs:List Lv):bH (x::xs)= .int .i64 x.1:: .int .i64 x.2.1:: .int .i64 x.2.2.1:: .int .i64 x.2.2.2.1:: .int .i64 x.2.2.2.2.1::x.2.2.2.2.2::bH xs:=rfl
theorem eX (xs:List Lv):(bH xs).length=xs.length*6:=by
 induction xs with
 |nil=>rfl
 |cons x xs ih=>rw[dA];simp only[List.length_cons,ih];omega
theorem dU:∀(xs:List Lv)(j:Nat),j<xs.length->(bH xs)[j*6]?=some (.int .i64 (xs.getD j gJ).1)/\(bH xs)[j*6+1]?=some (.int .i64 (xs.getD j gJ).2.1)/\(bH xs)[j*6+2]?=some (.int .i64 (xs.getD j gJ).2.2.1)/\(bH xs)[j*6+3]?=some (.int .i64 (xs.getD j gJ).2.2.2.1)/\(bH xs)[j*6+4]?=some (.int .i64 (xs.getD j gJ).2.2.2.2.1)/\(bH xs)[j*6+5]?=some (xs.getD j gJ).2.2.2.2.2
 |[],j,h=>by simp at h
 |x::xs,0,h=>⟨rfl,rfl,rfl,rfl,rfl,rfl⟩
 | x::xs,j+1,h=>by
   have ih:=dU xs j (by simpa using h)
   have e:(x::xs).getD (j+1) gJ=xs.getD j gJ:=rfl
   rw[e,dA]
   refine⟨?_,?_,?_,?_,?_,?_⟩
   · rw[show(j+1)*6=j*6+1+1+1+1+1+1 by omega];simp only[List.getElem?_cons_succ];exact ih.1
   · rw[show(j+1)*6+1=j*6+1+1+1+1+1+1+1 by omega];simp only[List.getElem?_cons_succ];exact ih.2.1
   · rw[show(j+1)*6+2=j*6+2+1+1+1+1+1+1 by omega];simp only[List.getElem?_cons_succ];exact ih.2.2.1
   · rw[show(j+1)*6+3=j*6+3+1+1+1+1+1+1 by omega];simp only[List.getElem?_cons_succ];exact ih.2.2.2.1
   · rw[show(j+1)*6+4=j*6+4+1+1+1+1+1+1 by omega];simp only[List.getElem?_cons_succ];exact ih.2.2.2.2.1
   · rw[show(j+1)*6+5=j*6+5+1+1+1+1+1+1 by omega];simp only[List.getElem?_cons_succ];exact ih.2.2.2.2.2
theorem iV:∀(xs:List Lv)(k:Nat)(x:Lv),bH (xs.set k x)=((((((bH xs).set (k*6) (.int .i64 x.1)).set (k*6+1) (.int .i64 x.2.1)).set (k*6+2) (.int .i64 x.2.2.1)).set (k*6+3) (.int .i64 x.2.2.2.1)).set (k*6+4) (.int .i64 x.2.2.2.2.1)).set (k*6+5) x.2.2.2.2.2
 |[],k,x=>rfl
 |y::xs,0,x=>rfl
 | y::xs,k+1,x=>by
   rw[List.set_cons_succ,dA,iV xs k x,dA]
   rw[show(k+1)*6=k*6+1+1+1+1+1+1 by omega]
   simp only[List.set_cons_succ]
theorem lD (n:Nat):(madeCells #[.int .i64 0, .int .i64 0, .int .i64 0, .int .i64 0, .int .i64 0, .slice none 0 0] (n*6)).toList=bH (List.replicate n gJ):=by apply List.ext_getElem?;intro i;by_cases hi:i<n*6;{have hj:i / 6<n:=by{omega};have hg:=dU (List.replicate n gJ) (i / 6) (by simpa using hj);have e0:(List.replicate n gJ).getD (i / 6) gJ=gJ:=by{simp[af,hj]};rw[e0]at hg;have hL:(madeCells #[.int .i64 0, .int .i64 0, .int .i64 0, .int .i64 0, .int .i64 0, .slice none 0 0] (n*6)).toList[i]?=some ((#[.int .i64 0, .int .i64 0, .int .i64 0, .int .i64 0, .int .i64 0, .slice none 0 0]:Array Value)[i%6]?.getD default):=by{simp[madeCells,hi]};rw[hL];have h4:i%6=0\/i%6=1\/i%6=2\/i%6=3\/i%6=4\/i%6=5:=by{omega};rcases h4 with e|e|e|e|e|e;{rw[e,show i=i / 6*6 by omega,hg.1];rfl};{rw[e,show i=i / 6*6+1 by omega,hg.2.1];rfl};{rw[e,show i=i / 6*6+2 by omega,hg.2.2.1];rfl};{rw[e,show i=i / 6*6+3 by omega,hg.2.2.2.1];rfl};{rw[e,show i=i / 6*6+4 by omega,hg.2.2.2.2.1];rfl};rw[e,show i=i / 6*6+5 by omega,hg.2.2.2.2.2];rfl};rw[List.getElem?_eq_none (by simp[madeCells];omega),List.getElem?_eq_none (by rw[eX];simp;omega)]
def gD (W:World)(n₀ k:Nat)(vs:List Lv)(fs:List Ln):Prop:=
 ∀j,j<k->(vs.getD j gJ).1=(fs.getD j .z).k/\(vs.getD j gJ).2.1=(fs.getD j .z).d/\(vs.getD j gJ).2.2.1=(fs.getD j .z).a/\(vs.getD j gJ).2.2.2.1=(fs.getD j .z).b/\(vs.getD j gJ).2.2.2.2.1=(fs.getD j .z).n/\OI W n₀ (vs.getD j gJ).2.2.2.2.2 (fs.getD j .z).l
theorem gD.kept {W W':World}{n₀ k:Nat}{vs:List Lv}{fs:List Ln}(h:gD W n₀ k vs fs)(hB:Below W.heap.size W W'):gD W' n₀ k vs fs:=fun j hj=>by
 obtain⟨h0,h1,h2,h3,h4,h5⟩:=h j hj
 exact⟨h0,h1,h2,h3,h4,h5.kept hB⟩
theorem gD.other {W W':World}{n₀ k b:Nat}{vs:List Lv}{fs:List Ln}(h:gD W n₀ k vs fs)(hg:W.grownBy W' (some b))(hne:b<n₀):gD W' n₀ k vs fs:=fun j hj=>by
 obtain⟨h0,h1,h2,h3,h4,h5⟩:=h j hj
 exact⟨h0,h1,h2,h3,h4,h5.gm hg (fun g hgg=>by have:=(World.ownsRow.lt h5 g hgg).1;omega)⟩
theorem gD.mono {W:World}{n₀ n₁ k:Nat}{vs:List Lv}{fs:List Ln}(h:gD W n₁ k vs fs)(hn:n₀<=n₁):gD W n₀ k vs fs:=fun j hj=>by
 obtain⟨h0,h1,h2,h3,h4,h5⟩:=h j hj
 exact⟨h0,h1,h2,h3,h4,h5.mono hn⟩
theorem mW {W:World}{n₀ n₁ g n cap:Nat}{vs:List Lv}{fs:List Ln}(h:W.ownsRow n₀ 44 6 (.slice (some ⟨g,0,none⟩) n cap) n (bH vs))(hn:fs.length=n)(ht:gD W n₁ n vs fs):LL W (some ⟨g,0,none⟩) n fs:=by have hv:n=vs.length:=by{have:=h.1;rw[eX]at this;omega};have hlt:=World.ownsRow.lt h g rfl;have hmx:n<=maxLen:=by{rcases h.2 with⟨h',_⟩|⟨g',cap',cur,h',_,_,hc,hm,_⟩;{cases h'};cases h';exact Nat.le_trans hc hm};refine⟨hn,hmx, .inr ⟨g,0,rfl,hlt.2,fun j hj=>?_⟩⟩;obtain⟨g0,g1,g2,g3,g4,g5⟩:=dU vs j (by omega);obtain⟨t0,t1,t2,t3,t4,t5⟩:=ht j hj;rw[Nat.zero_add];refine⟨(World.ownsRow.cellAt h (j*6) (by omega)).trans (by rw[g0,t0]),(World.ownsRow.cellAt h (j*6+1) (by omega)).trans (by rw[g1,t1]),(World.ownsRow.cellAt h (j*6+2) (by omega)).trans (by rw[g2,t2]),(World.ownsRow.cellAt h (j*6+3) (by omega)).trans (by rw[g3,t3]),(World.ownsRow.cellAt h (j*6+4) (by omega)).trans (by rw[g4,t4]),?_⟩;obtain⟨sa,sc,e,hs⟩:=t5.slice;exact⟨sa,_,sc,(World.ownsRow.cellAt h (j*6+5) (by omega)).trans (by rw[g5,e]),hs⟩
def yA (W:World)(n₀:Nat)(v:Value)(fs:List Ln):Prop:=
 ∃g cap vs,v= .slice (some ⟨g,0,none⟩) fs.length cap/\W.ownsRow n₀ 44 6 (.slice (some ⟨g,0,none⟩) fs.length cap) fs.length (bH vs)/\gD W n₀ fs.length vs fs
theorem yA.LL {W:World}{n₀:Nat}{v:Value}{fs:List Ln}(h:yA W n₀ v fs):∃g cap,v= .slice (some ⟨g,0,none⟩) fs.length cap/\n₀<=g/\g<W.heap.size/\Go.Proofs.Ytpipjiinmhopmaa.LL W (some ⟨g,0,none⟩) fs.length fs:=by obtain⟨g,cap,vs,rfl,hrow,ht⟩:=h;exact⟨g,cap,rfl,(World.ownsRow.lt hrow g rfl).1,(World.ownsRow.lt hrow g rfl).2,mW hrow rfl ht⟩
theorem mU:(Try.prog.info? 44).map (fun i=>(i.zero,i.size,i.bytes))=some (some (.agg #[.int .i64 0, .int .i64 0, .int .i64 0, .int .i64 0, .int .i64 0, .slice none 0 0]),6,64):=by kernel_rfl
end Go.Proofs.Ytpipjiinmhopmaa
