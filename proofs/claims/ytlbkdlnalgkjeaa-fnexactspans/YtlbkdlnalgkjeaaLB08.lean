/-
  Own texts for a law: SpI0 Shp3 Shp4 Shp5 Shp6 Shp7 ShpL Shp8
-/
import Derived.Test.YtlbkdlnalgkjeaaLB07
import Derived.Ground.SlgnProg
import Derived.Shelf.SortG.Plain
import Derived.Shelf.SortG.SortNone
import Derived.Shelf.SlicesG.CompactI
import Derived.Test.YtlbkdlnalgkjeaaProg
import Derived.Lib.RowBridge
import Derived.Sort.OwnSortedInts
namespace Go.Proofs.Ytlbkdlnalgkjeaa
open Go.RowKit Go.Shelf
set_option linter.all false
set_option maxRecDepth 100000
set_option maxHeartbeats 16000000
section
set_option linter.unusedSimpArgs false
def vV (b:Int):Value:= .agg #[.int .i64 b, .int .i64 (-1), .int .i64 (-1), .bool false]
theorem bP:∀(l:List Sp.S)(k:Nat)(y:Sp.S),k<l.length->aL (l.set k y)=((((aL l).set (k*4) (.int .i64 y.b)).set (k*4+1) (.int .i64 y.f)).set (k*4+2) (.int .i64 y.t)).set (k*4+3) (.bool y.c)
 |[],k,y,h=>by simp at h
 |s::l,0,y,_=>rfl
 | s::l,k+1,y,h=>by
   have ih:=bP l k y (by simpa using h)
   rw[List.set_cons_succ,eY,eY,show(k+1)*4=k*4+1+1+1+1 by omega,show k*4+1+1+1+1+1=(k*4+1)+1+1+1+1 by omega,show k*4+1+1+1+1+2=(k*4+2)+1+1+1+1 by omega,show k*4+1+1+1+1+3=(k*4+3)+1+1+1+1 by omega]
   simp only[List.set_cons_succ]
   rw[ih]
theorem dH {α:Type _}{l:List α}{j:Nat}{x:α}(h:l[j]?=some x):l.set j x=l:=by obtain⟨h1,h2⟩:=List.getElem?_eq_some_iff.1 h;rw[←h2];exact List.set_getElem_self h1
theorem kJ {α:Type _}{l:List α}{i j:Nat}{x:α}(h:i≠j):(l.set i x)[j]?=l[j]?:=List.getElem?_set_ne h
def SA (W:World)(g:Nat)(l:List Sp.S):Prop:=l.length=40/\eG W g 76 (aL l)
theorem SA.lt {W:World}{g:Nat}{l:List Sp.S}(h:SA W g l):g<W.heap.size:=h.2.lt
theorem SA.kept {W W':World}{g:Nat}{l:List Sp.S}(h:SA W g l)(hB:Below W.heap.size W W'):SA W' g l:=⟨h.1,h.2.kept hB⟩
theorem SA.bM {W W':World}{g:Nat}{l:List Sp.S}{row:Option Nat}(h:SA W g l)(hg:W.grownBy W' row)(hne:some g≠row):SA W' g l:=⟨h.1,h.2.bM hg hne⟩
theorem SA.frozen {W:World}{g:Nat}{l:List Sp.S}(h:SA W g l)(j:Nat):W.frozen? ⟨g,j,none⟩=false:=h.2.frozen j
theorem SA.cell {W:World}{g:Nat}{l:List Sp.S}(h:SA W g l){j:Nat}(hj:j<40):W.cell? ⟨g,j*4,none⟩=some (.int .i64 (l.getD j .z).b)/\W.cell? ⟨g,j*4+1,none⟩=some (.int .i64 (l.getD j .z).f)/\W.cell? ⟨g,j*4+2,none⟩=some (.int .i64 (l.getD j .z).t)/\W.cell? ⟨g,j*4+3,none⟩=some (.bool (l.getD j .z).c):=by obtain⟨h0,h1,h2,h3⟩:=bO l j (by rw[h.1];exact hj);exact⟨h.2.cell h0,h.2.cell h1,h.2.cell h2,h.2.cell h3⟩
theorem SA.put {W:World}{g:Nat}{l:List Sp.S}(h:SA W g l){j:Nat}(hj:j<40)(b f t:Int)(c:Bool):SA ((((W.setCell ⟨g,j*4,none⟩ (.int .i64 b)).setCell ⟨g,j*4+1,none⟩ (.int .i64 f)).setCell ⟨g,j*4+2,none⟩ (.int .i64 t)).setCell ⟨g,j*4+3,none⟩ (.bool c)) g (l.set j ⟨b,f,t,c⟩):=by refine⟨by rw[List.length_set];exact h.1,?_⟩;rw[bP l j ⟨b,f,t,c⟩ (by rw[h.1];exact hj)];exact(((h.2.set _ _).set _ _).set _ _).set _ _
theorem SA.to {W:World}{g:Nat}{l:List Sp.S}(h:SA W g l){j:Nat}(hj:j<40)(t:Int):SA (W.setCell ⟨g,j*4+2,none⟩ (.int .i64 t)) g (l.set j ⟨(l.getD j .z).b,(l.getD j .z).f,t,(l.getD j .z).c⟩):=by refine⟨by rw[List.length_set];exact h.1,?_⟩;have hlt:j<l.length:=by{rw[h.1];exact hj};rw[bP l j _ hlt];obtain⟨h0,h1,h2,h3⟩:=bO l j hlt;rw[dH h0,dH h1];have e:(((aL l).set (j*4+2) (.int .i64 t)).set (j*4+3) (.bool (l.getD j .z).c))=(aL l).set (j*4+2) (.int .i64 t):=dH (by rw[kJ (by omega)];exact h3);dsimp only;rw[e];exact h.2.set _ _
theorem SA.fr {W:World}{g:Nat}{l:List Sp.S}(h:SA W g l){j:Nat}(hj:j<40)(f:Int):SA (W.setCell ⟨g,j*4+1,none⟩ (.int .i64 f)) g (l.set j ⟨(l.getD j .z).b,f,(l.getD j .z).t,(l.getD j .z).c⟩):=by refine⟨by rw[List.length_set];exact h.1,?_⟩;have hlt:j<l.length:=by{rw[h.1];exact hj};rw[bP l j _ hlt];obtain⟨h0,h1,h2,h3⟩:=bO l j hlt;rw[dH h0];dsimp only;have e2:((aL l).set (j*4+1) (.int .i64 f)).set (j*4+2) (.int .i64 (l.getD j .z).t)=(aL l).set (j*4+1) (.int .i64 f):=dH (by rw[kJ (by omega)];exact h2);rw[e2];have e3:((aL l).set (j*4+1) (.int .i64 f)).set (j*4+3) (.bool (l.getD j .z).c)=(aL l).set (j*4+1) (.int .i64 f):=dH (by rw[kJ (by omega)];exact h3);rw[e3];exact h.2.set _ _
theorem SA.cr {W:World}{g:Nat}{l:List Sp.S}(h:SA W g l){j:Nat}(hj:j<40):SA (W.setCell ⟨g,j*4+3,none⟩ (.bool true)) g (l.set j (Sp.xd (l.getD j .z))):=by refine⟨by rw[List.length_set];exact h.1,?_⟩;have hlt:j<l.length:=by{rw[h.1];exact hj};unfold Sp.xd;rw[bP l j _ hlt];obtain⟨h0,h1,h2,h3⟩:=bO l j hlt;rw[dH h0];dsimp only;rw[dH h1,dH h2];exact h.2.set _ _
theorem oI {l:List Sp.S}{j:Nat}(hj:j<l.length)(y:Sp.S):(l.set j y).getD j .z=y:=by rw[ah,List.getElem?_set_self hj];rfl
theorem SA.both {W:World}{g:Nat}{l:List Sp.S}(h:SA W g l){j:Nat}(hj:j<40)(f t:Int):SA ((W.setCell ⟨g,j*4+1,none⟩ (.int .i64 f)).setCell ⟨g,j*4+2,none⟩ (.int .i64 t)) g (l.set j ⟨(l.getD j .z).b,f,t,(l.getD j .z).c⟩):=by have h1:=(h.fr hj f).to hj t;have e:∀y,(l.set j y).getD j .z=y:=fun y=>oI (by rw[h.1];exact hj) y;simp only[e,List.set_set]at h1;exact h1
theorem o9 (W:World)(g a b c d:Nat)(u v x y:Value):W.grownBy ((((W.setCell ⟨g,a,none⟩ u).setCell ⟨g,b,none⟩ v).setCell ⟨g,c,none⟩ x).setCell ⟨g,d,none⟩ y) (some g):=
 (((aA W ⟨g,a,none⟩ u).trans (aA _ ⟨g,b,none⟩ v)).trans (aA _ ⟨g,c,none⟩ x)).trans (aA _ ⟨g,d,none⟩ y)
theorem mK (W:World)(g a b:Nat)(u v:Value):W.grownBy ((W.setCell ⟨g,a,none⟩ u).setCell ⟨g,b,none⟩ v) (some g):=(aA W ⟨g,a,none⟩ u).trans (aA _ ⟨g,b,none⟩ v)
theorem eP {W W1 W2:World}{g:Nat}(hB:Below W.heap.size W W1)(hg:W1.grownBy W2 (some g)):W.grownBy W2 (some g):=
 ⟨hg.os.trans hB.os,hg.tape.trans hB.tape,hg.output.trans hB.output,Nat.le_trans hB.size hg.size,fun k hk hne=>(hg.block k (aj hk hB.size) hne).trans (hB.block k hk)⟩
theorem aM {W W1:World}{n:Nat}(hB:Below (W.drewN n).heap.size (W.drewN n) W1):Below W.heap.size W W1:=⟨hB.os,hB.tape,hB.output,hB.size,fun k hk=>hB.block k hk⟩
def NL (k:Nat):List Sp.S:=(List.range 40).map fun(b:Nat)=>if b<k then⟨(b:Int),-1,-1,false⟩else⟨0,0,0,false⟩
theorem wu:NL 40=(List.range 40).map fun(b:Nat)=>⟨(b:Int),-1,-1,false⟩:=by refine List.map_congr_left fun b hb=>?_;rw[ax (List.mem_range.1 hb)]
theorem rX (k:Nat)(hk:k<40):NL (k+1)=(NL k).set k ⟨(k:Int),-1,-1,false⟩:=by refine List.ext_getElem? fun j=>?_;by_cases h:k=j;{subst h;rw[List.getElem?_set_self (by simp[NL];exact hk)];simp[NL,hk]};rw[List.getElem?_set_ne h];unfold NL;rw[List.getElem?_map,List.getElem?_map];by_cases hj:j<40;{rw[List.getElem?_range hj];simp only[Option.map_some];by_cases h2:j<k;{rw[ax (by omega),ax h2]};rw[av (by omega),av h2]};rw[List.getElem?_eq_none (by simp;omega)];rfl
theorem bB (b:Int)(w:World):Calls Try.prog 41 #[.int .i64 b] w fun e w'=>e= .returned (vV b)/\Below w.heap.size w w':=by go_enter Try.func41,Try.ntmps41;go_wp2;refine bodyPost_ret (v:=vV b) ?_ rfl ⟨rfl,ay w _⟩;rw[aB rfl];go_simp;rfl
theorem qh:Try.prog.built 76 []=some (aL (NL 0)).toArray:=by kernel_rfl
theorem mZ {ops:Array Oper}{rest:List Oper}{o:Oper}{a:Act}{w:World}{Q:Exit->Act->World->Prop}(hgd:o.guard=none)(ho:o.op= .build 76 #[])(zs:List Value)(hz:aL (NL 0)=zs)(h:wpList Try.prog ops Q rest (a.put o.dst (.agg zs.toArray)) w):wpList Try.prog ops Q (o::rest) a w:=by refine wpList_plain hgd fun K hK=>?_;have hrun:=run_build (P:=Try.prog) w 76 #[] _ qh;rw[hz]at hrun;unfold Oper.wp execOp;simp only[ho,Sem.run_bind];rw[show(Array.map (fun x:Nat×Operand=>(x.fst,a.eval x.snd)) #[])=#[]from by simp,hrun];simp only[Result.andThen_ok];exact hK _ _ h
theorem dz (w:World):Calls Try.prog 25 #[] w fun e w'=>∃g,e= .returned (.pointer (some ⟨g,0,none⟩))/\w.heap.size<=g/\SA w' g (NL 40)/\Below w.heap.size w w':=by obtain⟨zs,hzs⟩:∃zs,aL (NL 0)=zs:=⟨_,rfl⟩;have HZ:=ae hzs;go_enter Try.func25,Try.ntmps25;go_wp2_with(refine nk 76 _ rfl ?_);refine⟨?_⟩;refine mZ rfl rfl zs hzs ?_;go_wp2_with(refine qg 76 _ rfl ?_);refine⟨?_⟩;refine lQ rfl _ _ rfl zs rfl ?_;intro g1 w1 hg1 hA1 hB1;have HA:=ae (show SA w1 g1 (NL 0)/\Below w.heap.size w w1 from⟨⟨by simp[NL],by rw[HZ.out];exact hA1⟩,hB1⟩);have hge:w.heap.size<=g1:=Nat.le_of_eq hg1.out.symm;clear hg1 hA1 hB1 hzs HZ;go_wp2;go_loopg [5] 40 (fun gk vi wr=>∃(k:Nat),gk=40-k/\k<=40/\vi= .int .i64 (k:Int)/\SA wr g1 (NL k)/\Below w.heap.size w wr);(case atStart=>exact⟨0,rfl,by omega,rfl,HA.out.1,HA.out.2⟩);case round=>obtain⟨k,nI,hk,rfl,hs,hB⟩:=hrel;clear HA;have HH:=ae (ak hs hB);by_cases hlt:k<40;{have aX:(k:Int)<40:=by{omega};have hgl:=hs.lt;have hfz:=hs.frozen;have aY:=hB.size;obtain⟨d0,d1,d2,d3⟩:=hs.cell hlt;clear hs hB;go_wp2_with fail;go_region_with (go_at_call 41;refine(bB _ _).mono ?_;rintro e w4 ⟨rfl,hB4⟩;unfold vV;have hs4:=HH.out.1.kept (aM hB4);have bX:=HH.out.2.trans ((aM hB4).mono aY);have yU:=hs4.lt;have yV:=hs4.frozen;obtain⟨e0,e1,e2,e3⟩:=hs4.cell hlt;have tY:=ae (ak hs4 bX);clear hs4 bX hB4);have HF:=ae (ak (tY.out.1.put hlt (k:Int) (-1) (-1) false) (az tY.out.2 (o9 _ g1 (k*4) (k*4+1) (k*4+2) (k*4+3) (.int .i64 (k:Int)) (.int .i64 (-1)) (.int .i64 (-1)) (.bool false)) hge));rw[←rX k hlt]at HF;go_wp2;go_roundg (40-(k+1));(case measure=>omega);case rel=>exact⟨k+1,rfl,hlt,by simp,HF.out.1,HF.out.2⟩};have hke:k=40:=by{omega};subst hke;clear hs hB;go_wp2;go_ret;exact⟨g1,rfl,hge,HH.out.1,HH.out.2⟩
theorem mM (l:List Sp.S)(hv:Sp.Vs l)(j:Nat)(hj:j<40)(n:Int)(g:Nat)(w:World)(hs:SA w g l):Calls Try.prog 44 #[.pointer (some ⟨g,0,none⟩), .int .i64 (j:Int), .int .i64 n] w fun e w'=>e= .returned (.tuple #[])/\SA w' g (Sp.on (Sp.rc n) l (j:Int))/\w.grownBy w' (some g):=by have AJ:(j:Int)<40:=by{omega};have HH:=ae hs;have hgl:=hs.lt;have hfz:=hs.frozen;obtain⟨d0,d1,d2,d3⟩:=hs.cell hj;have wG:Hid (Sp.on (Sp.rc n) l (j:Int)=l.set j (Sp.rc n (l.getD j .z))):=rfl;have hbx:=hv.bx j hj;have hun:=hv.un j hj;have HX:Hid (∀W t,SA W g l->SA (W.setCell ⟨g,j*4+2,none⟩ (.int .i64 t)) g (l.set j ⟨(l.getD j .z).b,(l.getD j .z).f,t,(l.getD j .z).c⟩)):=fun W t h=>h.to hj t;have HY:Hid (∀W f t,SA W g l->SA ((W.setCell ⟨g,j*4+1,none⟩ (.int .i64 f)).setCell ⟨g,j*4+2,none⟩ (.int .i64 t)) g (l.set j ⟨(l.getD j .z).b,f,t,(l.getD j .z).c⟩)):=fun W f t h=>h.both hj f t;have AY:Hid (∀W,SA W g l->W.cell? ⟨g,j*4,none⟩=some (.int .i64 (l.getD j .z).b)/\W.cell? ⟨g,j*4+1,none⟩=some (.int .i64 (l.getD j .z).f)/\W.cell? ⟨g,j*4+2,none⟩=some (.int .i64 (l.getD j .z).t)/\W.cell? ⟨g,j*4+3,none⟩=some (.bool (l.getD j .z).c)):=fun W h=>h.cell hj;generalize l.getD j .z=s at d0 d1 d2 d3 hbx hun HX HY wG AY;obtain⟨l2,hl2⟩:∃l2,Sp.on (Sp.rc n) l (j:Int)=l2:=⟨_,rfl⟩;rw[hl2]at wG ⊢;obtain⟨sb,sf,st,sc⟩:=s;dsimp only at hbx hun d0 d1 d2 d3;subst hbx;clear hs hv hl2;by_cases hf:sf<0;{have h2:=hun hf;injection h2 with _ h3 h4 h5;subst h3 h4 h5;clear hun hf;go_enter Try.func44,Try.ntmps44;go_wp2;go_region_with (go_at_call 41;refine(bB _ _).mono ?_;rintro e w4 ⟨rfl,hB4⟩;unfold vV;have hs4:=HH.out.kept (aM hB4);have yU:=hs4.lt;have yV:=hs4.frozen;obtain⟨e0,e1,e2,e3⟩:=AY.out _ hs4;have tY:=ae (ak hs4 (aM hB4));clear hs4 hB4);all_goals go_wp2;refine bodyPost_end (results_none rfl _ _ _) rfl ⟨rfl,?_,eP tY.out.2 (mK _ _ _ _ _ _)⟩;rw[wG.out];have e:Sp.rc n ⟨(j:Int),-1,-1,false⟩=⟨(j:Int),n,n,false⟩:=by{unfold Sp.rc;rw[ax (show(-1:Int)<0 by decide)]};rw[e];exact HY.out _ n n tY.out.1};have hq:¬sf=-1:=by{omega};have DJ:Hid (Sp.rc n ⟨(j:Int),sf,st,sc⟩=⟨(j:Int),sf,n,sc⟩):=by{show _=_;unfold Sp.rc;rw[av (by simpa using hf)]};clear hun hf;go_enter Try.func44,Try.ntmps44;go_wp2;go_region_with (go_at_call 41;refine(bB _ _).mono ?_;rintro e w4 ⟨rfl,hB4⟩;unfold vV;have hs4:=HH.out.kept (aM hB4);have yU:=hs4.lt;have yV:=hs4.frozen;obtain⟨e0,e1,e2,e3⟩:=AY.out _ hs4;have tY:=ae (ak hs4 (aM hB4));clear hs4 hB4);all_goals go_wp2;refine bodyPost_end (results_none rfl _ _ _) rfl ⟨rfl,?_,eP tY.out.2 (aA _ ⟨g,j*4+2,none⟩ _)⟩;rw[wG.out,DJ.out];exact HX.out _ n tY.out.1
end
theorem iV (x:Ln)(h1:1<=x.k)(h2:x.k<=11)(la:Option Addr)(ln lc:Nat)(w:World)(hs:IL w la ln x.l)(h3:x.k=7->ln<=3)(hr:(Ln.rd x).length<=1000):Calls Try.prog 69 #[aI x (.slice la ln lc)] w fun e w'=>∃g m c,e= .returned (.slice (some ⟨g,0,none⟩) m c)/\OG w' w.heap.size g m c (Ln.told x)/\Below w.heap.size w w':=by have hcon:=dO x h1 h2 la ln lc w hs h3;have aU:=fun W=>dJ x h1 h2 la ln lc W;obtain⟨sv,hsv⟩:∃sv,aI x (.slice la ln lc)=sv:=⟨_,rfl⟩;rw[hsv]at hcon aU ⊢;obtain⟨d,hd⟩:∃d,x.d=d:=⟨_,rfl⟩;have HT:Hid (Ln.told x=Ln.rd x++(if Ln.mF x=true then[d]else[])):=by{show _=_;rw[←hd];rfl};rw[hd]at aU;obtain⟨T,hT⟩:∃T,Ln.told x=T:=⟨_,rfl⟩;rw[hT]at HT ⊢;clear hsv hs hd hT h1 h2 h3;rcases hw:Ln.mF x with _|_;{have bW:=fun W=>aU W;simp only[hw]at bW;have HT2:Hid (T=Ln.rd x):=by{show _=_;rw[HT.out,hw];simp};clear aU HT hr;go_enter Try.func69,Try.ntmps69;go_wp2_with fail;refine hcon.mono ?_;rintro e w1 ⟨g,m,c,rfl,ho,hB⟩;dsimp only;clear hcon;have fZ:=bW w1;go_wp2_with fail;refine fZ.mono ?_;rintro e w2 ⟨rfl,hB2⟩;dsimp only;have HF:=ae (ak (ho.kept hB2) (hB.trans (hB2.mono hB.size)));clear fZ bW ho hB hB2;go_wp2;go_ret;exact⟨g,m,c,rfl,by rw[HT2.out];exact HF.out.1,HF.out.2⟩};have bW:=fun W=>aU W;simp only[hw]at bW;have HT2:Hid (T=Ln.rd x++[d]):=by{show _=_;rw[HT.out,hw];simp};clear aU HT;go_enter Try.func69,Try.ntmps69;go_wp2_with fail;refine hcon.mono ?_;rintro e w1 ⟨g,m,c,rfl,ho,hB⟩;dsimp only;clear hcon;have fZ:=bW w1;go_wp2_with fail;refine fZ.mono ?_;rintro e w2 ⟨rfl,hB2⟩;dsimp only;have hm:m<=1000:=by{have:=ho.1;omega};have hB3:=hB.trans (hB2.mono hB.size);have hsz:=hB3.size;have hal:=ay w2 (.cells #[.int .i64 d] 2);have zJ:=ae (hB3.trans (hal.mono hB3.size));have HO:=ae ((ho.kept hB2).kept hal);have hc3:Hid (∀j,j<1->(w2.alloc (.cells #[.int .i64 d] 2)).cell? ⟨w2.heap.size,0+j,none⟩=some (.int .i64 ([d].getD j 0))):=fun j hj=>by{have:j=0:=by{omega};subst this;rw[World.cell?_alloc_at _ _ _ _ (by simp)];rfl};have hgl:=(ho.kept hB2).lt;clear fZ bW ho hB hB2 hB3 hal;go_wp2_with(at_builtin;refine aQ _ rfl _ _ rfl w.heap.size _ _ _ _ rfl HO.out w2.heap.size 0 1 1 [d] rfl rfl hc3.out (by omega) (by simp;omega) ?_;intro g1 c1 N1 w3 hN1 ho1 fV;have HF:=ae (ak ho1 (az zJ.out fV (by omega)));clear ho1 fV);go_ret;exact⟨_,_,_,rfl,by rw[HT2.out];exact HF.out.1,HF.out.2⟩
namespace Ln
theorem yI {l:List Int}{i:Nat}(h:(l.take i).all bx=true)(hi:i<l.length):(l.take (i+1)).all bx=bx (l.getD i 0):=by rw[List.take_add_one,ai hi,List.all_append,h,ah,ai hi];simp
theorem yE {l:List Int}{i:Nat}(hi:i<l.length)(h:bx (l.getD i 0)=false):l.all bx=false:=by rw[List.all_eq_false];refine⟨l.getD i 0,?_,by rw[h];decide⟩;rw[ah,ai hi];exact List.getElem_mem hi
end Ln
theorem kT (x:Ln)(h1:1<=x.k)(h2:x.k<=11)(la:Option Addr)(ln lc:Nat)(w:World)(hs:IL w la ln x.l)(h3:x.k=7->ln<=3)(hr:(Ln.rd x).length<=1000):Calls Try.prog 64 #[aI x (.slice la ln lc)] w fun e w'=>e= .returned (.bool ((Ln.told x).all Ln.bx))/\Below w.heap.size w w':=by have hcon:=iV x h1 h2 la ln lc w hs h3 hr;obtain⟨sv,hsv⟩:∃sv,aI x (.slice la ln lc)=sv:=⟨_,rfl⟩;rw[hsv]at hcon ⊢;obtain⟨T,hT⟩:∃T,Ln.told x=T:=⟨_,rfl⟩;rw[hT]at hcon ⊢;obtain⟨R,hR⟩:∃R,T.all Ln.bx=R:=⟨_,rfl⟩;rw[hR];have HR:=ae hR;clear hsv hs hT h1 h2 h3 hr hR;go_enter Try.func64,Try.ntmps64;go_wp2_with fail;refine hcon.mono ?_;rintro e w1 ⟨g,m,c,rfl,ho,hB⟩;dsimp only;clear hcon;have HC:Hid (∀j,j<m->w1.cell? ⟨g,j,none⟩=some (.int .i64 (T.getD j 0))):=fun j hj=>ho.cell hj;have HL:=ae ho.1;have hg:=ho.lt;have hm:m<=9223372036854775807:=by{have:=ho.cap;unfold maxLen at this;omega};clear ho;go_wp2;go_loopw [8] (fun vi wr=>∃k:Nat,vi= .int .i64 k/\k<=m/\Hid ((T.take k).all Ln.bx=true)/\w1=wr) (fun i _=>m-(intOf i).toNat);(case atStart=>exact⟨0,rfl,Nat.zero_le _,(by show _=_;simp),rfl⟩);case round=>obtain⟨k,rfl,hk,HA,aY⟩:=hrel;subst aY;by_cases hlt:k<m;{have aX:(k:Int)<(m:Int):=by{omega};have hc:=HC.out k hlt;obtain⟨y,hy⟩:∃y,T.getD k 0=y:=⟨_,rfl⟩;rw[hy]at hc;have HY:=ae hy;clear hy;have hcon:=bD y 0 39 w1;rcases hb:Wd.aK y 0 39 with _|_;{rw[hb]at hcon;have HF:Hid (R=false):=by{show _=_;rw[←HR.out];exact Ln.yE (by rw[HL.out];exact hlt) (by rw[HY.out];exact hb)};go_wp2_with(go_at_call 51;refine hcon.mono ?_;rintro e w' ⟨rfl,aY⟩;subst w';dsimp only);go_ret;exact⟨by rw[HF.out]<;>rfl,hB⟩};rw[hb]at hcon;have HF:Hid ((T.take (k+1)).all Ln.bx=true):=by{show _=_;rw[Ln.yI HA.out (by rw[HL.out];exact hlt),HY.out];exact hb};go_wp2_with(go_at_call 51;refine hcon.mono ?_;rintro e w' ⟨rfl,aY⟩;subst w';dsimp only);go_roundw;(case rel=>exact⟨k+1,by simp,hlt,HF,by simp⟩);case measure=>simp[intOf];omega};have hke:k=m:=by{omega};have HF:Hid (R=true):=by{show _=_;have:=HA.out;rw[hke,←HL.out,List.take_length]at this;rw[←HR.out,this]};have aX:¬(k:Int)<(m:Int):=by{omega};clear hke;go_wp2;go_ret;exact⟨by rw[HF.out]<;>rfl,hB⟩
theorem fO (x:Ln)(h1:1<=x.k)(h2:x.k<=11)(la:Option Addr)(ln lc:Nat)(m:Int)(hm1:0<=m)(hm2:m<=1000000)(w:World):Calls Try.prog 53 #[aI x (.slice la ln lc), .int .i64 m] w fun e w'=>e= .returned (.bool (Ln.place m x))/\Below w.heap.size w w':=by have hcon:=dP x h1 h2 la ln lc w;obtain⟨sv,hsv⟩:∃sv,aI x (.slice la ln lc)=sv:=⟨_,rfl⟩;rw[hsv]at hcon ⊢;obtain⟨n,hn⟩:∃n,x.n=n:=⟨_,rfl⟩;have HP:Hid (Ln.place m x=(!Ln.dE x||Wd.aK n 0 (m-1))):=by{show _=_;rw[←hn];rfl};obtain⟨P,hP⟩:∃P,Ln.place m x=P:=⟨_,rfl⟩;rw[hP]at HP ⊢;rw[hn]at hcon;clear hsv h1 h2 hn hP;rcases hg:Ln.dE x with _|_;{simp only[hg]at hcon;have HF:Hid (P=true):=by{show _=_;rw[HP.out,hg];rfl};clear HP;go_enter Try.func53,Try.ntmps53;go_wp2_with fail;refine hcon.mono ?_;rintro e w1 ⟨rfl,hB⟩;dsimp only;go_wp2;go_ret;exact⟨by rw[HF.out]<;>rfl,hB⟩};simp only[hg]at hcon;have HF:Hid (P=Wd.aK n 0 (m-1)):=by{show _=_;rw[HP.out,hg];rfl};have aU:=fun W=>bD n 0 (m-1) W;obtain⟨R,hR⟩:∃R,Wd.aK n 0 (m-1)=R:=⟨_,rfl⟩;rw[hR]at HF;simp only[hR]at aU;clear HP hR;go_enter Try.func53,Try.ntmps53;go_wp2_with fail;refine hcon.mono ?_;rintro e w1 ⟨rfl,hB⟩;dsimp only;have bW:=aU w1;clear aU;go_wp2_with(go_at_call 51;refine bW.mono ?_;rintro e w' ⟨rfl,aY⟩;subst w';dsimp only);go_ret;exact⟨by rw[HF.out]<;>rfl,hB⟩
theorem pE {xs ys:List Int}{k:Nat}(h:xs.take k=ys.take k)(hx:k<xs.length)(hy:k<ys.length)(e:xs.getD k 0=ys.getD k 0):xs.take (k+1)=ys.take (k+1):=by rw[List.take_add_one,List.take_add_one,h];rw[ah,ah,ai hx,ai hy]at e;rw[ai hx,ai hy];simp only[Option.getD_some]at e;rw[e]
theorem kI (xa ya:Option Addr)(n m xc yc:Nat)(xs ys:List Int)(w:World)(hx:IL w xa n xs)(hy:IL w ya m ys):Calls Try.prog 67 #[.slice xa n xc, .slice ya m yc] w fun e w'=>e= .returned (.bool (decide (xs=ys)))/\Below w.heap.size w w':=by have hl:=hx.1;have hl2:=hy.1;obtain⟨R,hR⟩:∃R,decide (xs=ys)=R:=⟨_,rfl⟩;rw[hR];have HR:=ae hR;clear hR;have hm:n<=9223372036854775807:=by{have:=hx.2.1;unfold maxLen at this;omega};have HX:=ae hx;have HY:=ae hy;have HL:=ae (ak hl hl2);by_cases hnm:n=m;{clear hl hl2 hx hy;subst hnm;go_enter Try.func67,Try.ntmps67;go_wp2;go_loopw [13] (fun vi wr=>∃k q:Nat,vi= .int .i64 k/\k<=n/\Hid (xs.take k=ys.take k)/\wr=w.drewN q) (fun i _=>n-(intOf i).toNat);(case atStart=>exact⟨0,0,rfl,Nat.zero_le _,(by show _=_;simp),rfl⟩);case round=>obtain⟨k,q,rfl,hk,HA,rfl⟩:=hrel;by_cases hlt:k<n;{have aX:(k:Int)<(n:Int):=by{omega};obtain⟨-,-,h0|⟨xb,xo,rfl,hxb,hcx⟩⟩:=HX.out;{omega};obtain⟨-,-,h0|⟨yb,yo,rfl,hyb,hcy⟩⟩:=HY.out;{omega};have g1:=hcx k hlt;have g2:=hcy k hlt;obtain⟨x,hx⟩:∃x,xs.getD k 0=x:=⟨_,rfl⟩;obtain⟨y,hy⟩:∃y,ys.getD k 0=y:=⟨_,rfl⟩;rw[hx]at g1;rw[hy]at g2;have zK:=ae (ak hx hy);clear hcx hcy hx hy HX HY;by_cases e:x=y;{have HF:Hid (xs.take (k+1)=ys.take (k+1)):=pE HA.out (by rw[HL.out.1];exact hlt) (by rw[HL.out.2];exact hlt) (by rw[zK.out.1,zK.out.2,e]);subst e;go_wp2_with fail;go_region;go_wp2;go_roundw;(case rel=>exact⟨k+1,q+1,by simp,hlt,HF,rfl⟩);case measure=>simp[intOf];omega};have HF:Hid (R=false):=by{show _=_;rw[←HR.out];refine decide_eq_false fun h=>e ?_;rw[←zK.out.1,←zK.out.2,h]};go_wp2_with fail;go_region;go_wp2;go_ret;exact⟨by rw[HF.out]<;>rfl,bA _ _⟩};have hke:k=n:=by{omega};have HF:Hid (R=true):=by{show _=_;have:=HA.out;rw[hke]at this;have e1:xs.take n=xs:=List.take_of_length_le (by rw[HL.out.1];exact Nat.le_refl _);have e2:ys.take n=ys:=List.take_of_length_le (by rw[HL.out.2];exact Nat.le_refl _);rw[e1,e2]at this;rw[←HR.out,this];simp};have aX:¬(k:Int)<(n:Int):=by{omega};clear hke;go_wp2;go_ret;exact⟨by rw[HF.out]<;>rfl,bA _ _⟩};have HF:Hid (R=false):=by{show _=_;rw[←HR.out];refine decide_eq_false fun h=>hnm ?_;rw[←hl,←hl2,h]};have DK:¬((n:Int)=(m:Int)):=by{omega};clear hl hl2 hx hy;go_enter Try.func67,Try.ntmps67;go_wp2;go_ret;exact⟨by rw[HF.out]<;>rfl,Below.refl _ _⟩
theorem kv (x:Ln)(la:Option Addr)(ln lc:Nat)(w:World):Calls Try.prog 61 #[.agg #[.int .i64 x.k, .int .i64 x.d, .int .i64 x.a, .int .i64 x.b, .int .i64 x.n, .slice la ln lc]] w fun e w'=>e= .returned (aI x (.slice la ln lc))/\Below w.heap.size w w':=by obtain⟨k,d,a,b,n,l⟩:=x;simp only;have hB:=ay w (.cells #[.int .i64 k, .int .i64 d, .int .i64 a, .int .i64 b, .int .i64 n, .slice la ln lc] 45);by_cases hk:1<=k/\k<=11;{rcases Ln.kinds hk.1 hk.2 with rfl|rfl|rfl|rfl|rfl|rfl|rfl|rfl|rfl|rfl|rfl;all_goals clear hk;go_enter Try.func61,Try.ntmps61;go_wp2;go_ret;exact⟨rfl,hB⟩};have e:aI ⟨k,d,a,b,n,l⟩ (.slice la ln lc)= .nilIface:=by{unfold aI;simp only;repeat(rw[av (by omega)])};rw[e];have e1:(k==1)=false:=by{simp;omega};have e2:(k==2)=false:=by{simp;omega};have e3:(k==3)=false:=by{simp;omega};have e4:(k==4)=false:=by{simp;omega};have e5:(k==5)=false:=by{simp;omega};have e6:(k==6)=false:=by{simp;omega};have e7:(k==7)=false:=by{simp;omega};have e8:(k==8)=false:=by{simp;omega};have e9:(k==9)=false:=by{simp;omega};have e10:(k==10)=false:=by{simp;omega};have e11:(k==11)=false:=by{simp;omega};clear hk e;go_enter Try.func61,Try.ntmps61;go_wp2;go_ret;exact⟨rfl,hB⟩
theorem yu (d a b n:Int)(la:Option Addr)(ln lc:Nat)(w:World):Calls Try.prog 117 #[.agg #[.int .i64 d, .int .i64 n]] w fun e w'=>e= .returned (.agg #[.int .i64 1, .int .i64 d, .int .i64 0, .int .i64 0, .int .i64 n, .slice none 0 0])/\Below w.heap.size w w':=by have hB:=ay w (.cells #[.int .i64 d, .int .i64 n] 116);have hB2:=hB.trans ((ay _ (.cells #[.int .i64 1, .int .i64 d, .int .i64 0, .int .i64 0, .int .i64 n, .slice none 0 0] 45)).mono hB.size);go_enter Try.func117,Try.ntmps117;go_wp2;(try simp only[Exit.inBlock,Exit.then]);refine bodyPost_ret (v:= .agg #[.int .i64 1, .int .i64 d, .int .i64 0, .int .i64 0, .int .i64 n, .slice none 0 0]) ?_ rfl ⟨rfl,hB2⟩;rw[aB rfl];go_simp
theorem xC (d a b n:Int)(la:Option Addr)(ln lc:Nat)(w:World):Calls Try.prog 110 #[.agg #[.int .i64 d, .int .i64 a]] w fun e w'=>e= .returned (.agg #[.int .i64 2, .int .i64 d, .int .i64 a, .int .i64 0, .int .i64 0, .slice none 0 0])/\Below w.heap.size w w':=by have hB:=ay w (.cells #[.int .i64 d, .int .i64 a] 103);have hB2:=hB.trans ((ay _ (.cells #[.int .i64 2, .int .i64 d, .int .i64 a, .int .i64 0, .int .i64 0, .slice none 0 0] 45)).mono hB.size);go_enter Try.func110,Try.ntmps110;go_wp2;(try simp only[Exit.inBlock,Exit.then]);refine bodyPost_ret (v:= .agg #[.int .i64 2, .int .i64 d, .int .i64 a, .int .i64 0, .int .i64 0, .slice none 0 0]) ?_ rfl ⟨rfl,hB2⟩;rw[aB rfl];go_simp
theorem xA (d a b n:Int)(la:Option Addr)(ln lc:Nat)(w:World):Calls Try.prog 111 #[.agg #[.int .i64 d, .int .i64 n, .int .i64 a, .int .i64 b]] w fun e w'=>e= .returned (.agg #[.int .i64 3, .int .i64 d, .int .i64 a, .int .i64 b, .int .i64 n, .slice none 0 0])/\Below w.heap.size w w':=by have hB:=ay w (.cells #[.int .i64 d, .int .i64 n, .int .i64 a, .int .i64 b] 105);have hB2:=hB.trans ((ay _ (.cells #[.int .i64 3, .int .i64 d, .int .i64 a, .int .i64 b, .int .i64 n, .slice none 0 0] 45)).mono hB.size);go_enter Try.func111,Try.ntmps111;go_wp2;(try simp only[Exit.inBlock,Exit.then]);refine bodyPost_ret (v:= .agg #[.int .i64 3, .int .i64 d, .int .i64 a, .int .i64 b, .int .i64 n, .slice none 0 0]) ?_ rfl ⟨rfl,hB2⟩;rw[aB rfl];go_simp
theorem xE (d a b n:Int)(la:Option Addr)(ln lc:Nat)(w:World):Calls Try.prog 112 #[.agg #[.int .i64 d, .int .i64 a]] w fun e w'=>e= .returned (.agg #[.int .i64 4, .int .i64 d, .int .i64 a, .int .i64 0, .int .i64 0, .slice none 0 0])/\Below w.heap.size w w':=by have hB:=ay w (.cells #[.int .i64 d, .int .i64 a] 106);have hB2:=hB.trans ((ay _ (.cells #[.int .i64 4, .int .i64 d, .int .i64 a, .int .i64 0, .int .i64 0, .slice none 0 0] 45)).mono hB.size);go_enter Try.func112,Try.ntmps112;go_wp2;(try simp only[Exit.inBlock,Exit.then]);refine bodyPost_ret (v:= .agg #[.int .i64 4, .int .i64 d, .int .i64 a, .int .i64 0, .int .i64 0, .slice none 0 0]) ?_ rfl ⟨rfl,hB2⟩;rw[aB rfl];go_simp
theorem yg (d a b n:Int)(la:Option Addr)(ln lc:Nat)(w:World):Calls Try.prog 107 #[.agg #[.int .i64 n]] w fun e w'=>e= .returned (.agg #[.int .i64 5, .int .i64 0, .int .i64 0, .int .i64 0, .int .i64 n, .slice none 0 0])/\Below w.heap.size w w':=by have hB:=ay w (.cells #[.int .i64 n] 98);have hB2:=hB.trans ((ay _ (.cells #[.int .i64 5, .int .i64 0, .int .i64 0, .int .i64 0, .int .i64 n, .slice none 0 0] 45)).mono hB.size);go_enter Try.func107,Try.ntmps107;go_wp2;(try simp only[Exit.inBlock,Exit.then]);refine bodyPost_ret (v:= .agg #[.int .i64 5, .int .i64 0, .int .i64 0, .int .i64 0, .int .i64 n, .slice none 0 0]) ?_ rfl ⟨rfl,hB2⟩;rw[aB rfl];go_simp
theorem yB (d a b n:Int)(la:Option Addr)(ln lc:Nat)(w:World):Calls Try.prog 113 #[.agg #[.int .i64 a, .int .i64 n]] w fun e w'=>e= .returned (.agg #[.int .i64 6, .int .i64 0, .int .i64 a, .int .i64 0, .int .i64 n, .slice none 0 0])/\Below w.heap.size w w':=by have hB:=ay w (.cells #[.int .i64 a, .int .i64 n] 108);have hB2:=hB.trans ((ay _ (.cells #[.int .i64 6, .int .i64 0, .int .i64 a, .int .i64 0, .int .i64 n, .slice none 0 0] 45)).mono hB.size);go_enter Try.func113,Try.ntmps113;go_wp2;(try simp only[Exit.inBlock,Exit.then]);refine bodyPost_ret (v:= .agg #[.int .i64 6, .int .i64 0, .int .i64 a, .int .i64 0, .int .i64 n, .slice none 0 0]) ?_ rfl ⟨rfl,hB2⟩;rw[aB rfl];go_simp
theorem yJ (d a b n:Int)(la:Option Addr)(ln lc:Nat)(w:World):Calls Try.prog 114 #[.agg #[.int .i64 d, .int .i64 n, .slice la ln lc]] w fun e w'=>e= .returned (.agg #[.int .i64 7, .int .i64 d, .int .i64 0, .int .i64 0, .int .i64 n, .slice la ln lc])/\Below w.heap.size w w':=by have hB:=ay w (.cells #[.int .i64 d, .int .i64 n, .slice la ln lc] 110);have hB2:=hB.trans ((ay _ (.cells #[.int .i64 7, .int .i64 d, .int .i64 0, .int .i64 0, .int .i64 n, .slice la ln lc] 45)).mono hB.size);go_enter Try.func114,Try.ntmps114;go_wp2;(try simp only[Exit.inBlock,Exit.then]);refine bodyPost_ret (v:= .agg #[.int .i64 7, .int .i64 d, .int .i64 0, .int .i64 0, .int .i64 n, .slice la ln lc]) ?_ rfl ⟨rfl,hB2⟩;rw[aB rfl];go_simp
theorem yL (d a b n:Int)(la:Option Addr)(ln lc:Nat)(w:World):Calls Try.prog 115 #[.agg #[.int .i64 d, .int .i64 a, .int .i64 n]] w fun e w'=>e= .returned (.agg #[.int .i64 8, .int .i64 d, .int .i64 a, .int .i64 0, .int .i64 n, .slice none 0 0])/\Below w.heap.size w w':=by have hB:=ay w (.cells #[.int .i64 d, .int .i64 a, .int .i64 n] 112);have hB2:=hB.trans ((ay _ (.cells #[.int .i64 8, .int .i64 d, .int .i64 a, .int .i64 0, .int .i64 n, .slice none 0 0] 45)).mono hB.size);go_enter Try.func115,Try.ntmps115;go_wp2;(try simp only[Exit.inBlock,Exit.then]);refine bodyPost_ret (v:= .agg #[.int .i64 8, .int .i64 d, .int .i64 a, .int .i64 0, .int .i64 n, .slice none 0 0]) ?_ rfl ⟨rfl,hB2⟩;rw[aB rfl];go_simp
theorem yh (d a b n:Int)(la:Option Addr)(ln lc:Nat)(w:World):Calls Try.prog 116 #[.agg #[.int .i64 b, .int .i64 a, .int .i64 n]] w fun e w'=>e= .returned (.agg #[.int .i64 9, .int .i64 0, .int .i64 a, .int .i64 b, .int .i64 n, .slice none 0 0])/\Below w.heap.size w w':=by have hB:=ay w (.cells #[.int .i64 b, .int .i64 a, .int .i64 n] 114);have hB2:=hB.trans ((ay _ (.cells #[.int .i64 9, .int .i64 0, .int .i64 a, .int .i64 b, .int .i64 n, .slice none 0 0] 45)).mono hB.size);go_enter Try.func116,Try.ntmps116;go_wp2;(try simp only[Exit.inBlock,Exit.then]);refine bodyPost_ret (v:= .agg #[.int .i64 9, .int .i64 0, .int .i64 a, .int .i64 b, .int .i64 n, .slice none 0 0]) ?_ rfl ⟨rfl,hB2⟩;rw[aB rfl];go_simp
theorem vG (d a b n:Int)(la:Option Addr)(ln lc:Nat)(w:World):Calls Try.prog 108 #[.agg #[.int .i64 a]] w fun e w'=>e= .returned (.agg #[.int .i64 10, .int .i64 0, .int .i64 a, .int .i64 0, .int .i64 0, .slice none 0 0])/\Below w.heap.size w w':=by have hB:=ay w (.cells #[.int .i64 a] 100);have hB2:=hB.trans ((ay _ (.cells #[.int .i64 10, .int .i64 0, .int .i64 a, .int .i64 0, .int .i64 0, .slice none 0 0] 45)).mono hB.size);go_enter Try.func108,Try.ntmps108;go_wp2;(try simp only[Exit.inBlock,Exit.then]);refine bodyPost_ret (v:= .agg #[.int .i64 10, .int .i64 0, .int .i64 a, .int .i64 0, .int .i64 0, .slice none 0 0]) ?_ rfl ⟨rfl,hB2⟩;rw[aB rfl];go_simp
theorem vX (d a b n:Int)(la:Option Addr)(ln lc:Nat)(w:World):Calls Try.prog 109 #[.agg #[]] w fun e w'=>e= .returned (.agg #[.int .i64 11, .int .i64 0, .int .i64 0, .int .i64 0, .int .i64 0, .slice none 0 0])/\Below w.heap.size w w':=by have hB:=ay w (.cells #[] 101);have hB2:=hB.trans ((ay _ (.cells #[.int .i64 11, .int .i64 0, .int .i64 0, .int .i64 0, .int .i64 0, .slice none 0 0] 45)).mono hB.size);go_enter Try.func109,Try.ntmps109;go_wp2;(try simp only[Exit.inBlock,Exit.then]);refine bodyPost_ret (v:= .agg #[.int .i64 11, .int .i64 0, .int .i64 0, .int .i64 0, .int .i64 0, .slice none 0 0]) ?_ rfl ⟨rfl,hB2⟩;rw[aB rfl];go_simp
theorem jq (p q:Ln)(pa qa:Option Addr)(pn pc qn qc:Nat)(w:World)(hp:IL w pa pn p.l)(hq:IL w qa qn q.l):Calls Try.prog 62 #[.agg #[.int .i64 p.k, .int .i64 p.d, .int .i64 p.a, .int .i64 p.b, .int .i64 p.n, .slice pa pn pc], .agg #[.int .i64 q.k, .int .i64 q.d, .int .i64 q.a, .int .i64 q.b, .int .i64 q.n, .slice qa qn qc]] w fun e w'=>e= .returned (.bool (Ln.dK p q))/\Below w.heap.size w w':=by obtain⟨pk,pd,pe,pb,pm,pl⟩:=p;obtain⟨qk,qd,qe,qb,qm,ql⟩:=q;simp only at hp hq ⊢;have hB:=ay w (.cells #[.int .i64 pk, .int .i64 pd, .int .i64 pe, .int .i64 pb, .int .i64 pm, .slice pa pn pc] 45);have hB2:=hB.trans ((ay _ (.cells #[.int .i64 qk, .int .i64 qd, .int .i64 qe, .int .i64 qb, .int .i64 qm, .slice qa qn qc] 45)).mono hB.size);have hcon:=kI pa qa pn qn pc qc pl ql _ (hp.kept hB2) (hq.kept hB2);clear hp hq hB;by_cases h0:pk=qk;rotate_left;{have g0:(pk==qk)=false:=by{simpa using h0};go_enter Try.func62,Try.ntmps62;go_wp2;go_ret;exact⟨by simp[Ln.dK,h0],hB2⟩};subst h0;by_cases h1:pd=qd;rotate_left;{have g1:(pd==qd)=false:=by{simpa using h1};go_enter Try.func62,Try.ntmps62;go_wp2;go_ret;exact⟨by simp[Ln.dK,h1],hB2⟩};subst h1;by_cases h2:pe=qe;rotate_left;{have g2:(pe==qe)=false:=by{simpa using h2};go_enter Try.func62,Try.ntmps62;go_wp2;go_ret;exact⟨by simp[Ln.dK,h2],hB2⟩};subst h2;by_cases h3:pb=qb;rotate_left;{have g3:(pb==qb)=false:=by{simpa using h3};go_enter Try.func62,Try.ntmps62;go_wp2;go_ret;exact⟨by simp[Ln.dK,h3],hB2⟩};subst h3;by_cases h4:pm=qm;rotate_left;{have g4:(pm==qm)=false:=by{simpa using h4};go_enter Try.func62,Try.ntmps62;go_wp2;go_ret;exact⟨by simp[Ln.dK,h4],hB2⟩};subst h4;have e:Ln.dK ⟨pk,pd,pe,pb,pm,pl⟩ ⟨pk,pd,pe,pb,pm,ql⟩=decide (pl=ql):=by{simp[Ln.dK]};rw[e];clear e;generalize decide (pl=ql)=R at hcon ⊢;go_enter Try.func62,Try.ntmps62;go_wp2_with(go_at_call 67;refine hcon.mono ?_;rintro e w2 ⟨rfl,hB3⟩;dsimp only);go_ret;exact⟨rfl,hB2.trans (hB3.mono hB2.size)⟩
theorem Dj (u:Value)(w:World):(callMethod (.iface 116 u) "loop.example/g00363/impl.line" #[]).run Try.prog w= .ok (.enter 117 #[u]) w:=by kernel_rfl
theorem C8 (u:Value)(w:World):(callMethod (.iface 103 u) "loop.example/g00363/impl.line" #[]).run Try.prog w= .ok (.enter 110 #[u]) w:=by kernel_rfl
theorem Dg (u:Value)(w:World):(callMethod (.iface 105 u) "loop.example/g00363/impl.line" #[]).run Try.prog w= .ok (.enter 111 #[u]) w:=by kernel_rfl
theorem CY (u:Value)(w:World):(callMethod (.iface 106 u) "loop.example/g00363/impl.line" #[]).run Try.prog w= .ok (.enter 112 #[u]) w:=by kernel_rfl
theorem Db (u:Value)(w:World):(callMethod (.iface 98 u) "loop.example/g00363/impl.line" #[]).run Try.prog w= .ok (.enter 107 #[u]) w:=by kernel_rfl
theorem Dn (u:Value)(w:World):(callMethod (.iface 108 u) "loop.example/g00363/impl.line" #[]).run Try.prog w= .ok (.enter 113 #[u]) w:=by kernel_rfl
theorem Dc (u:Value)(w:World):(callMethod (.iface 110 u) "loop.example/g00363/impl.line" #[]).run Try.prog w= .ok (.enter 114 #[u]) w:=by kernel_rfl
theorem Dk (u:Value)(w:World):(callMethod (.iface 112 u) "loop.example/g00363/impl.line" #[]).run Try.prog w= .ok (.enter 115 #[u]) w:=by kernel_rfl
theorem CV (u:Value)(w:World):(callMethod (.iface 114 u) "loop.example/g00363/impl.line" #[]).run Try.prog w= .ok (.enter 116 #[u]) w:=by kernel_rfl
theorem Ap (u:Value)(w:World):(callMethod (.iface 100 u) "loop.example/g00363/impl.line" #[]).run Try.prog w= .ok (.enter 108 #[u]) w:=by kernel_rfl
theorem Af (u:Value)(w:World):(callMethod (.iface 101 u) "loop.example/g00363/impl.line" #[]).run Try.prog w= .ok (.enter 109 #[u]) w:=by kernel_rfl
theorem nR (x:Ln)(h1:1<=x.k)(h2:x.k<=11)(la:Option Addr)(ln lc:Nat):∃T u f pa pn pc,aI x (.slice la ln lc)= .iface T u/\(∀w,(callMethod (.iface T u) "loop.example/g00363/impl.line" #[]).run Try.prog w= .ok (.enter f #[u]) w)/\(∀w,Calls Try.prog f #[u] w fun e w'=>e= .returned (.agg #[.int .i64 (Ln.cn x).k, .int .i64 (Ln.cn x).d, .int .i64 (Ln.cn x).a, .int .i64 (Ln.cn x).b, .int .i64 (Ln.cn x).n, .slice pa pn pc])/\Below w.heap.size w w')/\(∀w,IL w la ln x.l->IL w pa pn (Ln.cn x).l):=by obtain⟨k,d,a,b,n,l⟩:=x;rcases Ln.kinds h1 h2 with e|e|e|e|e|e|e|e|e|e|e<;>simp only at e<;>subst e;{exact⟨_,_,_,none,0,0,rfl,Dj _,yu d a b n la ln lc,fun w _=>⟨rfl,Nat.zero_le _, .inl rfl⟩⟩};{exact⟨_,_,_,none,0,0,rfl,C8 _,xC d a b n la ln lc,fun w _=>⟨rfl,Nat.zero_le _, .inl rfl⟩⟩};{exact⟨_,_,_,none,0,0,rfl,Dg _,xA d a b n la ln lc,fun w _=>⟨rfl,Nat.zero_le _, .inl rfl⟩⟩};{exact⟨_,_,_,none,0,0,rfl,CY _,xE d a b n la ln lc,fun w _=>⟨rfl,Nat.zero_le _, .inl rfl⟩⟩};{exact⟨_,_,_,none,0,0,rfl,Db _,yg d a b n la ln lc,fun w _=>⟨rfl,Nat.zero_le _, .inl rfl⟩⟩};{exact⟨_,_,_,none,0,0,rfl,Dn _,yB d a b n la ln lc,fun w _=>⟨rfl,Nat.zero_le _, .inl rfl⟩⟩};{exact⟨_,_,_,la,ln,lc,rfl,Dc _,yJ d a b n la ln lc,fun w h=>h⟩};{exact⟨_,_,_,none,0,0,rfl,Dk _,yL d a b n la ln lc,fun w _=>⟨rfl,Nat.zero_le _, .inl rfl⟩⟩};{exact⟨_,_,_,none,0,0,rfl,CV _,yh d a b n la ln lc,fun w _=>⟨rfl,Nat.zero_le _, .inl rfl⟩⟩};{exact⟨_,_,_,none,0,0,rfl,Ap _,vG d a b n la ln lc,fun w _=>⟨rfl,Nat.zero_le _, .inl rfl⟩⟩};exact⟨_,_,_,none,0,0,rfl,Af _,vX d a b n la ln lc,fun w _=>⟨rfl,Nat.zero_le _, .inl rfl⟩⟩
section
variable {P : Program} {C : World → Prop}
theorem kR {o:Oper}{a:Act}{K:Act->Prop}(f:FuncId)(x:Operand)(nm:String)(ts:Array TypeId)(ho:o.op= .call {callee:= .invoke x nm,args:=#[],argTypes:=ts})(T:TypeId)(u v:Value)(hx:a.eval x= .iface T u)(hcf:∀w,(callMethod (.iface T u) nm #[]).run P w= .ok (.enter f #[u]) w)(hc:∀w,C w->Calls P f #[u] w (fun e w''=>e= .returned v/\C w''))(hk:K (a.put o.dst v)):o.quiet P a C K:=by refine⟨_,fun w hw=>?_,hk⟩;have:=hc w hw;unfold Oper.quietAt execOp;simp[ho,resolve,hx,invoke,hcf];exact⟨rfl,this⟩
end
namespace Ln
theorem gW {x:Ln}(h:counts x=true)(hk:x.k=7):x.l.length<=3:=by unfold counts at h;rw[av (by omega),av (by omega),ax hk]at h;simp at h;exact h.2
theorem l6 {x:Ln}(h:counts x=true):(rd x).length<=1000:=by unfold rd;split;{simp};split;{simp};split;{simp};split;{have:=gW h (by assumption);omega};simp
theorem pR {x:Ln}(h:¬(1<=x.k/\x.k<=11)):right x=false:=by unfold right;rw[decide_eq_false h];rfl
theorem qo {x:Ln}(h1:1<=x.k)(h2:x.k<=11):right x=(dK (cn x) x&&(counts x&&((told x).all bx&&place 300 x))):=by unfold right;rw[decide_eq_true ⟨h1,h2⟩];rfl
end Ln
theorem r9 {x:Ln}(h:¬(1<=x.k/\x.k<=11))(sv:Value):aI x sv= .nilIface:=by unfold aI;repeat(rw[av (by omega)])
theorem ic (x:Ln)(la:Option Addr)(ln lc:Nat)(w:World)(hs:IL w la ln x.l):Calls Try.prog 52 #[.agg #[.int .i64 x.k, .int .i64 x.d, .int .i64 x.a, .int .i64 x.b, .int .i64 x.n, .slice la ln lc]] w fun e w'=>e= .returned (if Ln.right x=true then aI x (.slice la ln lc)else .nilIface)/\Below w.heap.size w w':=by have hB:=ay w (.cells #[.int .i64 x.k, .int .i64 x.d, .int .i64 x.a, .int .i64 x.b, .int .i64 x.n, .slice la ln lc] 45);have hA1:eG (w.alloc (.cells #[.int .i64 x.k, .int .i64 x.d, .int .i64 x.a, .int .i64 x.b, .int .i64 x.n, .slice la ln lc] 45)) w.heap.size 45 [.int .i64 x.k, .int .i64 x.d, .int .i64 x.a, .int .i64 x.b, .int .i64 x.n, .slice la ln lc]:=heap_alloc_last w _;have hs1:=hs.kept hB;obtain⟨W1,hW1⟩:∃X,w.alloc (.cells #[.int .i64 x.k, .int .i64 x.d, .int .i64 x.a, .int .i64 x.b, .int .i64 x.n, .slice la ln lc] 45)=X:=⟨_,rfl⟩;rw[hW1]at hA1 hs1 hB;have hcon:=kv x la ln lc W1;have hl:=hs.1;clear hs;have c0:=hA1.cell (j:=0) rfl;have c1:=hA1.cell (j:=1) rfl;have c2:=hA1.cell (j:=2) rfl;have c3:=hA1.cell (j:=3) rfl;have c4:=hA1.cell (j:=4) rfl;have c5:=hA1.cell (j:=5) rfl;by_cases hk:1<=x.k/\x.k<=11;rotate_left;{rw[r9 hk]at hcon;rw[Ln.pR hk];have HN:Hid (∀v:Value,(if false=true then v else Value.nilIface)= .nilIface):=fun v=>rfl;clear hk hl hs1;go_enter Try.func52,Try.ntmps52;go_wp2_with fail;refine hcon.mono ?_;rintro e w2 ⟨rfl,hB2⟩;dsimp only;have hB3:=hB.trans (hB2.mono hB.size);clear hcon hB hB2 c0 c1 c2 c3 c4 c5 hA1;have hne:=bF.any w2;go_wp2;refine aT (by kernel_rfl) (by kernel_rfl) ?_;(repeat(go_big_quiet_step (fail)));refine wpQuiet_nil ?_;rintro _ ⟨pw,rfl⟩;have hB4:=hB3.trans (pw.h.mono hB3.size);generalize pw.to=w7 at*;go_wp2;go_ret;exact⟨rfl,hB4⟩};have hcnt:=jw x hk.1 hk.2 la ln lc hl;have wH:=fun(W:World) (hW:IL W la ln x.l) (h3:x.k=7->ln<=3) (hr:(Ln.rd x).length<=1000)=>kT x hk.1 hk.2 la ln lc W hW h3 hr;have wI:=fO x hk.1 hk.2 la ln lc 300 (by omega) (by omega);rw[Ln.qo hk.1 hk.2];obtain⟨T,u,f,pa,pn,pc,esh,hcm,yX,hil⟩:=nR x hk.1 hk.2 la ln lc;have hsame:=fun(W:World) (hW:IL W la ln x.l)=>jq (Ln.cn x) x pa la pn pc ln lc W (hil W hW) hW;rw[esh]at hcon ⊢;have hnil:=qx T u;simp only[esh]at hcnt wH wI;have Ck:=fun h=>Ln.l6 (x:=x) h;have Cm:Ln.counts x=true->x.k=7->ln<=3:=fun h h7=>by{have:=Ln.gW h h7;omega};generalize Ln.dK (Ln.cn x) x=S at hsame ⊢;generalize(Ln.told x).all Ln.bx=B at wH ⊢;generalize Ln.place 300 x=PL at wI ⊢;generalize Ln.counts x=CT at hcnt Ck Cm ⊢;clear hl hk;have hcases:S=false\/(S=true/\CT=false)\/(S=true/\CT=true/\B=false)\/(S=true/\CT=true/\B=true/\PL=false)\/(S=true/\CT=true/\B=true/\PL=true):=by{cases S<;>cases CT<;>cases B<;>cases PL<;>simp};rcases hcases with rfl|⟨rfl,rfl⟩|⟨rfl,rfl,rfl⟩|⟨rfl,rfl,rfl,rfl⟩|⟨rfl,rfl,rfl,rfl⟩;all_goals go_enter Try.func52,Try.ntmps52;go_wp2_with fail;refine hcon.mono ?_;rintro e w2 ⟨rfl,hB2⟩;dsimp only;have hB3:=hB.trans (hB2.mono hB.size);have hA2:=hA1.kept hB2;have hs2:Hid (∀p:bF w2,IL p.to la ln x.l):=fun p=>(hs1.kept hB2).kept p.h;have e0:∀p:bF w2,p.to.cell? ⟨w.heap.size,0,none⟩=some (.int .i64 x.k):=fun p=>(hA2.kept p.h).cell (j:=0) rfl;have e1:∀p:bF w2,p.to.cell? ⟨w.heap.size,1,none⟩=some (.int .i64 x.d):=fun p=>(hA2.kept p.h).cell (j:=1) rfl;have e2:∀p:bF w2,p.to.cell? ⟨w.heap.size,2,none⟩=some (.int .i64 x.a):=fun p=>(hA2.kept p.h).cell (j:=2) rfl;have e3:∀p:bF w2,p.to.cell? ⟨w.heap.size,3,none⟩=some (.int .i64 x.b):=fun p=>(hA2.kept p.h).cell (j:=3) rfl;have e4:∀p:bF w2,p.to.cell? ⟨w.heap.size,4,none⟩=some (.int .i64 x.n):=fun p=>(hA2.kept p.h).cell (j:=4) rfl;have e5:∀p:bF w2,p.to.cell? ⟨w.heap.size,5,none⟩=some (.slice la ln lc):=fun p=>(hA2.kept p.h).cell (j:=5) rfl;clear hcon hB hB2 c0 c1 c2 c3 c4 c5 hA1 hA2 hs1;have hne:=bF.any w2;go_wp2;refine aT (by kernel_rfl) (by kernel_rfl) ?_;(repeat(go_big_quiet_step (fail)));go_big_quiet_want;refine kR f (.tmp 9) _ _ rfl T u _ rfl hcm (fun W hW=>by obtain⟨p,rfl⟩:=hW;exact aS (yX _)) ?_;go_big_quiet_on;go_simp;(repeat(go_big_quiet_step (first|exact aS (hsame _ (hs2.out _))|exact aS (hcnt _)|exact aS (wH _ (hs2.out _) (Cm trivial) (Ck trivial))|exact aS (wI _))));refine wpQuiet_nil ?_;intro pw;have hB4:=hB3.trans (pw.h.mono hB3.size);clear hs2 e0 e1 e2 e3 e4 e5;generalize pw.to=w7 at*;go_wp2;go_ret;exact⟨rfl,hB4⟩
def xq (x:Ln)(sv:Value):Value:=if Ln.ok x=true then aI x sv else .nilIface
theorem gy (x:Ln)(la:Option Addr)(ln lc:Nat)(w:World)(hs:IL w la ln x.l):Calls Try.prog 52 #[.agg #[.int .i64 x.k, .int .i64 x.d, .int .i64 x.a, .int .i64 x.b, .int .i64 x.n, .slice la ln lc]] w fun e w'=>e= .returned (xq x (.slice la ln lc))/\Below w.heap.size w w':=by have h:=ic x la ln lc w hs;rw[Ln.lZ]at h;exact h
theorem pW {x:Ln}(h:Ln.ok x=true)(sv:Value):xq x sv=aI x sv:=by unfold xq;rw[ax h]
theorem vC {x:Ln}(h:Ln.ok x=false)(sv:Value):xq x sv= .nilIface:=by unfold xq;rw[av (by rw[h];decide)]
theorem oD {x:Ln}(h:Ln.ok x=true)(la:Option Addr)(ln lc:Nat):∃T u,xq x (.slice la ln lc)= .iface T u:=by have hk:=Ln.bi h;obtain⟨T,u,f,pa,pn,pc,esh,-⟩:=nR x hk.1 hk.2 la ln lc;exact⟨T,u,by rw[pW h,esh]⟩
section
open Go.Shelf
def pq:Go.Shelf.Ren:=⟨fun|53=>70|64=>73|63=>72|78=>83|79=>84|70=>74|71=>75|72=>76|73=>77|74=>78|75=>79|59=>80|76=>81|77=>82|88=>85|89=>86|90=>87|91=>88|92=>89|68=>90|96=>91|n=>n,fun|22=>41|23=>2|3=>3|51=>63|0=>0|67=>131|69=>70|4=>4|61=>123|60=>122|44=>128|5=>5|9=>9|75=>133|79=>137|83=>139|84=>140|n=>n,fun|n=>n⟩
theorem xZ:Go.Proofs.SlLaysN.n53 Try.prog pq:={
 mixed:=by kernel_rfl
 f53:=⟨Try.f70.name,by decide,Try.func70.trans (congrArg some (by kernel_rfl))⟩
 f59:=⟨Try.f80.name,by decide,Try.func80.trans (congrArg some (by kernel_rfl))⟩
 f63:=⟨Try.f72.name,by decide,Try.func72.trans (congrArg some (by kernel_rfl))⟩
 f64:=Try.func73.trans (congrArg some (by kernel_rfl))
 f68:=⟨Try.f90.name,by decide,Try.func90.trans (congrArg some (by kernel_rfl))⟩
 f70:=⟨Try.f74.name,by decide,Try.func74.trans (congrArg some (by kernel_rfl))⟩
 f71:=⟨Try.f75.name,by decide,Try.func75.trans (congrArg some (by kernel_rfl))⟩
 f72:=⟨Try.f76.name,by decide,Try.func76.trans (congrArg some (by kernel_rfl))⟩
 f73:=⟨Try.f77.name,by decide,Try.func77.trans (congrArg some (by kernel_rfl))⟩
 f74:=⟨Try.f78.name,by decide,Try.func78.trans (congrArg some (by kernel_rfl))⟩
 f75:=⟨Try.f79.name,by decide,Try.func79.trans (congrArg some (by kernel_rfl))⟩
 f76:=⟨Try.f81.name,by decide,Try.func81.trans (congrArg some (by kernel_rfl))⟩
 f77:=⟨Try.f82.name,by decide,Try.func82.trans (congrArg some (by kernel_rfl))⟩
 f78:=Try.func83.trans (congrArg some (by kernel_rfl))
 f79:=Try.func84.trans (congrArg some (by kernel_rfl))
 f88:=⟨Try.f85.name,by decide,Try.func85.trans (congrArg some (by kernel_rfl))⟩
 f89:=Try.func86.trans (congrArg some (by kernel_rfl))
 f90:=Try.func87.trans (congrArg some (by kernel_rfl))
 f91:=⟨Try.f88.name,by decide,Try.func88.trans (congrArg some (by kernel_rfl))⟩
 f92:=⟨Try.f89.name,by decide,Try.func89.trans (congrArg some (by kernel_rfl))⟩
 f96:=⟨Try.f91.name,by decide,Try.func91.trans (congrArg some (by kernel_rfl))⟩
 t0:=Try.underlying0
 a0:=Try.isAgg0
 z0:=Try.sizeOf0
 v0:=Try.zeroValue0
 t3:=Try.underlying3
 a3:=Try.isAgg3
 z3:=Try.sizeOf3
 v3:=Try.zeroValue3
 t4:=Try.underlying4
 a4:=Try.isAgg4
 z4:=Try.sizeOf4
 v4:=Try.zeroValue4
 t5:=Try.underlying5
 a5:=Try.isAgg5
 z5:=Try.sizeOf5
 v5:=Try.zeroValue5
 t9:=Try.underlying9
 a9:=Try.isAgg9
 z9:=Try.sizeOf9
 v9:=Try.zeroValue9
 t22:=Try.underlying41
 a22:=Try.isAgg41
 z22:=Try.sizeOf41
 v22:=Try.zeroValue41
 t23:=Try.underlying2
 a23:=Try.isAgg2
 z23:=Try.sizeOf2
 v23:=Try.zeroValue2
 t44:=Try.underlying128
 a44:=Try.isAgg128
 z44:=Try.sizeOf128
 v44:=Try.zeroValue128
 t51:=Try.underlying63
 a51:=Try.isAgg63
 z51:=Try.sizeOf63
 v51:=Try.zeroValue63
 t60:=Try.underlying122
 a60:=Try.isAgg122
 z60:=Try.sizeOf122
 v60:=Try.zeroValue122
 t61:=Try.underlying123
 a61:=Try.isAgg123
 z61:=Try.sizeOf123
 v61:=Try.zeroValue123
 t67:=Try.underlying131
 a67:=Try.isAgg131
 z67:=Try.sizeOf131
 v67:=Try.zeroValue131
 t69:=Try.underlying70
 a69:=Try.isAgg70
 z69:=Try.sizeOf70
 v69:=Try.zeroValue70
 t75:=Try.underlying133
 a75:=Try.isAgg133
 z75:=Try.sizeOf133
 v75:=Try.zeroValue133
 t79:=Try.underlying137
 a79:=Try.isAgg137
 z79:=Try.sizeOf137
 v79:=Try.zeroValue137
 t83:=Try.underlying139
 a83:=Try.isAgg139
 z83:=Try.sizeOf139
 v83:=Try.zeroValue139
 t84:=Try.underlying140
 a84:=Try.isAgg140
 z84:=Try.sizeOf140
 v84:=Try.zeroValue140}
def oK:Go.Shelf.Ren:=⟨fun|43=>71|n=>n,fun|22=>41|23=>2|3=>3|4=>4|0=>0|n=>n,fun|n=>n⟩
theorem yK:Go.Proofs.SlLaysN.n43 Try.prog oK:={
 mixed:=by kernel_rfl
 f43:=⟨Try.f71.name,by decide,Try.func71.trans (congrArg some (by kernel_rfl))⟩
 t0:=Try.underlying0
 a0:=Try.isAgg0
 z0:=Try.sizeOf0
 v0:=Try.zeroValue0
 t3:=Try.underlying3
 a3:=Try.isAgg3
 z3:=Try.sizeOf3
 v3:=Try.zeroValue3
 t4:=Try.underlying4
 a4:=Try.isAgg4
 z4:=Try.sizeOf4
 v4:=Try.zeroValue4
 t22:=Try.underlying41
 a22:=Try.isAgg41
 z22:=Try.sizeOf41
 v22:=Try.zeroValue41
 t23:=Try.underlying2
 a23:=Try.isAgg2
 z23:=Try.sizeOf2
 v23:=Try.zeroValue2
 i23:=by kernel_rfl}
end
namespace Ln
theorem BK (a b:Int):[a,b].mergeSort (fun x y=>decide (x<=y))=if a<=b then[a,b]else[b,a]:=by simp[List.mergeSort,List.MergeSort.Internal.splitInTwo,List.merge]
theorem Dh (a b c:Int):[a,b,c].mergeSort (fun x y=>decide (x<=y))=if a<=b then(if b<=c then[a,b,c]else if a<=c then[a,c,b]else[c,a,b])else(if a<=c then[b,a,c]else if b<=c then[b,c,a]else[c,b,a]):=by simp[List.mergeSort,List.MergeSort.Internal.splitInTwo];by_cases h1:a<=b<;>by_cases h2:b<=c<;>by_cases h3:a<=c<;>simp[h1,h2,h3]<;>omega
theorem zC (a b:Int):Go.Lib.compact [a,b]=if b=a then[a]else[a,b]:=by by_cases h:b=a;{simp[Go.Lib.compact,Go.Lib.compactUpTo,Go.Lib.keeps,List.range,List.range.loop,h]};simp[Go.Lib.compact,Go.Lib.compactUpTo,Go.Lib.keeps,List.range,List.range.loop,h]
theorem C9 (a b c:Int):Go.Lib.compact [a,b,c]=if b=a then(if c=b then[a]else[a,c])else(if c=b then[a,b]else[a,b,c]):=by by_cases h:b=a;{subst h;by_cases h2:c=b;{subst h2;simp[Go.Lib.compact,Go.Lib.compactUpTo,Go.Lib.keeps,List.range,List.range.loop]};simp[Go.Lib.compact,Go.Lib.compactUpTo,Go.Lib.keeps,List.range,List.range.loop,h2,List.filter]};by_cases h2:c=b;{subst h2;simp[Go.Lib.compact,Go.Lib.compactUpTo,Go.Lib.keeps,List.range,List.range.loop,h,List.filter]};simp[Go.Lib.compact,Go.Lib.compactUpTo,Go.Lib.keeps,List.range,List.range.loop,h,h2,List.filter]
theorem BO (a b:Int):Go.Lib.compact ([a,b].mergeSort (fun x y=>decide (x<=y)))=put [a] b:=by rw[BK];by_cases h1:a<=b;{rw[ax h1,zC];by_cases h2:b=a;{subst h2;simp[put]};have:a<b:=by{omega};simp[put,h2,this]};rw[av h1,zC];have h2:¬a=b:=by{omega};have h3:¬a<b:=by{omega};simp[put,h2,h3]
theorem zW (a b:Int):Go.Lib.compact ([b,a].mergeSort (fun x y=>decide (x<=y)))=put [a] b:=by rw[BK];by_cases h1:b<=a;{rw[ax h1,zC];by_cases h2:a=b;{subst h2;simp[put]};have:¬a<b:=by{omega};simp[put,h2,this]};rw[av h1,zC];have h2:¬b=a:=by{omega};have h3:a<b:=by{omega};simp[put,h2,h3]
theorem CZ (a b c:Int):Go.Lib.compact ([a,b,c].mergeSort (fun x y=>decide (x<=y)))=put (put [a] b) c:=by
 rw[Dh]
 rcases Int.lt_trichotomy a b with h1|h1|h1<;>rcases Int.lt_trichotomy b c with h2|h2|h2<;>rcases Int.lt_trichotomy a c with h3|h3|h3
 all_goals
  first
  |(exfalso;omega)
  | (simp only[put]
     repeat(first|rw[ax (by omega)]|rw[av (by omega)]|simp only[put])
     rw[C9]
     repeat(first|rw[ax (by omega)]|rw[av (by omega)])
     try(first|rfl|(simp<;>omega)))
theorem xK {x:Ln}(h:ok x=true):Go.Lib.compact ((rd x).mergeSort (fun x y=>decide (x<=y)))=us x:=by have h3:=fJ h;have hk:=bi h;obtain⟨k,d,a,b,n,l⟩:=x;have one:∀y:Int,Go.Lib.compact ([y].mergeSort (fun x y=>decide (x<=y)))=[y]:=fun y=>by{simp[Go.Lib.compact,Go.Lib.compactUpTo,Go.Lib.keeps,List.range,List.range.loop]};have none:Go.Lib.compact (([]:List Int).mergeSort (fun x y=>decide (x<=y)))=[]:=by{simp[Go.Lib.compact,Go.Lib.compactUpTo]};have hl:k≠7->l=[]:=fun h7=>by{unfold ok at h;simp[h7]at h;exact h.1};rcases kinds hk.1 hk.2 with e|e|e|e|e|e|e|e|e|e|e<;>simp only at e<;>subst e;{rw[hl (by decide)];exact none};{exact one a};{exact BO a b};{exact one a};{rw[hl (by decide)];exact none};{exact one a};{show Go.Lib.compact (l.mergeSort _)=aV l;simp only at h3;rcases l with _|⟨p,_|⟨q,_|⟨r,_|⟨s,l⟩⟩⟩⟩;{exact none};{exact one p};{exact BO p q};{exact CZ p q r};simp at h3};{exact one a};{exact zW a b};{exact one a};rw[hl (by decide)];exact none
end Ln
theorem OG.holds {W:World}{n₀ g n c:Nat}{xs:List Int}(h:OG W n₀ g n c xs):Go.Sort.Holds (Value.int .i64) W g 0 xs.toArray:=by obtain⟨hl,-,hr⟩:=h;rcases hr with⟨e,-⟩|⟨g',cap,cur,e,hb,hc,hn,hm,hsz,ht⟩;{cases e};cases e;refine holds_of_blockI hc ?_;rw[hl];rw[Nat.mul_one]at ht;exact ht
theorem OG.put {W:World}{n₀ g n c q:Nat}{xs ys:List Int}{os:Array Obj}(h:OG W n₀ g n c xs)(hl:ys.length=xs.length):OG (Go.Sort.grow (Go.Sort.putRow (Value.int .i64) (Go.Sort.ahead W q) g 0 ys.toArray) os) n₀ g n c ys:=by obtain⟨h1,-,hr⟩:=h;rcases hr with⟨e,-⟩|⟨g',cap,cur,e,hb,hc,hn,hm,hsz,ht⟩;{cases e};cases e;refine⟨by omega,?_⟩;have:=ownsRow_sortedI (n:=q) (os:=os) hl hb hc (by omega) hm hsz;rw[h1]at this;exact this
theorem OG.cut {W:World}{n₀ g n c:Nat}{xs zs:List Int}(h:OG W n₀ g n c (xs++zs)):OG W n₀ g xs.length c xs:=by obtain⟨h1,-,hr⟩:=h;rcases hr with⟨e,-⟩|⟨g',cap,cur,e,hb,hc,hn,hm,hsz,ht⟩;{cases e};cases e;rw[List.length_append]at h1;refine⟨rfl,by simp, .inr ⟨g,c,cur,rfl,hb,hc,by omega,hm,hsz,?_⟩⟩;rw[Nat.mul_one]at ht ⊢;have:=congrArg (List.take xs.length) ht;rw[List.take_take,Nat.min_eq_left (by omega),List.map_append,List.take_left' (by simp)]at this;exact this
theorem lY (n₀ g n c:Nat)(xs:List Int)(w:World)(ho:OG w n₀ g n c xs)(hn:n₀<=w.heap.size)(hsh:n<=1000):Calls Try.prog 70 #[.slice (some ⟨g,0,none⟩) n c] w fun e w'=>e= .returned (.tuple #[])/\OG w' n₀ g n c (xs.mergeSort fun x y=>decide (x<=y))/\w.grownBy w' (some g):=by have hcap:=ho.cap;have h:=AnyG.slices_Sort_int xZ g 0 c xs w ho.holds ho.lt.2 (by have:=ho.1;omega);rw[ho.1]at h;refine h.mono ?_;rintro e w' ⟨rfl,q,os,rfl⟩;exact⟨rfl,ho.put (List.length_mergeSort _),grownBy_sortedI _⟩
theorem iD (n₀ g n c:Nat)(xs:List Int)(w:World)(ho:OG w n₀ g n c xs)(hn:n₀<=w.heap.size):Calls Try.prog 71 #[.slice (some ⟨g,0,none⟩) n c] w fun e w'=>∃m,e= .returned (.slice (some ⟨g,0,none⟩) m c)/\OG w' n₀ g m c (Go.Lib.compact xs)/\w.grownBy w' (some g):=by have hcap:=ho.cap;have h:=AnyG.slices_Compact_int yK g 0 c xs w ho.holds (by have:=ho.1;unfold maxLen at hcap;omega) (by have:=ho.1;omega);rw[ho.1]at h;refine h.mono ?_;rintro e w' ⟨rfl,q,rfl⟩;have hle:=Go.Lib.compact_length_le xs;have hp:=ho.put (q:=q) (os:=#[]) (ys:=Go.Lib.compact xs++List.replicate (n-(Go.Lib.compact xs).length) 0) (by have:=ho.1;simp;omega);rw[Go.Sort.grow_empty]at hp;have hg:=grownBy_sortedI (w:=w) (g:=g) (n:=q) (os:=#[]) (Go.Lib.compact xs++List.replicate (n-(Go.Lib.compact xs).length) 0).toArray;rw[Go.Sort.grow_empty]at hg;exact⟨_,rfl,hp.cut,hg⟩
theorem bU (n₀ g n c:Nat)(xs:List Int)(w:World)(ho:OG w n₀ g n c xs)(hn:n₀<=w.heap.size)(hsh:n<=1000):Calls Try.prog 66 #[.slice (some ⟨g,0,none⟩) n c] w fun e w'=>∃m,e= .returned (.slice (some ⟨g,0,none⟩) m c)/\OG w' n₀ g m c (Ln.aV xs)/\w.grownBy w' (some g):=by have hcon:=lY n₀ g n c xs w ho hn hsh;have HP:=ae (Fl.jS xs);clear ho;go_enter Try.func66,Try.ntmps66;go_wp2_with fail;refine hcon.mono ?_;rintro e w4 ⟨rfl,om,hgr⟩;dsimp only;have fZ:=iD n₀ g n c _ w4 om (Nat.le_trans hn hgr.size);rw[HP.out]at fZ;clear hcon om HP;go_wp2_with fail;refine fZ.mono ?_;rintro e w5 ⟨m5,rfl,rQ,hgr5⟩;dsimp only;have HF:=ae (ak rQ (hgr.trans hgr5));clear fZ rQ hgr5 hgr;go_wp2;go_ret;exact⟨m5,rfl,HF.out.1,HF.out.2⟩
end Go.Proofs.Ytlbkdlnalgkjeaa
