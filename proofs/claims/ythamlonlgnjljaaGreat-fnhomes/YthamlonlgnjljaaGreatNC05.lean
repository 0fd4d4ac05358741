/-
  Own texts for a law: Sp2 Hs1 Hm3 Fs1 Fs3 Lin4 Fs4 RowsB BoxL Lcg
-/
import Derived.Test.YthamlonlgnjljaaGreatNC04
import Derived.Deep.LoopGhost
import Derived.Deep.RegionLaw
namespace Go.Proofs.YthamlonlgnjljaaGreat
open Go.RowKit Go.Shelf
set_option linter.all false
set_option maxRecDepth 100000
set_option maxHeartbeats 16000000
theorem ve (x y:Sp.S)(w:World):Calls Tryz.prog 36 #[.agg #[.int .i64 x.b, .int .i64 x.f, .int .i64 x.t, .bool x.c], .agg #[.int .i64 y.b, .int .i64 y.f, .int .i64 y.t, .bool y.c]] w fun e w'=>e= .returned (.bool (Sp.bH x y))/\Below w.heap.size w w':=by obtain⟨xb,xf,xt,xc⟩:=x;obtain⟨yb,yf,yt,yc⟩:=y;simp only;have hB1:=aA w (.cells #[.int .i64 xb, .int .i64 xf, .int .i64 xt, .bool xc] 45);have hB2:=hB1.trans ((aA (w.alloc (.cells #[.int .i64 xb, .int .i64 xf, .int .i64 xt, .bool xc] 45)) (.cells #[.int .i64 yb, .int .i64 yf, .int .i64 yt, .bool yc] 45)).mono hB1.size);have HB:=ae hB2;have fin:∀r:Bool,Hid (r=Sp.bH ⟨xb,xf,xt,xc⟩ ⟨yb,yf,yt,yc⟩)->Value.bool r= .bool (Sp.bH ⟨xb,xf,xt,xc⟩ ⟨yb,yf,yt,yc⟩):=fun r h=>by{rw[h.out]};have HF:=ae fin;clear hB1 hB2 fin;by_cases h1:xf<=yt;{by_cases h2:yf<=xt;{by_cases h3:xf<=xt;{by_cases h4:yf<=yt;{have HM:Hid (Sp.bH ⟨xb,xf,xt,xc⟩ ⟨yb,yf,yt,yc⟩=true):=by{show _=_;simp[Sp.bH,h1,h2,h3,h4]};go_enter Tryz.func36,Tryz.ntmps36;go_wp2;go_ret;exact⟨(by rw[HM.out];rfl),HB.out⟩};have HM:Hid (Sp.bH ⟨xb,xf,xt,xc⟩ ⟨yb,yf,yt,yc⟩=false):=by{show _=_;simp[Sp.bH,h4]};go_enter Tryz.func36,Tryz.ntmps36;go_wp2;go_ret;exact⟨(by rw[HM.out];rfl),HB.out⟩};have HM:Hid (Sp.bH ⟨xb,xf,xt,xc⟩ ⟨yb,yf,yt,yc⟩=false):=by{show _=_;simp[Sp.bH,h3]};go_enter Tryz.func36,Tryz.ntmps36;go_wp2;go_ret;exact⟨(by rw[HM.out];rfl),HB.out⟩};have HM:Hid (Sp.bH ⟨xb,xf,xt,xc⟩ ⟨yb,yf,yt,yc⟩=false):=by{show _=_;simp[Sp.bH,h2]};go_enter Tryz.func36,Tryz.ntmps36;go_wp2;go_ret;exact⟨(by rw[HM.out];rfl),HB.out⟩};have HM:Hid (Sp.bH ⟨xb,xf,xt,xc⟩ ⟨yb,yf,yt,yc⟩=false):=by{show _=_;simp[Sp.bH,h1]};go_enter Tryz.func36,Tryz.ntmps36;go_wp2;go_ret;exact⟨(by rw[HM.out];rfl),HB.out⟩
def nI (o:List Nat):List Int:=o.map Int.ofNat
theorem oh (o:List Nat):(nI o).length=o.length:=by simp[nI]
theorem EQ (o:List Nat)(j:Nat):(nI o).getD j 0=((o.getD j 0:Nat):Int):=by unfold nI;rw[ah,List.getElem?_map,ah];cases o[j]?<;>rfl
theorem EA (l:List Sp.S)(o:List Nat)(i:Nat):(nI (o.take (Hm.pos l (l.getD i .z).f o))++[(i:Int)])++nI (o.drop (Hm.pos l (l.getD i .z).f o))=nI (Hm.ins l o i):=by unfold Hm.ins nI;rw[List.map_append,List.map_cons,List.append_assoc];rfl
theorem qx (o:List Nat)(k:Nat):nI (o.drop k)=(nI o).drop k:=by simp[nI]
theorem BG (o:List Nat)(k:Nat):nI (o.take k)=(nI o).take k:=by simp[nI]
theorem Dx (xs:List Int)(k j:Nat):(xs.drop k).getD j 0=xs.getD (k+j) 0:=by rw[ah,List.getElem?_drop,←ah]
theorem uV (xs:List Int){k j:Nat}(h:j<k):(xs.take k).getD j 0=xs.getD j 0:=by rw[ah,List.getElem?_take_of_lt h,←ah]
theorem OG.Bo {W:World}{n₀ g n c:Nat}{xs:List Int}(h:OG W n₀ g n c xs)(j:Nat)(x:Int):OG (W.setCell ⟨g,j,none⟩ (.int .i64 x)) n₀ g n c (xs.set j x):=by have hst:=(World.ownsRow.stored h.2 j (.int .i64 x)).1;refine⟨by rw[List.length_set];exact h.1,?_⟩;have e:(xs.set j x).map iv=(xs.map iv).set j (.int .i64 x):=by{rw[List.map_set];rfl};rw[e];exact hst
def holds (l:List Sp.S)(h:List Int)(i k:Nat):List Int:=(List.range 5).map fun(sh:Nat)=>Hm.hold l h i (sh:Int) k
theorem FD (l:List Sp.S)(h:List Int)(i k:Nat){j:Nat}(hj:j<5):(holds l h i k).getD j 0=Hm.hold l h i (j:Int) k:=by unfold holds;rw[ah,List.getElem?_map,List.getElem?_range hj];rfl
theorem nR (l:List Sp.S)(h:List Int)(i k:Nat):(holds l h i k).length=5:=by simp[holds]
theorem uW (l:List Sp.S)(h:List Int)(i k:Nat){j:Nat}(hj:j<5):(holds l h i k)[j]?=some (Hm.hold l h i (j:Int) k):=by unfold holds;rw[List.getElem?_map,List.getElem?_range hj];rfl
theorem Dn {l:List Sp.S}{h:List Int}{i k v:Nat}(h1:h.getD k 0=(v:Int))(h2:v<5)(h3:Sp.bH (l.getD k .z) (l.getD i .z)=true):holds l h i (k+1)=(holds l h i k).set v (k:Int):=by refine List.ext_getElem? fun j=>?_;by_cases hj:j<5;{rw[uW l h i _ hj,List.getElem?_set,uW l h i _ hj,nR,ay h2];show some (if h.getD k 0=(j:Int)/\Sp.bH (l.getD k .z) (l.getD i .z)=true then(k:Int)else Hm.hold l h i (j:Int) k)=_;by_cases e:v=j;{rw[ay ⟨by rw[h1,e],h3⟩,ay e]};rw[ax (fun hh=>e (by have:=h1.symm.trans hh.1;omega)),ax e]};rw[List.getElem?_eq_none (by rw[nR];omega),List.getElem?_eq_none (by rw[List.length_set,nR];omega)]
theorem Ep {l:List Sp.S}{h:List Int}{i k:Nat}(h1:h.getD k 0<0\/Sp.bH (l.getD k .z) (l.getD i .z)=false):holds l h i (k+1)=holds l h i k:=by unfold holds;refine List.map_congr_left fun j hj=>?_;show(if h.getD k 0=(j:Int)/\Sp.bH (l.getD k .z) (l.getD i .z)=true then(k:Int)else Hm.hold l h i (j:Int) k)=_;rw[ax];rintro⟨e,e2⟩;rcases h1 with h1|h1;{omega};rw[h1]at e2;cases e2
theorem eB {ops:Array Oper}{rest:List Oper}{o:Oper}{a:Act}{w:World}{Q:Exit->Act->World->Prop}(x y:Operand)(s t:TypeId)(ho:o.op= .call {callee:= .builtin .append,args:=#[x,y],argTypes:=#[s,t]})(h:Still (wpList Tryz.prog ops Q (o::rest) a w)):wpList Tryz.prog ops Q (o::rest) a w:=h.out
theorem pK (n₀ gs ns cs:Nat) (l:List Sp.S) (hlen:ns<=40) (w:World) (hs:SG w n₀ gs ns cs l):Calls Tryz.prog 57 #[.slice (some ⟨gs,0,none⟩) ns cs] w fun e w'=>∃g c,e= .returned (.slice (some ⟨g,0,none⟩) ns c)/\OG w' w.heap.size g ns c (Hm.run l ns)/\Below w.heap.size w w':=by
 have hln:=hs.1
 have HL:=ae hln
 have hcap:=hs.cap
 have hgs:=hs.lt
 have HS:=ae hs
 have Ws:(ns:Int)<=40:=by omega
 have Wt:=ae (ak (iC.empty w w.heap.size (Nat.le_refl _)) (aA w (.cells #[] 3)))
 clear hs hln
 go_enter Tryz.func57,Tryz.ntmps57
 go_wp2
 go_loopg [3,4] ns (fun gk vo vi wr=>∃(i g n c:Nat),gk=ns-i/\i<=ns/\vo= .slice (some ⟨g,0,none⟩) n c/\vi= .int .i64 (i:Int)/\n=i/\iC wr w.heap.size g n c (nI (Hm.ord l i))/\Below w.heap.size w wr)
 case atStart=>exact⟨0,_,0,0,rfl,by omega,rfl,rfl,rfl,(show iC _ _ _ _ _ (nI [])from Wt.out.1),Wt.out.2⟩
 case round=>
  obtain⟨i,g,n,c,mJ,hi,rfl,rfl,rfl,hor,hB⟩:=hrel
  obtain⟨w0,rfl⟩:∃x,x=wr:=⟨_,rfl⟩
  clear Wt
  by_cases hlt:n<ns
  · have bE:(n:Int)<(ns:Int):=by{omega};have HO:=ae (ak hor hB);have aZ:=hB.size;have hgo:=hor.lt;have hco:=hor.cap;have hsw:=HS.out.kept hB;have J5:=ae hsw;have d1:=(hsw.cell hlt).2.1;obtain⟨P,hP⟩:∃P,Hm.pos l (l.getD n .z).f (Hm.ord l n)=P:=⟨_,rfl⟩;have hPn:P<=n:=by{rw[←hP];have:=Hm.wL l (l.getD n .z).f (Hm.ord l n);rw[Hm.dC]at this;exact this};have J6:Hid (∀k,k<P->(l.getD ((Hm.ord l n).getD k 0) .z).f<=(l.getD n .z).f):=fun k hk=>Hm.Ab (by rw[hP];exact hk);have HAT:Hid (P<n->¬(l.getD ((Hm.ord l n).getD P 0) .z).f<=(l.getD n .z).f):=fun h=>by{have:=@Hm.pos_at l (l.getD n .z).f (Hm.ord l n);rw[hP,Hm.dC]at this;exact this h};have bF:Hid (∀k,k<n->(Hm.ord l n).getD k 0<n):=fun k hk=>by{rw[Hm.jN (by rw[Hm.dC];exact hk)];exact Hm.fP.1 (List.getElem_mem _)};have HPP:=ae hP;generalize(l.getD n .z).f=F at d1 J6 HAT;clear hor hB hsw hP;go_wp2;go_loopg [5] P (fun gj vk wx=>∃(k:Nat),gj=P-k/\k<=P/\vk= .int .i64 (k:Int)/\Below w0.heap.size w0 wx);(case atStart=>exact⟨0,rfl,by omega,rfl,Below.refl _ _⟩);case round=>obtain⟨k,hgj,hk,rfl,hBx⟩:=hrel;have gD:=ae hBx;have hgx:=aj hgo.2 hBx.size;have Pj:gs<wr.heap.size:=by{have:=hBx.size;omega};have dx:=(hBx.cell (p:=⟨gs,n*4+1,none⟩) (by show gs<_;omega)).trans d1;by_cases hkP:k<P;{have hkn:k<n:=by{omega};have AV:(k:Int)<(n:Int):=by{omega};have hc:=(hBx.cell (p:=⟨g,k,none⟩) hgo.2).trans (HO.out.1.cell hkn);have hA:=bF.out k hkn;have hF:=J6.out k hkP;rw[EQ]at hc;generalize(Hm.ord l n).getD k 0=a at hc hA hF;have hAs:a<ns:=by{omega};have hAZ:(a:Int)<(ns:Int):=by{omega};have da:=(hBx.cell (p:=⟨gs,a*4+1,none⟩) (by show gs<_;omega)).trans (J5.out.cell hAs).2.1;have hd1:decide ((k:Int)<(n:Int))=true:=decide_eq_true AV;have hd2:decide ((l.getD a .z).f<=F)=true:=decide_eq_true hF;generalize(l.getD a .z).f=G at da hd2 hF;clear hBx;go_wp2_with fail;go_quiet (fail);have HN:=ae (gD.out.trans ((bf wr nq).mono gD.out.size));go_wp2;go_roundg (P-(k+1));(case measure=>omega);case rel=>exact⟨k+1,rfl,hkP,by simp,HN.out⟩};have Wu:k=P:=by{omega};subst Wu;by_cases LV:k<n;{have AV:(k:Int)<(n:Int):=by{omega};have hc:=(hBx.cell (p:=⟨g,k,none⟩) hgo.2).trans (HO.out.1.cell LV);have hA:=bF.out k LV;have hF:=HAT.out LV;rw[EQ]at hc;generalize(Hm.ord l n).getD k 0=a at hc hA hF;have hAs:a<ns:=by{omega};have hAZ:(a:Int)<(ns:Int):=by{omega};have da:=(hBx.cell (p:=⟨gs,a*4+1,none⟩) (by show gs<_;omega)).trans (J5.out.cell hAs).2.1;have hd1:decide ((k:Int)<(n:Int))=true:=decide_eq_true AV;have hd2:decide ((l.getD a .z).f<=F)=false:=decide_eq_false (by omega);generalize(l.getD a .z).f=G at da hd2 hF;clear hBx;go_wp2_with fail;go_quiet ((at_builtin;refine eB _ _ _ _ rfl ?_));have HX:=ae (gD.out.trans ((bf wr nq).mono gD.out.size));obtain⟨x,hx⟩:∃x,wr.drewN nq=x:=⟨_,rfl⟩;rw[hx]at HX ⊢;clear hc hA hF hAs hAZ da hd1 hd2 AV;clear hx J6 HAT dx d1 gD hgx Pj;have hgx:=aj hgo.2 HX.out.size;have hox:=HO.out.1.kept HX.out;have hcn:n<=c:=hco.1;have hwx:=Nat.le_trans aZ HX.out.size;have hal:=aA x (.cells #[] 3);have HA1:=ae (ak (iC.empty x w.heap.size hwx) (ak (hox.kept hal) (HO.out.2.trans ((HX.out.trans (hal.mono HX.out.size)).mono aZ))));have AV:(k:Int)<=(n:Int):=by{omega};clear hox hal;go_wp2_with(at_builtin;refine eB _ _ _ _ rfl ?_);all_goals refine⟨?_⟩;refine dY _ rfl _ _ rfl w.heap.size _ _ _ _ rfl HA1.out.1 g _ _ _ ((nI (Hm.ord l n)).drop k) rfl (by rw[List.length_drop,oh,Hm.dC]) (fun j hj=>by rw[Dx];exact HA1.out.2.1.cell (by omega)) (by omega) (by simp;omega) ?_;intro g1 c1 N1 x2 hN1 ho1 hg1;have Ww:=ho1.lt;rw[List.nil_append]at ho1;have LW:g≠x.heap.size:=by{omega};have ho2:=HA1.out.2.1.bS hg1 LW;have hB2:=aB HA1.out.2.2 hg1 hwx;have LY:=hg1.size;simp at LY;have hal:=aA x2 (.cells #[] 3);have HA2:=ae (ak (iC.empty x2 x2.heap.size (Nat.le_refl _)) (ak (ho2.kept hal) (ak (ho1.kept hal) (hB2.trans (hal.mono hB2.size)))));have Gf:w.heap.size<=x2.heap.size:=hB2.size;clear ho1 hg1 ho2 hB2 hal HA1;go_wp2_with(at_builtin;refine eB _ _ _ _ rfl ?_);refine⟨?_⟩;refine dY _ rfl _ _ rfl x2.heap.size _ _ _ _ rfl HA2.out.1 g 0 k _ ((nI (Hm.ord l n)).take k) rfl (by rw[List.length_take,oh,Hm.dC];omega) (fun j hj=>by rw[uV _ hj,Nat.zero_add];exact HA2.out.2.1.cell (by omega)) (by omega) (by simp) ?_;intro g2 c2 N2 x3 G5 ho3 hg3;rw[List.nil_append]at ho3;have LZ:g1≠x2.heap.size:=by{omega};have pu:=HA2.out.2.2.1.bS hg3 LZ;have hB4:=aB HA2.out.2.2.2 hg3 Gf;have hal:=aA x3 (.cells #[.int .i64 (n:Int)] 3);have Gg:=ae (ak (ho3.kept hal) (ak (pu.kept hal) (ak (iC.one x3 w.heap.size hB4.size (n:Int)) (hB4.trans (hal.mono hB4.size)))));have Wx:x2.heap.size<=x3.heap.size:=by{have:=hg3.size;simp at this;omega};have Wy:=ho3.lt;clear ho3 pu hg3 hB4 hal HA2;go_wp2_with(at_builtin;refine eB _ _ _ _ rfl ?_);refine⟨?_⟩;refine dY _ rfl _ _ rfl x2.heap.size _ _ _ _ rfl Gg.out.1 x3.heap.size 0 1 1 [(n:Int)] rfl rfl (fun j hj=>by rw[Nat.zero_add];exact Gg.out.2.2.1.cell hj) (by have:=G5.out;omega) (by simp;omega) ?_;intro g3 c3 N3 x4 DN nM hg5;have vC:=Gg.out.2.1.bS hg5 (by omega);have bD:=aB Gg.out.2.2.2 hg5 (by omega);have L6:=ae (ak nM (ak vC bD));have L8:x2.heap.size<=x4.heap.size:=by{have:=hg5.size;simp at this;omega};have Wz:=nM.lt;clear nM vC hg5 bD Gg;go_wp2_with(at_builtin;refine eB _ _ _ _ rfl ?_);refine⟨?_⟩;refine dY _ rfl _ _ rfl x2.heap.size _ _ _ _ rfl L6.out.1 g1 0 N1 c1 (nI ((Hm.ord l n).drop k)) rfl (by rw[qx,List.length_drop,oh,Hm.dC];have:=hN1.out;omega) (fun j hj=>by rw[Nat.zero_add,qx];exact L6.out.2.1.cell hj) (by have:=DN.out;have:=G5.out;have:=hN1.out;omega) L8 ?_;intro g4 c4 N4 x5 J4 L9 Pk;rw[←BG,←HPP.out,EA]at L9;have HF:=ae (ak (iC.mono L9 Gf) (aB L6.out.2.2 Pk (by omega)));have HN:Hid (N4=n+1):=by{show _=_;have:=DN.out;have:=G5.out;have:=hN1.out;have:=J4.out;omega};clear L9 Pk;go_wp2;go_roundg (ns-(n+1));(case measure=>omega);case rel=>exact⟨n+1,g4,N4,c4,rfl,hlt,rfl,by simp,HN.out,HF.out.1,HF.out.2⟩};have hd1:decide ((k:Int)<(n:Int))=false:=decide_eq_false (by omega);clear hBx;go_wp2_with fail;go_quiet ((at_builtin;refine eB _ _ _ _ rfl ?_));have HX:=ae (gD.out.trans ((bf wr nq).mono gD.out.size));obtain⟨x,hx⟩:∃x,wr.drewN nq=x:=⟨_,rfl⟩;rw[hx]at HX ⊢;clear hd1;clear hx J6 HAT dx d1 gD hgx Pj;have hgx:=aj hgo.2 HX.out.size;have hox:=HO.out.1.kept HX.out;have hcn:n<=c:=hco.1;have hwx:=Nat.le_trans aZ HX.out.size;have hal:=aA x (.cells #[] 3);have HA1:=ae (ak (iC.empty x w.heap.size hwx) (ak (hox.kept hal) (HO.out.2.trans ((HX.out.trans (hal.mono HX.out.size)).mono aZ))));have AV:(k:Int)<=(n:Int):=by{omega};clear hox hal;go_wp2_with(at_builtin;refine eB _ _ _ _ rfl ?_);all_goals refine⟨?_⟩;refine dY _ rfl _ _ rfl w.heap.size _ _ _ _ rfl HA1.out.1 g _ _ _ ((nI (Hm.ord l n)).drop k) rfl (by rw[List.length_drop,oh,Hm.dC]) (fun j hj=>absurd hj (by omega)) (by omega) (by simp;omega) ?_;intro g1 c1 N1 x2 hN1 ho1 hg1;have Ww:=ho1.lt;rw[List.nil_append]at ho1;have LW:g≠x.heap.size:=by{omega};have ho2:=HA1.out.2.1.bS hg1 LW;have hB2:=aB HA1.out.2.2 hg1 hwx;have LY:=hg1.size;simp at LY;have hal:=aA x2 (.cells #[] 3);have HA2:=ae (ak (iC.empty x2 x2.heap.size (Nat.le_refl _)) (ak (ho2.kept hal) (ak (ho1.kept hal) (hB2.trans (hal.mono hB2.size)))));have Gf:w.heap.size<=x2.heap.size:=hB2.size;clear ho1 hg1 ho2 hB2 hal HA1;go_wp2_with(at_builtin;refine eB _ _ _ _ rfl ?_);refine⟨?_⟩;refine dY _ rfl _ _ rfl x2.heap.size _ _ _ _ rfl HA2.out.1 g 0 k _ ((nI (Hm.ord l n)).take k) rfl (by rw[List.length_take,oh,Hm.dC];omega) (fun j hj=>by rw[uV _ hj,Nat.zero_add];exact HA2.out.2.1.cell (by omega)) (by omega) (by simp) ?_;intro g2 c2 N2 x3 G5 ho3 hg3;rw[List.nil_append]at ho3;have LZ:g1≠x2.heap.size:=by{omega};have pu:=HA2.out.2.2.1.bS hg3 LZ;have hB4:=aB HA2.out.2.2.2 hg3 Gf;have hal:=aA x3 (.cells #[.int .i64 (n:Int)] 3);have Gg:=ae (ak (ho3.kept hal) (ak (pu.kept hal) (ak (iC.one x3 w.heap.size hB4.size (n:Int)) (hB4.trans (hal.mono hB4.size)))));have Wx:x2.heap.size<=x3.heap.size:=by{have:=hg3.size;simp at this;omega};have Wy:=ho3.lt;clear ho3 pu hg3 hB4 hal HA2;go_wp2_with(at_builtin;refine eB _ _ _ _ rfl ?_);refine⟨?_⟩;refine dY _ rfl _ _ rfl x2.heap.size _ _ _ _ rfl Gg.out.1 x3.heap.size 0 1 1 [(n:Int)] rfl rfl (fun j hj=>by rw[Nat.zero_add];exact Gg.out.2.2.1.cell hj) (by have:=G5.out;omega) (by simp;omega) ?_;intro g3 c3 N3 x4 DN nM hg5;have vC:=Gg.out.2.1.bS hg5 (by omega);have bD:=aB Gg.out.2.2.2 hg5 (by omega);have L6:=ae (ak nM (ak vC bD));have L8:x2.heap.size<=x4.heap.size:=by{have:=hg5.size;simp at this;omega};have Wz:=nM.lt;clear nM vC hg5 bD Gg;go_wp2_with(at_builtin;refine eB _ _ _ _ rfl ?_);refine⟨?_⟩;refine dY _ rfl _ _ rfl x2.heap.size _ _ _ _ rfl L6.out.1 g1 0 N1 c1 (nI ((Hm.ord l n).drop k)) rfl (by rw[qx,List.length_drop,oh,Hm.dC];have:=hN1.out;omega) (fun j hj=>by rw[Nat.zero_add,qx];exact L6.out.2.1.cell hj) (by have:=DN.out;have:=G5.out;have:=hN1.out;omega) L8 ?_;intro g4 c4 N4 x5 J4 L9 Pk;rw[←BG,←HPP.out,EA]at L9;have HF:=ae (ak (iC.mono L9 Gf) (aB L6.out.2.2 Pk (by omega)));have HN:Hid (N4=n+1):=by{show _=_;have:=DN.out;have:=G5.out;have:=hN1.out;have:=J4.out;omega};clear L9 Pk;go_wp2;go_roundg (ns-(n+1));(case measure=>omega);case rel=>exact⟨n+1,g4,N4,c4,rfl,hlt,rfl,by simp,HN.out,HF.out.1,HF.out.2⟩
  · have hne:n=ns:=by omega
    subst hne
    have HO:=ae (ak hor hB)
    have aZ:=hB.size
    have bE:¬(n:Int)<(n:Int):=by omega
    clear hor hB
    go_wp2_with fail
    refine(iL n (by omega) _).mono ?_
    rintro e w1 ⟨gh,ch,rfl,hoi,hB1⟩
    dsimp only
    have sF:OG w1 w0.heap.size gh n ch (Hm.run l 0):=by refine⟨by show(List.replicate l.length (-1:Int)).length=n;rw[List.length_replicate,HL.out],?_⟩;have e:Hm.run l 0=aG.dP n:=by{show List.replicate l.length (-1)=List.replicate n (-1);rw[HL.out]};rw[e];have h2:=hoi;unfold OI at h2;rw[show(aG.dP n).length=n from by simp[aG.dP]]at h2;exact h2
    have hgo:=HO.out.1.lt
    have hgh:=sF.lt
    have hch:=sF.cap
    have hco:=HO.out.1.cap
    have HX:=ae (ak sF (ak (HO.out.1.kept hB1) (HO.out.2.trans (hB1.mono aZ))))
    have hne2:g≠gh:=by omega
    clear hoi sF hB1 HO
    go_wp2
    go_loopg [8] n (fun gk vi wr=>∃(m:Nat),gk=n-m/\m<=n/\vi= .int .i64 (m:Int)/\OG wr w0.heap.size gh n ch (Hm.run l m)/\iC wr w.heap.size g n c (nI (Hm.ord l n))/\Below w.heap.size w wr)
    case atStart=>exact⟨0,rfl,by omega,rfl,HX.out.1,HX.out.2.1,HX.out.2.2⟩
    case round=>
     obtain⟨m,hgm,hm,rfl,sF,hor,hB⟩:=hrel
     obtain⟨w2,rfl⟩:∃x,x=wr:=⟨_,rfl⟩
     clear HX
     by_cases Ma:m<n
     rotate_left
     · have hme:m=n:=by{omega};subst hme;have HF:=ae (ak (sF.mono aZ) hB);have WA:¬(m:Int)<(m:Int):=by{omega};clear sF hor hB;go_wp2;go_ret;exact⟨gh,ch,rfl,HF.out.1,HF.out.2⟩
     have WA:(m:Int)<(n:Int):=by omega
     have ho:=hor.cell Ma
     rw[EQ]at ho
     have hil:(Hm.ord l n).getD m 0<n:=by rw[Hm.jN (by rw[Hm.dC];exact Ma)];exact Hm.fP.1 (List.getElem_mem _)
     have Mc:Hid (Hm.run l (m+1)=Hm.put l (Hm.run l m) ((Hm.ord l l.length).getD m 0)):=rfl
     rw[HL.out]at Mc
     have WB:=hor.lt
     have WC:=sF.lt
     have hB2:=hB.size
     have hsw:=HS.out.kept hB
     obtain⟨i,hidx⟩:∃i,(Hm.ord l n).getD m 0=i:=⟨_,rfl⟩
     rw[hidx]at ho hil Mc
     have Pm:(i:Int)<(n:Int):=by omega
     obtain⟨d0,d1,d2,d3⟩:=hsw.cell hil
     have HW:=ae (ak sF (ak hor (ak hB hsw)))
     have hhl:Hid ((Hm.run l m).length=n):=sF.1
     have Nr:=Hm.Inv.run l m (by rw[HL.out];omega)
     have Pn:Hid (∀k,k<n->(Hm.run l m).getD k 0<0\/0<=(Hm.run l m).getD k 0/\(Hm.run l m).getD k 0<=4):=fun k hk=>by by_cases hd:Hm.dn l m k;{have:=Nr.val k hd;omega};have:=Nr.un k (by rw[HL.out];exact hk) hd;omega
     have HI1:Hid ((Hm.run l m).getD i 0=-1):=Nr.un i (by rw[HL.out];exact hil) (by rw[←hidx,←HL.out];exact Hm.zU (by rw[HL.out];exact Ma))
     clear Nr hidx
     generalize Hm.run l m=h0 at Mc sF HW hhl Pn HI1
     obtain⟨cx,hcx⟩:∃cx,(l.getD i .z).c=cx:=⟨_,rfl⟩
     rw[hcx]at d3
     have hfz:=fun j=>World.ownsRow.frozenAt sF.2 j
     cases cx
     rotate_left
     · have hst:Hid (OG (w2.setCell ⟨gh,i,none⟩ (.int .i64 (-2))) w0.heap.size gh n ch (h0.set i (-2))/\iC (w2.setCell ⟨gh,i,none⟩ (.int .i64 (-2))) w.heap.size g n c (nI (Hm.ord l n))/\Below w.heap.size w (w2.setCell ⟨gh,i,none⟩ (.int .i64 (-2)))):=⟨OG.Bo sF i (-2),hor.bS (aF _ ⟨gh,i,none⟩ _) hne2,aB hB (aF _ ⟨gh,i,none⟩ _) (show w.heap.size<=gh by omega)⟩;have HE:Hid (Hm.run l (m+1)=h0.set i (-2)):=by{show _=_;rw[Mc.out];unfold Hm.put;rw[ay hcx]};have hci:=sF.cell hil;clear sF hor hB hsw hcx Mc HW;go_wp2;go_roundg (n-(m+1));(case measure=>omega);case rel=>exact⟨m+1,rfl,Ma,by simp,by rw[HE.out];exact hst.out.1,hst.out.2.1,hst.out.2.2⟩
     have Ns:Hid (∀sh z,Hm.go l h0 i 5 0 i=(some sh,z)->Hm.put l h0 i=h0.set i sh):=fun sh z h=>by unfold Hm.put;rw[ax (by rw[hcx];decide),h]
     have HNN:Hid (∀z,Hm.go l h0 i 5 0 i=(none,z)->Hm.put l h0 i=if z≠i then(h0.set i (h0.getD z 0)).set z (-2)else h0.set i (-2)):=fun z h=>by unfold Hm.put;rw[ax (by rw[hcx];decide),h]
     have hal:=aA w2 (.cells #[.int .i64 (-1), .int .i64 (-1), .int .i64 (-1), .int .i64 (-1), .int .i64 (-1)] 3)
     have HY:Hid (iC (w2.alloc (.cells #[.int .i64 (-1), .int .i64 (-1), .int .i64 (-1), .int .i64 (-1), .int .i64 (-1)] 3)) w2.heap.size w2.heap.size 5 5 (holds l h0 i 0)/\Below w2.heap.size w2 (w2.alloc (.cells #[.int .i64 (-1), .int .i64 (-1), .int .i64 (-1), .int .i64 (-1), .int .i64 (-1)] 3))):=⟨iC.VU w2 w2.heap.size (Nat.le_refl _) (-1) (-1) (-1) (-1) (-1),hal⟩
     clear sF hor hB hsw hcx hal d0 d1 d2 hfz
     go_wp2_with fail
     obtain⟨x,hx⟩:∃x,w2.alloc (.cells #[.int .i64 (-1), .int .i64 (-1), .int .i64 (-1), .int .i64 (-1), .int .i64 (-1)] 3)=x:=⟨_,rfl⟩
     rw[hx]at HY ⊢
     clear hx ho d3
     go_loopg [11] n (fun gj vk wx=>∃(k:Nat),gj=n-k/\k<=n/\vk= .int .i64 (k:Int)/\iC wx w2.heap.size w2.heap.size 5 5 (holds l h0 i k)/\Below w2.heap.size w2 wx)
     case atStart=>exact⟨0,by omega,by omega,rfl,HY.out.1,HY.out.2⟩
     case round=>
      obtain⟨k,hgj,hk,rfl,hho,hBx⟩:=hrel
      obtain⟨w3,rfl⟩:∃x,x=wr:=⟨_,rfl⟩
      clear HY
      have hox:=HW.out.1.kept hBx
      have hsx:=HW.out.2.2.2.kept hBx
      have hgx:=hox.lt
      have hsl:=hsx.lt
      have hhx:=hho.lt
      by_cases hkn:k<n
      rotate_left
      · have hke:k=n:=by omega
        subst hke
        have I4:=ae (ak hho hBx)
        have HOX:=ae (ak hox hsx)
        have WE:=ae (ak (HW.out.2.1.kept hBx) (HW.out.2.2.1.trans (hBx.mono hB2)))
        have HGO:Hid (Hm.go l h0 i (5-0) ((0:Nat):Int) i=Hm.go l h0 i 5 0 i):=rfl
        have hkk:¬(k:Int)<(k:Int):=by omega
        clear hho hBx hox hsx
        go_wp2
        go_loopg [12,13] 5 (fun gj vl vs wx=>∃(s z:Nat),gj=5-s/\s<=5/\vl= .int .i64 (z:Int)/\vs= .int .i64 (s:Int)/\z<k/\Hid (Hm.go l h0 i (5-s) (s:Int) z=Hm.go l h0 i 5 0 i)/\Below w3.heap.size w3 wx)
        case atStart=>exact⟨0,i,rfl,by omega,rfl,rfl,hil,HGO,Below.refl _ _⟩
        case round=>
         obtain⟨s,z,WG,hs5,rfl,rfl,I1,Nt,zQ⟩:=hrel
         obtain⟨w4,rfl⟩:∃x,x=wr:=⟨_,rfl⟩
         have AX:=HOX.out.1.kept zQ
         have hsz:=HOX.out.2.kept zQ
         have hhz:=I4.out.1.kept zQ
         have hwz:=WE.out.2.size
         have Nu:=ae (ak (WE.out.1.kept zQ) (WE.out.2.trans (zQ.mono hwz)))
         have J7:=ae zQ
         have hgz:=AX.lt
         have hsl2:=hsz.lt
         have adW:=hhz.lt
         have hzZ:(z:Int)<(k:Int):=by omega
         have hci:=AX.cell hil
         have hcz:=AX.cell I1
         have hfz:=fun j=>World.ownsRow.frozenAt AX.2 j
         have I5:Hid (∀W (xs:List Int)(j:Nat)(y:Int),OG W w0.heap.size gh k ch xs->iC W w.heap.size g k c (nI (Hm.ord l k))->Below w.heap.size w W->OG (W.setCell ⟨gh,j,none⟩ (.int .i64 y)) w0.heap.size gh k ch (xs.set j y)/\iC (W.setCell ⟨gh,j,none⟩ (.int .i64 y)) w.heap.size g k c (nI (Hm.ord l k))/\Below w.heap.size w (W.setCell ⟨gh,j,none⟩ (.int .i64 y))):=fun W xs j y h1 h2 h3=>
          ⟨OG.Bo h1 j y,h2.bS (aF W ⟨gh,j,none⟩ (.int .i64 y)) hne2,aB h3 (aF W ⟨gh,j,none⟩ (.int .i64 y)) (show w.heap.size<=gh by omega)⟩
         rw[HI1.out]at hci
         by_cases hs:s<5
         rotate_left
         · have hse:s=5:=by{omega};subst hse;have Nv:Hid (Hm.run l (m+1)=if z≠i then(h0.set i (h0.getD z 0)).set z (-2)else h0.set i (-2)):=by{show _=_;rw[Mc.out];exact HNN.out z Nt.out.symm};have HO1:=ae AX;by_cases hzi:z=i;{subst hzi;have HE2:Hid (Hm.run l (m+1)=h0.set z (-2)):=by{show _=_;rw[Nv.out,ax (by simp)]};have HF:=ae (I5.out w4 h0 z (-2) AX Nu.out.1 Nu.out.2);clear hcz;clear AX hsz hhz zQ Nt Nv;go_wp2;go_roundg (k-(m+1));(case measure=>omega);case rel=>exact⟨m+1,rfl,Ma,by simp,by rw[HE2.out];exact HF.out.1,HF.out.2.1,HF.out.2.2⟩};have adX:¬(z:Int)=(i:Int):=by{omega};have HE2:Hid (Hm.run l (m+1)=(h0.set i (h0.getD z 0)).set z (-2)):=by{show _=_;rw[Nv.out,ay hzi]};have h1:=I5.out w4 h0 i (h0.getD z 0) AX Nu.out.1 Nu.out.2;have HF:=ae (I5.out _ _ z (-2) h1.1 h1.2.1 h1.2.2);have hcz2:=h1.1.cell I1;have WI:=fun j=>World.ownsRow.frozenAt h1.1.2 j;generalize h0.getD z 0=y at hcz HE2 HF hcz2 WI;clear AX hsz hhz zQ Nt Nv h1;go_wp2;go_roundg (k-(m+1));(case measure=>omega);case rel=>exact⟨m+1,rfl,Ma,by simp,by rw[HE2.out];exact HF.out.1,HF.out.2.1,HF.out.2.2⟩
         have adY:(s:Int)<5:=by omega
         have hcs:=hhz.cell hs
         rw[FD l h0 i k hs]at hcs
         have HST:Hid (Hm.go l h0 i (5-s) (s:Int) z=if Hm.hold l h0 i (s:Int) k<0 then(some (s:Int),z)else Hm.go l h0 i (5-(s+1)) ((s:Int)+1) (if Hm.late l (Hm.hold l h0 i (s:Int) k).toNat z=true then(Hm.hold l h0 i (s:Int) k).toNat else z)):=by show _=_;rw[show 5-s=(5-(s+1))+1 by omega];(conv=>lhs;unfold Hm.go);rw[HL.out]
         have I6:=@Hm.kD l h0 i (s:Int) k
         generalize Hm.hold l h0 i (s:Int) k=u at hcs HST I6
         by_cases hu:u<0
         · have Nv:Hid (Hm.run l (m+1)=h0.set i (s:Int)):=by{show _=_;rw[Mc.out];refine Ns.out (s:Int) z ?_;rw[←Nt.out,HST.out,ay hu]};have h1:=I5.out w4 h0 i (s:Int) AX Nu.out.1 Nu.out.2;have HF:=ae h1;have hs0:(0:Int)<=(s:Int):=by{omega};clear AX hsz hhz zQ Nt HST I6 hcz h1;go_wp2;go_roundg (k-(m+1));(case measure=>omega);case rel=>exact⟨m+1,rfl,Ma,by simp,by rw[Nv.out];exact HF.out.1,HF.out.2.1,HF.out.2.2⟩
         obtain⟨j,rfl⟩:=Int.eq_ofNat_of_zero_le (show 0<=u by omega)
         rw[az]at HST
         have hjk:j<k:=by have:=(I6 hu).1;rwa [az]at this
         have I7:(j:Int)<(k:Int):=by omega
         obtain⟨a0,-,a2,-⟩:=hsz.cell hjk
         obtain⟨b0,-,b2,-⟩:=hsz.cell I1
         have Eb:Hid (Hm.late l j z=(decide ((l.getD z .z).t<(l.getD j .z).t)||(decide ((l.getD j .z).t=(l.getD z .z).t)&&decide ((l.getD z .z).b<(l.getD j .z).b)))):=rfl
         have HG2:Hid (∀q:Bool,Hm.late l j z=q->Hm.go l h0 i (5-(s+1)) ((s+1:Nat):Int) (if q=true then j else z)=Hm.go l h0 i 5 0 i):=fun q hq=>by rw[←Nt.out,HST.out,ax hu,hq];rfl
         generalize(l.getD j .z).t=jt at a2 Eb
         generalize(l.getD z .z).t=zt at b2 Eb
         generalize(l.getD j .z).b=jb at a0 Eb
         generalize(l.getD z .z).b=zb at b0 Eb
         clear AX hsz hhz zQ HST I6 hcz hci hfz Ns HNN
         by_cases h1:zt<jt
         · have hd1:decide (zt<jt)=true:=decide_eq_true h1;have HQ:=ae (HG2.out true (by rw[Eb.out,hd1];rfl));clear HG2 Eb h1;go_wp2_with fail;go_quiet (fail);have Me:=ae (J7.out.trans ((bf w4 nq).mono J7.out.size));go_wp2;go_roundg (5-(s+1));(case measure=>omega);case rel=>exact⟨s+1,j,rfl,hs,rfl,by simp,hjk,HQ,Me.out⟩
         have hd1:decide (zt<jt)=false:=decide_eq_false h1
         by_cases h2:jt=zt
         rotate_left
         · have hq2:(jt==zt)=false:=by{simpa using h2};have HQ:=ae (HG2.out false (by rw[Eb.out,hd1,decide_eq_false h2];rfl));clear HG2 Eb h1 h2;go_wp2_with fail;go_quiet (fail);have Me:=ae (J7.out.trans ((bf w4 nq).mono J7.out.size));go_wp2;go_roundg (5-(s+1));(case measure=>omega);case rel=>exact⟨s+1,z,rfl,hs,rfl,by simp,I1,HQ,Me.out⟩
         have hq2:(jt==zt)=true:=by simpa using h2
         by_cases h3:zb<jb
         · have hd3:decide (zb<jb)=true:=decide_eq_true h3;have HQ:=ae (HG2.out true (by rw[Eb.out,hd1,decide_eq_true h2,hd3];rfl));clear HG2 Eb h1 h2 h3;go_wp2_with fail;go_quiet (fail);have Me:=ae (J7.out.trans ((bf w4 nq).mono J7.out.size));go_wp2;go_roundg (5-(s+1));(case measure=>omega);case rel=>exact⟨s+1,j,rfl,hs,rfl,by simp,hjk,HQ,Me.out⟩
         · have hd3:decide (zb<jb)=false:=decide_eq_false h3;have HQ:=ae (HG2.out false (by rw[Eb.out,hd1,decide_eq_true h2,hd3];rfl));clear HG2 Eb h1 h2 h3;go_wp2_with fail;go_quiet (fail);have Me:=ae (J7.out.trans ((bf w4 nq).mono J7.out.size));go_wp2;go_roundg (5-(s+1));(case measure=>omega);case rel=>exact⟨s+1,z,rfl,hs,rfl,by simp,I1,HQ,Me.out⟩
      have AV:(k:Int)<(n:Int):=by omega
      have hc:=hox.cell hkn
      have hv:=Pn.out k hkn
      have I4:=ae (ak hho hBx)
      have lM:=fun(v:Nat) (h1:h0.getD k 0=(v:Int)) (h2:v<5) h3=>Dn (l:=l) (i:=i) h1 h2 h3
      have zq:=@Ep l h0 i k
      obtain⟨v,hvv⟩:∃v,h0.getD k 0=v:=⟨_,rfl⟩
      rw[hvv]at hc hv lM zq
      by_cases hv0:v<0
      · have hd:decide (0<=v)=false:=decide_eq_false (by omega);have HN:=ae (zq (.inl hv0));clear hv lM zq hvv hho hBx hox hsx;go_wp2_with fail;go_quiet (fail);have HQ:=ae (ak (I4.out.1.kept (bf w3 nq)) (I4.out.2.trans ((bf w3 nq).mono I4.out.2.size)));go_wp2;go_roundg (n-(k+1));(case measure=>omega);case rel=>exact⟨k+1,rfl,hkn,by simp,by rw[HN.out];exact HQ.out.1,HQ.out.2⟩
      have hd:decide (0<=v)=true:=decide_eq_true (by omega)
      obtain⟨vn,rfl⟩:=Int.eq_ofNat_of_zero_le (show 0<=v by omega)
      have hv5:vn<5:=by omega
      have adZ:(vn:Int)<5:=by omega
      have UX:=ae (lM vn rfl hv5)
      have xI:=ae (zq)
      obtain⟨a0,a1,a2,a3⟩:=hsx.cell hkn
      obtain⟨b0,b1,b2,b3⟩:=hsx.cell hil
      have pE:=fun W=>ve (l.getD k .z) (l.getD i .z) W
      generalize Sp.bH (l.getD k .z) (l.getD i .z)=M at pE UX xI
      generalize l.getD k .z=sk at a0 a1 a2 a3 pE
      generalize l.getD i .z=si at b0 b1 b2 b3 pE
      have c0:∀p:bV w3,p.to.cell? ⟨gh,k,none⟩=some (.int .i64 (vn:Int)):=fun p=>(p.h.cell (p:=⟨gh,k,none⟩) hgx.2).trans hc
      have p0:∀p:bV w3,p.to.cell? ⟨gs,k*4,none⟩=some (.int .i64 sk.b):=fun p=>(p.h.cell (p:=⟨gs,k*4,none⟩) hsl.2).trans a0
      have p1:∀p:bV w3,p.to.cell? ⟨gs,k*4+1,none⟩=some (.int .i64 sk.f):=fun p=>(p.h.cell (p:=⟨gs,k*4+1,none⟩) hsl.2).trans a1
      have p2:∀p:bV w3,p.to.cell? ⟨gs,k*4+2,none⟩=some (.int .i64 sk.t):=fun p=>(p.h.cell (p:=⟨gs,k*4+2,none⟩) hsl.2).trans a2
      have p3:∀p:bV w3,p.to.cell? ⟨gs,k*4+3,none⟩=some (.bool sk.c):=fun p=>(p.h.cell (p:=⟨gs,k*4+3,none⟩) hsl.2).trans a3
      have q0:∀p:bV w3,p.to.cell? ⟨gs,i*4,none⟩=some (.int .i64 si.b):=fun p=>(p.h.cell (p:=⟨gs,i*4,none⟩) hsl.2).trans b0
      have q1:∀p:bV w3,p.to.cell? ⟨gs,i*4+1,none⟩=some (.int .i64 si.f):=fun p=>(p.h.cell (p:=⟨gs,i*4+1,none⟩) hsl.2).trans b1
      have q2:∀p:bV w3,p.to.cell? ⟨gs,i*4+2,none⟩=some (.int .i64 si.t):=fun p=>(p.h.cell (p:=⟨gs,i*4+2,none⟩) hsl.2).trans b2
      have q3:∀p:bV w3,p.to.cell? ⟨gs,i*4+3,none⟩=some (.bool si.c):=fun p=>(p.h.cell (p:=⟨gs,i*4+3,none⟩) hsl.2).trans b3
      have hne:=bV.any w3
      clear hv lM zq hvv hho hBx hox hsx a0 a1 a2 a3 b0 b1 b2 b3 hc
      go_wp2_with fail
      refine aS (by kernel_rfl) (by kernel_rfl) ?_
      repeat(go_big_quiet_step (first|(go_at_call 36;refine eT (pE _))))
      refine wpQuiet_nil ?_
      rintro _ ⟨pw,rfl⟩
      obtain⟨w4,hw4⟩:∃W,pw.to=W:=⟨_,rfl⟩
      have sU:=ae pw.h
      rw[hw4]at sU
      have hcw:=c0 pw
      rw[hw4]at hcw ⊢
      clear c0 p0 p1 p2 p3 q0 q1 q2 q3 pE hne hw4
      have hw3:w2.heap.size<w4.heap.size:=aj hhx.2 sU.out.size
      have hgw:=aj hgx.2 sU.out.size
      have Nw:=ae (ak (I4.out.1.kept sU.out) (I4.out.2.trans (sU.out.mono I4.out.2.size)))
      clear I4
      cases M
      · have HN:=ae (xI.out (.inr rfl));clear UX xI;go_wp2;go_roundg (n-(k+1));(case measure=>omega);case rel=>exact⟨k+1,rfl,hkn,by simp,by rw[HN.out];exact Nw.out.1,Nw.out.2⟩
      · have HN:=ae (UX.out rfl);have hhc:=Nw.out.1.cell hv5;have hfz:=Nw.out.1.frozen;have HG4:=ae (ak (Nw.out.1.set vn (k:Int)) (aB Nw.out.2 (aF w4 ⟨w2.heap.size,vn,none⟩ (.int .i64 (k:Int))) (Nat.le_refl _)));clear UX xI;go_wp2;go_roundg (n-(k+1));(case measure=>omega);case rel=>exact⟨k+1,rfl,hkn,by simp,by rw[HN.out];exact HG4.out.1,HG4.out.2⟩
section
open Go.RowKit
set_option linter.unusedSimpArgs false
namespace Hm
open Sp
theorem qi {o:List Int}{j:Nat}(h:j<o.length):o.getD j 0=o[j]:=by rw[ah,ai h];rfl
def dG (h:List Int):Nat->Nat
 |0=>0
 |i+1=>if h.getD i 0=-2 then dG h i+1 else dG h i
def val (h:List Int)(i:Nat):Int:=if h.getD i 0=-2 then 100+(dG h i:Int)else h.getD i 0
def eu (l:List S)(h:List Int):Nat->List Int
 |0=>List.replicate 40 (-1)
 |i+1=>(eu l h i).set (l.getD i .z).b.toNat (val h i)
def homes (ls:List Ln):List Int:=if Ln.isOk ls=true then eu (df ls) (run (df ls) (df ls).length) (df ls).length else[]
def hm (x:Int):Bool:=decide (x=-1)||(decide (0<=x/\x<=4)||decide (100<=x/\x<=163))
def lV (l:List S)(hs:List Int)(n:Nat):Bool:=
 (List.range n).all fun i=>(decide (0<=hs.getD (l.getD i .z).b.toNat 0)&& !(decide (hs.getD (l.getD i .z).b.toNat 0<100)&&(l.getD i .z).c))&&
   (List.range i).all fun k=> !(decide (hs.getD (l.getD k .z).b.toNat 0=hs.getD (l.getD i .z).b.toNat 0)&&bH (l.getD i .z) (l.getD k .z))
def fT (ls:List Ln)(hs:List Int):Bool:=(Ln.isOk ls&&decide (hs.length=40))&&((List.range 40).all (fun i=>hm (hs.getD i 0))&&lV (df ls) hs (df ls).length)
def size (hs:List Int):Nat:=hs.countP fun x=>decide (100<=x)
theorem vW (h:List Int):∀i,dG h i<=i
 |0=>Nat.le_refl _
 | i+1=>by
   have:=vW h i
   unfold dG
   split<;>omega
structure Bx (l:List S):Prop where
 len:l.length<=40
 lo:∀k,k<l.length->0<=(l.getD k .z).b/\(l.getD k .z).b<40
 one:∀j k,j<k->k<l.length->(l.getD j .z).b<(l.getD k .z).b
theorem at_mem {l:List S}{k:Nat}(h:k<l.length):l.getD k .z∈l:=by rw[ah,ai h];exact List.getElem_mem h
theorem kJ (ls:List Ln):Bx (out ls 40):=by refine⟨vJ ls 40,fun k hk=>?_,fun j k hj hk=>?_⟩;{obtain⟨b,f,t,hI⟩:=Cb (at_mem hk);have:=hI.bx;have:=hI.b40;omega};have h:=List.pairwise_iff_getElem.1 (yE ls 40) j k (by omega) hk hj;rw[ah,ah,ai hk,ai (show j<(out ls 40).length by omega)];exact h
section
variable {l : List S} {h : List Int}
theorem gm (l:List S)(h:List Int):∀i,(eu l h i).length=40
 |0=>by simp[eu]
 |i+1=>by unfold eu;rw[List.length_set,gm]
theorem jK (hB:Bx l):∀(i:Nat),i<=l.length->∀b:Nat,b<40->(∀k,k<i->(l.getD k .z).b≠(b:Int))->(eu l h i).getD b 0=-1
 | 0,_,b,hb,_=>by
   show(List.replicate 40 (-1:Int)).getD b 0=-1
   rw[ah,List.getElem?_replicate,ay hb]
   rfl
 | i+1,hi,b,hb,hne=>by
   have h1:=hne i (by omega)
   have h2:=hB.lo i (by omega)
   show((eu l h i).set (l.getD i .z).b.toNat (val h i)).getD b 0=-1
   rw[bQ _ _ _ _ (by rw[gm];omega),ax (by omega)]
   exact jK hB i (by omega) b hb fun k hk=>hne k (by omega)
theorem nu (hB:Bx l):∀(i:Nat),i<=l.length->∀k,k<i->(eu l h i).getD (l.getD k .z).b.toNat 0=val h k
 |0,_,k,hk=>absurd hk (by omega)
 | i +1,hi,k,hk=>by
   have h2:=hB.lo i (by omega)
   have h3:=hB.lo k (by omega)
   show((eu l h i).set (l.getD i .z).b.toNat (val h i)).getD (l.getD k .z).b.toNat 0=val h k
   rw[bQ _ _ _ _ (by rw[gm];omega)]
   by_cases e:k=i
   · rw[e,ay rfl]
   · have h4:=hB.one k i (by omega) (by omega)
     rw[ax (by omega)]
     exact nu hB i (by omega) k (by omega)
theorem uD (h:List Int){i:Nat}:∀{j:Nat},i<=j->dG h i<=dG h j
 |0,hij=>by rw[show i=0 by omega];exact Nat.le_refl _
 | j +1,hij=>by
   by_cases e:i=j+1
   · rw[e];exact Nat.le_refl _
   · have:=uD h (i:=i) (j:=j) (by omega)
     show dG h i<=(if h.getD j 0=-2 then dG h j+1 else dG h j)
     split<;>omega
theorem Io (h:List Int){i j:Nat}(hij:i<j)(e:h.getD i 0=-2):dG h i<dG h j:=by have h1:=uD h (i:=i+1) (j:=j) hij;have h2:dG h (i+1)=dG h i+1:=by{show(if h.getD i 0=-2 then dG h i+1 else dG h i)=_;rw[ay e]};omega
theorem oF (hB:Bx l)(hI:Inv l l.length h){k:Nat}(hk:k<l.length):(h.getD k 0=-2/\val h k=100+(dG h k:Int)/\val h k<=139)\/(0<=val h k/\val h k<=4/\val h k=h.getD k 0/\(l.getD k .z).c=false):=by have h1:=hI.val k (FQ hk);have h2:=vW h k;have h3:=hB.len;by_cases e:h.getD k 0=-2;{refine .inl ⟨e,?_,?_⟩;{unfold val;rw[ay e]};unfold val;rw[ay e];omega};rcases h1 with h1|⟨h4,h5,h6⟩;{exact absurd h1 e};refine .inr ?_;have e2:val h k=h.getD k 0:=by{unfold val;rw[ax e]};rw[e2];exact⟨h4,h5,rfl,h6⟩
theorem Du (hB:Bx l)(hI:Inv l l.length h):lV l (eu l h l.length) l.length=true:=by have hat:=fun k hk=>nu (h:=h) hB l.length (Nat.le_refl _) k hk;unfold lV;rw[List.all_eq_true];intro i hi;have hi:=List.mem_range.1 hi;rw[hat i hi,au];refine⟨?_,?_⟩;{rcases oF hB hI hi with⟨e,h1,h2⟩|⟨h1,h2,h3,h4⟩;{simp only[au,decide_eq_true_eq,Bool.not_eq_true'];exact⟨by omega,by rw[decide_eq_false (by omega)];rfl⟩};simp only[au,decide_eq_true_eq,Bool.not_eq_true'];exact⟨h1,by rw[h4,Bool.and_false]⟩};rw[List.all_eq_true];intro k hk;have hk:=List.mem_range.1 hk;rw[hat k (by omega)];rcases hm:bH (l.getD i .z) (l.getD k .z)with _|_;{rw[Bool.and_false];rfl};rw[decide_eq_false];{rfl};intro e;rcases oF hB hI hi with⟨e1,h1,h2⟩|⟨h1,h2,h3,h4⟩;{rcases oF hB hI (show k<l.length by omega)with⟨e5,h5,h6⟩|⟨h5,h6,h7,h8⟩;{have:=Io h hk e5;omega};omega};rcases oF hB hI (show k<l.length by omega)with⟨e5,h5,h6⟩|⟨h5,h6,h7,h8⟩;{omega};have:=hI.apart i k hi (by omega) (by omega) (by omega) (by omega);rw[hm]at this;cases this
theorem Ao (hB:Bx l)(hI:Inv l l.length h):(List.range 40).all (fun i=>hm ((eu l h l.length).getD i 0))=true:=by rw[List.all_eq_true];intro b hb;have hb:=List.mem_range.1 hb;by_cases hx:∃k,k<l.length/\(l.getD k .z).b=(b:Int);{obtain⟨k,hk,e⟩:=hx;have h1:=nu (h:=h) hB l.length (Nat.le_refl _) k hk;rw[e,az]at h1;rw[h1];unfold hm;rcases oF hB hI hk with⟨e1,h1,h2⟩|⟨h1,h2,h3,h4⟩;{rw[decide_eq_true (show 100<=val h k/\val h k<=163 by omega)];simp};rw[decide_eq_true (show 0<=val h k/\val h k<=4 by omega)];simp};rw[jK hB l.length (Nat.le_refl _) b hb fun k hk e=>hx ⟨k,hk,e⟩];rfl
theorem yT (hB:Bx l)(hI:Inv l l.length h):∀i,i<=l.length->size (eu l h i)=dG h i
 | 0,_=>by
   show(List.replicate 40 (-1:Int)).countP _=0
   rw[List.countP_eq_zero]
   intro x hx
   rw[List.eq_of_mem_replicate hx]
   decide
 | i +1,hi=>by
   have ih:=yT hB hI i (by omega)
   have h2:=hB.lo i (by omega)
   have hlt:(l.getD i .z).b.toNat<(eu l h i).length:=by rw[gm];omega
   have hold:=jK (h:=h) hB i (by omega) (l.getD i .z).b.toNat (by omega) fun k hk e=>by
     have:=hB.one k i hk (by omega)
     omega
   have Po:(eu l h i)[(l.getD i .z).b.toNat]=-1:=by
     rw[qi hlt]at hold
     exact hold
   show((eu l h i).set (l.getD i .z).b.toNat (val h i)).countP (fun x=>decide (100<=x))=_
   rw[List.countP_set hlt,Po]
   unfold size at ih
   rw[ih]
   rcases oF hB hI (show i<l.length by omega)with⟨e1,h1,-⟩|⟨h1,h2,h3,h4⟩
   · rw[ax (by decide),ay (by rw[decide_eq_true_eq];omega)]
     show _=(if h.getD i 0=-2 then dG h i+1 else dG h i)
     rw[ay e1]
     omega
   · rw[ax (by decide),ax (by rw[decide_eq_true_eq];omega)]
     show _=(if h.getD i 0=-2 then dG h i+1 else dG h i)
     rw[ax (by omega)]
     omega
theorem uH (hB:Bx l)(hI:Inv l l.length h){p:Nat}:∀i,i<=l.length->p<dG h i->∃k,k<i/\h.getD k 0=-2/\dG h k=p
 |0,_,hp=>absurd hp (by simp[dG])
 | i + 1,hi,hp=>by
   by_cases hp2:p<dG h i
   · obtain⟨k,h1,h2⟩:=uH hB hI i (by omega) hp2
     exact⟨k,by omega,h2⟩
   · change p<(if h.getD i 0=-2 then dG h i+1 else dG h i)at hp
     split at hp
     · rename_i e
       exact⟨i,by omega,e,by omega⟩
     · omega
theorem Cw (hB:Bx l)(hI:Inv l l.length h){p:Nat}(hp:p<size (eu l h l.length)):(100+(p:Int))∈eu l h l.length:=by rw[yT hB hI _ (Nat.le_refl _)]at hp;obtain⟨k,h1,h2,h3⟩:=uH hB hI l.length (Nat.le_refl _) hp;have h4:=nu (h:=h) hB l.length (Nat.le_refl _) k h1;have h5:=hB.lo k h1;have hlt:(l.getD k .z).b.toNat<(eu l h l.length).length:=by{rw[gm];omega};rw[qi hlt]at h4;have e:val h k=100+(p:Int):=by{unfold val;rw[ay h2,h3]};rw[←e,←h4];exact List.getElem_mem hlt
end
theorem yO {ls:List Ln}(hok:Ln.isOk ls=true):fT ls (homes ls)=true/\(homes ls).length=40:=by have e:df ls=out ls 40:=by{unfold df;rw[ay hok]};have hB:=kJ ls;have hI:=Inv.run (out ls 40) _ (Nat.le_refl _);unfold fT homes;rw[ay hok,e,hok,gm,Du hB hI,Ao hB hI];exact⟨rfl,rfl⟩
theorem yQ {ls:List Ln}(hok:Ln.isOk ls=true){p:Nat}(hp:p<size (homes ls)):(100+(p:Int))∈homes ls:=by have e:df ls=out ls 40:=by{unfold df;rw[ay hok]};unfold homes at hp ⊢;rw[ay hok,e]at hp ⊢;exact Cw (kJ ls) (Inv.run (out ls 40) _ (Nat.le_refl _)) hp
theorem uk (ls:List Ln):(homes ls).length<=1000:=by unfold homes;split;{rw[gm];omega};simp
end Hm
end
theorem LL.at {w:World}{a:Option Addr}{len:Nat}{ls:List Ln}(h:LL w a len ls){p:Nat}(hp:p<len):∃b off,a=some ⟨b,off,none⟩/\b<w.heap.size/\LC w b (off+p*6) (ls.getD p .z):=by obtain⟨-,-,h0|⟨b,off,rfl,hb,hx⟩⟩:=h;{omega};exact⟨b,off,rfl,hb,hx p hp⟩
theorem tK (a:Option Addr)(len cap:Nat)(ls:List Ln)(p:Nat)(hp:p<len)(hlen:len<=1000)(w:World)(hs:LL w a len ls):Calls Tryz.prog 86 #[.slice a len cap, .int .i64 (p:Int)] w fun e w'=>∃g m c,e= .returned (.slice (some ⟨g,0,none⟩) m c)/\OG w' w.heap.size g m c (Fl.nx (ls.getD p .z) p)/\Below w.heap.size w w':=by obtain⟨b,off,rfl,hb,hc⟩:=hs.at hp;clear hs;have I8:(p:Int)<(len:Int):=by{omega};have AY:(len:Int)<=1000:=by{omega};obtain⟨x,hx⟩:∃x,ls.getD p .z=x:=⟨_,rfl⟩;rw[hx]at hc ⊢;clear hx;obtain⟨k,d,a',b',n,l⟩:=x;obtain⟨c0,c1,c2,c3,c4,-⟩:=hc;simp only at c0 c1 c2 c3 c4;clear c1 c2 c3;by_cases h5:k=5;{subst h5;have e:Fl.nx ⟨5,d,a',b',n,l⟩ p=[n]:=rfl;rw[e];have ho:=OG.one w w.heap.size (Nat.le_refl _) n;have hB:=aA w (.cells #[.int .i64 n] 2);clear e;go_enter Tryz.func86,Tryz.ntmps86;go_wp2;go_ret;exact⟨_,1,1,rfl,ho,hB⟩};by_cases h6:k=6;{subst h6;have e:Fl.nx ⟨6,d,a',b',n,l⟩ p=Ln.put [(p:Int)+1] n:=rfl;rw[e];have ho:=OG.one w w.heap.size (Nat.le_refl _) ((p:Int)+1);have hB:=aA w (.cells #[.int .i64 ((p:Int)+1)] 2);have hcon:=mE w.heap.size w.heap.size 1 1 [(p:Int)+1] n (by omega) (w.alloc (.cells #[.int .i64 ((p:Int)+1)] 2)) hB.size ho;have HB:=ae hB;clear e ho hB h5;go_enter Tryz.func86,Tryz.ntmps86;go_wp2_with(go_at_call 105;refine hcon.mono ?_;rintro e w2 ⟨g,m,c,rfl,ho2,hB2⟩;dsimp only;have HF:=ae (ak ho2 (HB.out.trans (hB2.mono HB.out.size)));clear ho2 hB2 hcon);go_ret;exact⟨g,m,c,rfl,HF.out.1,HF.out.2⟩};have k5:(k==5)=false:=by{simp;omega};have k6:(k==6)=false:=by{simp;omega};by_cases h10:k=10\/k=11;{have e:Fl.nx ⟨k,d,a',b',n,l⟩ p=[]:=by{unfold Fl.nx;rw[ax h5,ax h6,ay h10]};rw[e];have ho:=OG.empty w w.heap.size (Nat.le_refl _);have hB:=aA w (.cells #[] 2);clear e k5 k6 h5 h6;rcases h10 with rfl|rfl;all_goals go_enter Tryz.func86,Tryz.ntmps86;go_wp2;go_ret;exact⟨_,0,0,rfl,ho,hB⟩};have e:Fl.nx ⟨k,d,a',b',n,l⟩ p=[(p:Int)+1]:=by{unfold Fl.nx;rw[ax h5,ax h6,ax h10]};rw[e];have k10:(k==10)=false:=by{simp;omega};have k11:(k==11)=false:=by{simp;omega};have ho:=OG.one w w.heap.size (Nat.le_refl _) ((p:Int)+1);have hB:=aA w (.cells #[.int .i64 ((p:Int)+1)] 2);clear e h5 h6 h10;go_enter Tryz.func86,Tryz.ntmps86;go_wp2;go_ret;exact⟨_,1,1,rfl,ho,hB⟩
def nz (f:List Nat):List Int:=f.map fun x:Nat=>(x:Int)
theorem qU (f:List Nat):(nz f).length=f.length:=by simp[nz]
theorem BF (f:List Nat)(i:Nat):(nz f).getD i 0=((f.getD i 0:Nat):Int):=by unfold nz;rw[ah,ah,List.getElem?_map];rcases f[i]? with _|x<;>rfl
theorem Fb (f:List Nat)(i x:Nat):nz (f.set i x)=(nz f).set i (x:Int):=by unfold nz;rw[List.map_set]
theorem w40 (n:Int)(h0:0<=n)(h1:n<2 ^ 40):IntKind.i64.wrap n=n:=by rw[IntKind.wrap_i64];omega
theorem IP {n m:Nat}(hn:n<2 ^ 40)(hm:m<2 ^ 40):bits .or .i64 n m=((n|||m:Nat):Int):=(bits_nat .i64 40 (by decide) w40 n m hn hm).2
theorem o9 (a:Option Addr)(len cap:Nat)(ls:List Ln)(hok:Ln.isOk ls=true)(p:Nat)(hp:p<len)(f:List Nat)(hf:∀i,f.getD i 0<2 ^ 40)(n₀ g c:Nat)(w:World)(hs:LL w a len ls)(ho:OG w n₀ g len c (nz f)):Calls Tryz.prog 62 #[.slice a len cap, .slice (some ⟨g,0,none⟩) len c, .int .i64 (p:Int)] w fun e w'=>e= .returned (.int .i64 ((Fl.ou ls f p:Nat):Int))/\Below w.heap.size w w':=by have hl:=hs.1;have hlen:=Ln.fD hok;have hcon:=tK a len cap ls p hp (by omega) w hs;have HN:=ae (Fl.Jz hok (p:=p) (by omega));rw[hl]at HN hlen;have DK:=ho.lt;have hcap:=ho.cap;have HO:=ae ho;have HF:=ae hf;have HR:Hid (Fl.ou ls f p=Fl.js f (Fl.nx (ls.getD p .z) p)):=rfl;obtain⟨R,hR⟩:∃R,Fl.ou ls f p=R:=⟨_,rfl⟩;rw[hR]at HR ⊢;generalize Fl.nx (ls.getD p .z) p=N at hcon HN HR;have AY:(len:Int)<=300:=by{omega};have I8:(p:Int)<(len:Int):=by{omega};clear hs ho hf hl hR hlen;go_enter Tryz.func62,Tryz.ntmps62;go_wp2_with fail;refine hcon.mono ?_;rintro e w2 ⟨gn,mn,cn,rfl,hon,hB2⟩;dsimp only;have hgn:=hon.lt;have hcn:=hon.cap;have AZ:=ae hon.1;have HC:Hid (∀j,j<mn->w2.cell? ⟨gn,j,none⟩=some (.int .i64 (N.getD j 0))):=fun j hj=>hon.cell hj;have HI:Hid (∀j,j<len->w2.cell? ⟨g,j,none⟩=some (.int .i64 ((f.getD j 0:Nat):Int))):=fun j hj=>by{rw[←BF];exact(HO.out.kept hB2).cell hj};clear hcon hon;have hmx:mn<=9223372036854775807:=by{unfold maxLen at hcn;omega};go_wp2;go_loopw [7,9] (fun vx vi wr=>∃(k:Nat)(q:Nat),vx= .int .i64 (q:Int)/\vi= .int .i64 (k:Int)/\k<=mn/\Hid (q=Fl.js f (N.take k))/\w2=wr) (fun _ i _=>mn-(intOf i).toNat);(case atStart=>exact⟨0,0,rfl,rfl,Nat.zero_le _,(by show _=_;simp[Fl.js]),rfl⟩);case round=>obtain⟨k,q,rfl,rfl,hk,HQ,aZ⟩:=hrel;subst aZ;by_cases hlt:k<mn;{have bE:(k:Int)<(mn:Int):=by{omega};have hc:=HC.out k hlt;have hkl:k<N.length:=by{rw[AZ.out];exact hlt};have hj:=HN.out (N.getD k 0) (by rw[ah,ai hkl];exact List.getElem_mem hkl);have HS:=ae (Fl.BQ (f:=f) hkl);rw[←HQ.out]at HS;have I9:Hid (q<2 ^ 40):=by{show _<_;rw[HQ.out];exact Fl.qJ HF.out _};obtain⟨y,hy⟩:∃y,N.getD k 0=y:=⟨_,rfl⟩;rw[hy]at hc hj HS;clear hy hkl;obtain⟨j,rfl⟩:=Int.eq_ofNat_of_zero_le hj.1;rw[az]at HS;have hjl:j<len:=by{omega};have I7:(j:Int)<(len:Int):=hj.2;have hi:=HI.out j hjl;have HZ:=ae (HF.out j);obtain⟨z,hz⟩:∃z,f.getD j 0=z:=⟨_,rfl⟩;rw[hz]at hi HS HZ;have hor:bits .or .i64 (q:Int) (z:Int)=((q|||z:Nat):Int):=IP I9.out HZ.out;clear hz hj;go_wp2;go_roundw;(case rel=>exact⟨k+1,q|||z,rfl,by simp,hlt,(by show _=_;rw[HS.out]),by simp⟩);case measure=>simp[intOf];omega};have hke:k=mn:=by{omega};have HE:Hid (q=R):=by{show _=_;rw[HQ.out,HR.out,hke,←AZ.out,List.take_length]};clear HQ;have bE:¬(k:Int)<(mn:Int):=by{omega};clear hke;go_wp2;go_ret;exact⟨by rw[←HE.out]<;>rfl,hB2⟩
namespace Ln
theorem rH (l:List Int):∀k,(dV (l.take k)).length<=k
 |0=>by simp[dV]
 | k +1=>by
   have ih:=rH l k
   rw[List.take_add_one]
   rcases h:l[k]? with _|y
   · simp only[Option.toList_none,List.append_nil]
     omega
   · simp only[Option.toList_some,nX]
     have:=Ha (dV (l.take k)) y
     omega
theorem nW {l:List Int}{k:Nat}(hk:k<l.length):dV (l.take (k+1))=put (dV (l.take k)) (l.getD k 0):=by rw[List.take_add_one,ai hk,ah,ai hk];simp only[Option.toList_some,Option.getD_some];exact nX _ _
end Ln
theorem o8 (x:Ln)(la:Option Addr)(ln lc:Nat)(w:World):Calls Tryz.prog 63 #[.agg #[.int .i64 x.k, .int .i64 x.d, .int .i64 x.a, .int .i64 x.b, .int .i64 x.n, .slice la ln lc]] w fun e w'=>e= .returned (.int .i64 (Ln.st x))/\Below w.heap.size w w':=by obtain⟨k,d,a,b,n,l⟩:=x;simp only;have hB:=aA w (.cells #[.int .i64 k, .int .i64 d, .int .i64 a, .int .i64 b, .int .i64 n, .slice la ln lc] 59);by_cases hq:k=1\/k=2\/k=3\/k=4\/k=7\/k=8;{have e:Ln.st ⟨k,d,a,b,n,l⟩=d:=by{unfold Ln.st;rw[ay hq]};rw[e];clear e;rcases hq with rfl|rfl|rfl|rfl|rfl|rfl;all_goals go_enter Tryz.func63,Tryz.ntmps63;go_wp2;go_ret;exact⟨rfl,hB⟩};have e:Ln.st ⟨k,d,a,b,n,l⟩=-1:=by{unfold Ln.st;rw[ax hq]};rw[e];clear e;have k1:(k==1)=false:=by{simp;omega};have k2:(k==2)=false:=by{simp;omega};have k3:(k==3)=false:=by{simp;omega};have k4:(k==4)=false:=by{simp;omega};have k7:(k==7)=false:=by{simp;omega};have k8:(k==8)=false:=by{simp;omega};clear hq;go_enter Tryz.func63,Tryz.ntmps63;go_wp2;go_ret;exact⟨rfl,hB⟩
theorem yj (x:Ln)(la:Option Addr)(ln lc:Nat)(w:World)(hs:IL w la ln x.l)(h3:ln<=3):Calls Tryz.prog 85 #[.agg #[.int .i64 x.k, .int .i64 x.d, .int .i64 x.a, .int .i64 x.b, .int .i64 x.n, .slice la ln lc]] w fun e w'=>∃g m c,e= .returned (.slice (some ⟨g,0,none⟩) m c)/\OG w' w.heap.size g m c (Ln.us x)/\Below w.heap.size w w':=by obtain⟨k,d,a,b,n,l⟩:=x;simp only at hs ⊢;have hB:=aA w (.cells #[.int .i64 k, .int .i64 d, .int .i64 a, .int .i64 b, .int .i64 n, .slice la ln lc] 59);by_cases hq:k=2\/k=4\/k=6\/k=8\/k=10;{have e:Ln.us ⟨k,d,a,b,n,l⟩=[a]:=by{unfold Ln.us;rw[ay hq]};rw[e];have ho:=OG.one _ w.heap.size hB.size a;have hBx:=hB.trans ((aA _ (.cells #[.int .i64 a] 2)).mono hB.size);simp only[World.size_alloc]at ho;clear e hs;rcases hq with rfl|rfl|rfl|rfl|rfl;all_goals go_enter Tryz.func85,Tryz.ntmps85;go_wp2;go_ret;exact⟨_,1,1,rfl,ho,hBx⟩};by_cases hq2:k=3\/k=9;{have e:Ln.us ⟨k,d,a,b,n,l⟩=Ln.put [a] b:=by{unfold Ln.us;rw[ax hq,ay hq2]};rw[e];clear e hs hq;have ho:=OG.one _ w.heap.size hB.size a;have hBx:=hB.trans ((aA _ (.cells #[.int .i64 a] 2)).mono hB.size);simp only[World.size_alloc]at ho;have hcon:=mE w.heap.size _ 1 1 [a] b (by omega) _ hBx.size ho;clear hB ho;rcases hq2 with rfl|rfl;all_goals go_enter Tryz.func85,Tryz.ntmps85;go_wp2_with fail;refine hcon.mono ?_;rintro e w2 ⟨g,m,c,rfl,ho2,hB2⟩;dsimp only;have HF:=ae (ak ho2 (hBx.trans (hB2.mono hBx.size)));clear ho2 hBx hB2 hcon;go_wp2;go_ret;exact⟨g,m,c,rfl,HF.out.1,HF.out.2⟩};have e:Ln.us ⟨k,d,a,b,n,l⟩=Ln.dV l:=by{unfold Ln.us;rw[ax hq,ax hq2]};rw[e];have k2:(k==2)=false:=by{simp;omega};have k4:(k==4)=false:=by{simp;omega};have k6:(k==6)=false:=by{simp;omega};have k8:(k==8)=false:=by{simp;omega};have k10:(k==10)=false:=by{simp;omega};have k3:(k==3)=false:=by{simp;omega};have k9:(k==9)=false:=by{simp;omega};clear e hq hq2;have hA1:gY (w.alloc (.cells #[.int .i64 k, .int .i64 d, .int .i64 a, .int .i64 b, .int .i64 n, .slice la ln lc] 59)) w.heap.size 59 [.int .i64 k, .int .i64 d, .int .i64 a, .int .i64 b, .int .i64 n, .slice la ln lc]:=heap_alloc_last w _;have hs1:=hs.kept hB;obtain⟨W1,hW1⟩:∃X,w.alloc (.cells #[.int .i64 k, .int .i64 d, .int .i64 a, .int .i64 b, .int .i64 n, .slice la ln lc] 59)=X:=⟨_,rfl⟩;rw[hW1]at hA1 hs1 hB;have hE:=OG.empty W1 W1.heap.size (Nat.le_refl _);have hBe:=aA W1 (.cells #[] 2);have HL:=ae hs.1;have hwW:w.heap.size<=W1.heap.size:=hB.size;clear hs;go_enter Tryz.func85,Tryz.ntmps85;have c0:=hA1.cell (j:=0) rfl;go_wp2;go_loopw [3,4] (fun v i wr=>∃kk g m c:Nat,v= .slice (some ⟨g,0,none⟩) m c/\i= .int .i64 kk/\kk<=ln/\m<=kk/\OG wr W1.heap.size g m c (Ln.dV (l.take kk))/\Below W1.heap.size W1 wr) (fun _ i _=>ln-(intOf i).toNat);(case atStart=>exact⟨0,_,0,0,rfl,rfl,Nat.zero_le _,Nat.le_refl _,by simpa[Ln.dV]using hE,hBe⟩);case round=>obtain⟨kk,g,m,c,rfl,rfl,hk,hm,ho,hBr⟩:=hrel;have hAr:=hA1.kept hBr;have c5:=hAr.cell (j:=5) rfl;have lJ:=hs1.kept hBr;clear hE hBe c0 hA1 hs1;by_cases hlt:kk<ln;{have bE:(kk:Int)<(ln:Int):=by{omega};obtain⟨-,-,h0|⟨lb,lo,rfl,hlb,hx⟩⟩:=lJ;{omega};have hc:=hx kk hlt;have hcon:=mE W1.heap.size g m c (Ln.dV (l.take kk)) (l.getD kk 0) (by omega) wr hBr.size ho;have HP:=ae (Ln.nW (l:=l) (k:=kk) (by rw[HL.out];exact hlt));rw[←HP.out]at hcon;have Pp:=ae (Ln.rH l (kk+1));obtain⟨y,hy⟩:∃y,l.getD kk 0=y:=⟨_,rfl⟩;rw[hy]at hc hcon;clear hx hy ho HP;go_wp2_with fail;refine hcon.mono ?_;rintro e w2 ⟨g2,m2,c2,rfl,ho2,hB2⟩;dsimp only;have hm2:m2<=kk+1:=by{have:=Pp.out;rw[ho2.1]at this;exact this};have HF:=ae (ak ho2 (hBr.trans (hB2.mono hBr.size)));clear hcon ho2 hB2 Pp;go_wp2;go_roundw;(case rel=>exact⟨kk+1,g2,m2,c2,rfl,by simp,hlt,hm2,HF.out.1,HF.out.2⟩);case measure=>simp[intOf];omega};have hke:kk=ln:=by{omega};have HF:Hid (OG wr w.heap.size g m c (Ln.dV l)/\Below w.heap.size w wr):=⟨by have:=ho.mono hwW;rwa [hke,←HL.out,List.take_length]at this,hB.trans (hBr.mono hB.size)⟩;clear ho lJ;have bE:¬(kk:Int)<(ln:Int):=by{omega};clear hke;go_wp2;go_ret;exact⟨g,m,c,rfl,HF.out.1,HF.out.2⟩
theorem V7 {n m:Nat}(hn:n<2 ^ 40)(hm:m<2 ^ 40):bits .andNot .i64 n m=((Fl.an n m:Nat):Int):=by have hx:Fl.an n m<2 ^ 40:=Fl.uX hn;have e:(BitVec.ofInt 64 (n:Int)&&& ~~~BitVec.ofInt 64 (m:Int)).toNat=Fl.an n m:=by{rw[BitVec.toNat_and,BitVec.toNat_not,BitVec.ofInt_natCast,BitVec.ofInt_natCast,BitVec.toNat_ofNat,BitVec.toNat_ofNat,Nat.mod_eq_of_lt (by omega),Nat.mod_eq_of_lt (by omega)];refine Nat.eq_of_testBit_eq fun k=>?_;rw[Nat.testBit_and,Fl.nQ,Nat.sub_sub,Nat.add_comm,Nat.testBit_two_pow_sub_succ (by omega)];by_cases h:k<64;{simp[h]};rw[Nat.testBit_lt_two_pow (aj hn (Nat.pow_le_pow_right (by decide) (by omega)))];rfl};show IntKind.i64.wrap ((BitVec.ofInt 64 (n:Int)&&& ~~~BitVec.ofInt 64 (m:Int)).toNat:Int)=_;rw[e];exact w40 _ (by omega) (by omega)
theorem Ic {j:Nat}(hj:j<=39):wrap64 ((2:Int) ^ j)=((2 ^ j:Nat):Int)/\(2:Nat) ^ j<2 ^ 40:=by have h:(2:Nat) ^ j<2 ^ 40:=Nat.pow_lt_pow_right (by decide) (by omega);refine⟨?_,h⟩;have e:(2:Int) ^ j=((2 ^ j:Nat):Int):=by{simp};rw[e];generalize(2:Nat) ^ j=m at h ⊢;exact IntWalk.wrap64_in _ (by omega)
theorem Oh {n j:Nat}(hn:n<2 ^ 40)(hj:j<=39):bits .andNot .i64 (n:Int) (wrap64 (2 ^ j))=((Fl.an n (2 ^ j):Nat):Int):=by rw[(Ic hj).1,V7 hn (Ic hj).2]
theorem JE {n j:Nat}(hn:n<2 ^ 40)(hj:j<=39):bits .or .i64 (n:Int) (wrap64 (2 ^ j))=((n|||2 ^ j:Nat):Int):=by rw[(Ic hj).1,IP hn (Ic hj).2]
theorem IC (n:Nat):nz (List.replicate n 0)=List.replicate n 0:=by simp[nz]
theorem wU (a:Option Addr) (len cap:Nat) (ls:List Ln) (hok:Ln.isOk ls=true) (w:World) (hs:LL w a len ls):Calls Tryz.prog 61 #[.slice a len cap] w fun e w'=>∃g c,e= .returned (.slice (some ⟨g,0,none⟩) len c)/\OG w' w.heap.size g len c (nz (Fl.live ls))/\Below w.heap.size w w':=by
 have hl:=hs.1
 have hlen:=Ln.fD hok
 rw[hl]at hlen
 obtain⟨i0,hi,hz0,hz1,hz2⟩:=info_parts bU
 obtain⟨wm,hmk,hown,hgrow⟩:=run_make_full (P:=Tryz.prog) w w.heap.size 26 2 i0 _ 1 Tryz.underlying26 hi hz0 hz1 .i64 .i64 len (by rw[hz2];omega) (by simp only[maxLen];omega) (Nat.le_refl _)
 have hBm:Below w.heap.size w wm:=⟨hgrow.os,hgrow.tape,hgrow.output,hgrow.size,fun k hk=>hgrow.block k hk (by simp)⟩
 have hown0:OG wm w.heap.size w.heap.size len len (nz (List.replicate ls.length 0)):=by have e:(madeCells (Value.int .i64 0).cells (len*1)).toList=List.replicate (len*1) (iv 0):=toList_madeCells_one _ _;rw[e,Nat.mul_one]at hown;refine⟨by rw[qU,List.length_replicate,hl],?_⟩;rw[IC,List.map_replicate,hl];exact hown
 obtain⟨M,hM⟩:∃M,∀f,Fl.In ls f->f.sum<=M:=⟨_,fun f h=>h.sum⟩
 have HM:=ae hM
 have gK:=ae hok
 have HL:=ae hl
 have AY:(len:Int)<=300:=by omega
 have hl1:(1:Int)<=(len:Int):=by omega
 have HS:=ae hs
 have HB0:=ae hBm
 have HO0:=ae hown0
 have HI0:=ae (Fl.In.zero ls)
 clear hown hgrow hs hl hok hM hlen hBm hown0
 go_enter Tryz.func61,Tryz.ntmps61
 go_wp2
 go_loopg [4] (M+1) (fun gk va wr=>∃(ag:Bool)(f:List Nat),va= .bool ag/\gk=M-f.sum+(if ag=true then 1 else 0)/\Hid (Fl.In ls f/\Fl.Sound ls f)/\Hid (ag=false->Fl.Fix ls f)/\OG wr w.heap.size w.heap.size len len (nz f)/\Below w.heap.size w wr)
 case atStart=>exact⟨true,_,rfl,by simp,⟨HI0.out,Fl.Sound.zero ls⟩,(fun h=>by cases h),HO0.out,HB0.out⟩
 case round=>
  obtain⟨ag,f,rfl,mJ,HI,HX,ho,hB⟩:=hrel
  cases ag with
  |false=>
   have HE:Hid (OG wr w.heap.size w.heap.size len len (nz (Fl.live ls))/\Below w.heap.size w wr):=by have h:=HI.out;refine⟨?_,hB⟩;rw[←Fl.yS gK.out h.1 h.2 (HX.out rfl)];exact ho
   clear ho HX HI
   go_wp2
   go_ret
   exact⟨_,len,rfl,HE.out.1,HE.out.2⟩
  | true=>
   have HO:=ae ho
   have HB:=ae hB
   have hwr:=hB.size
   have ad2:gk=M-f.sum+1:=by simpa using mJ
   clear ho hB HX HO0 mJ
   go_wp2
   go_loopg [4,5] len (fun gj va vi wx=>∃(ag:Bool)(f':List Nat),va= .bool ag/\vi= .int .i64 ((gj:Int)-1)/\gj<=len/\Hid (Fl.In ls f'/\Fl.Sound ls f')/\Hid (ag=false->f'=f/\∀i,gj<=i->i<len->Fl.ic ls f i=f.getD i 0)/\Hid (ag=true->f.sum<f'.sum)/\OG wx w.heap.size w.heap.size len len (nz f')/\Below w.heap.size w wx)
   case atStart=>exact⟨false,f,rfl,rfl,Nat.le_refl _,HI,(fun _=>⟨rfl,fun i h1 h2=>by omega⟩),(fun h=>by cases h),HO.out,HB.out⟩
   case round=>
    obtain⟨ag,f',rfl,rfl,hgj,sV,J8,Pq,ho,hB⟩:=hrel
    rcases gk with _|p
    · have hN:¬((0:Nat):Int)-1≥0:=by omega
      have aZ:=hB.size
      have iA:=ae (ak ho hB)
      clear ho hB
      go_wp2
      go_roundg (M-f'.sum+(if ag=true then 1 else 0))
      case measure=>
       have h1:=HM.out _ sV.out.1
       have h2:=HM.out _ HI.out.1
       cases ag with
       |false=>
        have h3:=(J8.out rfl).1
        subst h3
        simp
       |true=>
        have h3:=Pq.out rfl
        simp
        omega
      case rel=>refine⟨ag,f',rfl,rfl,sV,(fun h=>?_),iA.out.1,iA.out.2⟩;have h3:=J8.out h;have h4:=h3.1;subst h4;intro i hi;exact h3.2 i (Nat.zero_le _) (by rw[←HL.out];exact hi)
    · have hp:p<len:=by{omega};have hY:((p:Int)≥0):=by{omega};have I8:(p:Int)<(len:Int):=by{omega};have Mf:=HS.out.kept hB;have kU:=o9 a len cap ls gK.out p hp f' sV.out.1.lt w.heap.size w.heap.size len wr Mf ho;have hlt:=ho.lt;have e5:(((p+1:Nat):Int)-1)=(p:Int):=by{omega};rw[e5];have UY:=ae (ak ho hB);obtain⟨b,off,rfl,hb,hc⟩:=Mf.at hp;have sG:=Ln.jE gK.out (i:=p) (by rw[HL.out];exact hp);have HST:Hid (Fl.ic ls f' p=Fl.um (ls.getD p .z)|||Fl.an (Fl.ou ls f' p) (Fl.sm (ls.getD p .z))):=rfl;have HX0:Hid (Fl.ou ls f' p<2 ^ 40):=Fl.qJ sV.out.1.lt _;obtain⟨x,hx⟩:∃x,ls.getD p .z=x:=⟨_,rfl⟩;rw[hx]at hc sG HST;obtain⟨X0,hX0⟩:∃X0,Fl.ou ls f' p=X0:=⟨_,rfl⟩;rw[hX0]at kU HST HX0;clear hx hX0 ho hB Mf;have hst:=Ln.Bu sG;have UZ:=ae (Ln.Fx sG);have h3:=Ln.sj sG;obtain⟨c0,c1,c2,c3,c4,la,ln,lc,c5,hil⟩:=hc;have hl3:ln<=3:=by{have:=hil.1;omega};go_wp2_with fail;refine kU.mono ?_;rintro e w2 ⟨rfl,hB2⟩;dsimp only;have e0:=(hB2.cell (p:=⟨b,off+p*6,none⟩) hb).trans c0;have e1:=(hB2.cell (p:=⟨b,off+p*6+1,none⟩) hb).trans c1;have e2:=(hB2.cell (p:=⟨b,off+p*6+2,none⟩) hb).trans c2;have e3:=(hB2.cell (p:=⟨b,off+p*6+3,none⟩) hb).trans c3;have e4:=(hB2.cell (p:=⟨b,off+p*6+4,none⟩) hb).trans c4;have e5:=(hB2.cell (p:=⟨b,off+p*6+5,none⟩) hb).trans c5;have xA:=hil.kept hB2;have bK:=o8 x la ln lc w2;have iA:Hid (OG w2 w.heap.size w.heap.size len len (nz f')/\Below w.heap.size w w2):=⟨UY.out.1.kept hB2,UY.out.2.trans (hB2.mono UY.out.2.size)⟩;have hb2:=aj hb hB2.size;clear kU c0 c1 c2 c3 c4 c5 hil hB2 UY;go_wp2_with fail;refine bK.mono ?_;rintro e w3 ⟨rfl,hB3⟩;dsimp only;have c0:=(hB3.cell (p:=⟨b,off+p*6,none⟩) hb2).trans e0;have c1:=(hB3.cell (p:=⟨b,off+p*6+1,none⟩) hb2).trans e1;have c2:=(hB3.cell (p:=⟨b,off+p*6+2,none⟩) hb2).trans e2;have c3:=(hB3.cell (p:=⟨b,off+p*6+3,none⟩) hb2).trans e3;have c4:=(hB3.cell (p:=⟨b,off+p*6+4,none⟩) hb2).trans e4;have c5:=(hB3.cell (p:=⟨b,off+p*6+5,none⟩) hb2).trans e5;have DR:=xA.kept hB3;have iU:=yj x la ln lc w3 DR hl3;have pY:Hid (OG w3 w.heap.size w.heap.size len len (nz f')/\Below w.heap.size w w3):=⟨iA.out.1.kept hB3,iA.out.2.trans (hB3.mono iA.out.2.size)⟩;clear bK e0 e1 e2 e3 e4 e5 xA hB3 iA hb2;have Ns:Hid (Fl.sm x=if 0<=Ln.st x then 2 ^ (Ln.st x).toNat else 0):=rfl;obtain⟨d,hd⟩:∃d,Ln.st x=d:=⟨_,rfl⟩;rw[hd]at hst Ns ⊢;clear hd;by_cases hd0:0<=d;{obtain⟨j,rfl⟩:=Int.eq_ofNat_of_zero_le hd0;have hj:(j:Int)<=39:=hst.2;have hA:bits .andNot .i64 (X0:Int) (wrap64 (2 ^ j))=((Fl.an X0 (2 ^ j):Nat):Int):=Oh HX0.out (by omega);obtain⟨q0,hq0⟩:∃q0,Fl.an X0 (2 ^ j)=q0:=⟨_,rfl⟩;have Mg:Hid (Fl.an X0 (Fl.sm x)=q0):=by{show _=_;rw[Ns.out,ay hd0,az];exact hq0};have WJ:Hid (q0<2 ^ 40):=by{show _<_;rw[←hq0];exact Fl.uX HX0.out};rw[hq0]at hA;clear hq0;go_wp2_with fail;refine iU.mono ?_;rintro e w4 ⟨gu,mu,cu,rfl,hou,hB4⟩;dsimp only;have hgu:=hou.lt;have J9:=hou.cap;have AZ:=ae hou.1;have HC:Hid (∀k,k<mu->w4.cell? ⟨gu,k,none⟩=some (.int .i64 ((Ln.us x).getD k 0))):=fun k hk=>hou.cell hk;have jD:Hid (OG w4 w.heap.size w.heap.size len len (nz f')/\Below w.heap.size w w4):=⟨pY.out.1.kept hB4,pY.out.2.trans (hB4.mono pY.out.2.size)⟩;have hmx:mu<=9223372036854775807:=by{unfold maxLen at J9;omega};clear iU hou hB4 pY DR c0 c1 c2 c3 c4 c5;go_wp2;go_loopg [6,9] mu (fun gz vx vk wy=>∃(k q:Nat),gz=mu-k/\k<=mu/\vx= .int .i64 (q:Int)/\vk= .int .i64 (k:Int)/\Hid (q=q0|||Fl.mk ((Ln.us x).take k))/\w4=wy);(case atStart=>exact⟨0,q0,by omega,Nat.zero_le _,rfl,rfl,(by show _=_;simp[Fl.mk]),rfl⟩);case round=>obtain⟨k,q,hgz,hk,rfl,rfl,HQ,aZ⟩:=hrel;subst aZ;by_cases hlt2:k<mu;{have bE:(k:Int)<(mu:Int):=by{omega};have hkl:k<(Ln.us x).length:=by{rw[AZ.out];exact hlt2};have hc:=HC.out k hlt2;have hy:=UZ.out ((Ln.us x).getD k 0) (by rw[ah,ai hkl];exact List.getElem_mem hkl);have HS2:Hid (q0|||Fl.mk ((Ln.us x).take (k+1))=q|||2 ^ ((Ln.us x).getD k 0).toNat):=by{show _=_;rw[Fl.vK hkl,←Nat.or_assoc,←HQ.out]};have I9:Hid (q<2 ^ 40):=by{show _<_;rw[HQ.out];exact Nat.or_lt_two_pow WJ.out (Fl.xO fun y hy=>UZ.out y (List.mem_of_mem_take hy))};obtain⟨y,Gd⟩:∃y,(Ln.us x).getD k 0=y:=⟨_,rfl⟩;rw[Gd]at hc hy HS2;clear Gd hkl;obtain⟨j2,rfl⟩:=Int.eq_ofNat_of_zero_le hy.1;rw[az]at HS2;have hj2:(j2:Int)<=39:=hy.2;have hor:bits .or .i64 (q:Int) (wrap64 (2 ^ j2))=((q|||2 ^ j2:Nat):Int):=JE I9.out (by omega);clear hy;go_wp2;go_roundg (mu-(k+1));(case measure=>omega);case rel=>exact⟨k+1,q|||2 ^ j2,rfl,hlt2,rfl,by simp,(by show _=_;rw[HS2.out]),rfl⟩};have hke:k=mu:=by{omega};have HE:Hid (Fl.ic ls f' p=q):=by{show _=_;rw[HST.out,HQ.out,hke,←AZ.out,List.take_length,Mg.out,Nat.or_comm];rfl};have bE:¬(k:Int)<(mu:Int):=by{omega};have hci:=jD.out.1.cell hp;have hfi:=World.ownsRow.frozenAt jD.out.1.2 p;rw[BF]at hci;obtain⟨z,hz⟩:∃z,f'.getD p 0=z:=⟨_,rfl⟩;rw[hz]at hci;have DK:=jD.out.1.lt;clear HQ hke;by_cases hqz:q=z;{subst hqz;have HZ:=ae hz;clear hz;go_wp2;go_roundg p;(case measure=>omega);case rel=>refine⟨ag,f',rfl,rfl,by omega,sV,(fun h=>?_),Pq,jD.out.1,jD.out.2⟩;have h1:=J8.out h;refine⟨h1.1,fun i h2 h3=>?_⟩;by_cases WK:i=p;{subst WK;rw[←h1.1,HE.out,HZ.out]};exact h1.2 i (by omega) h3};have hnq:((q:Int)==(z:Int))=false:=by{simp;omega};have Ja:Hid (Fl.ic ls f' p≠f'.getD p 0):=by{show _≠_;rw[HE.out,hz];exact hqz};have A7:=(jD.out.1.2.stored p (.int .i64 (q:Int))).1;rw[←fJ,←Fb]at A7;have Ec:Hid (OG (w4.setCell ⟨w.heap.size,p,none⟩ (.int .i64 (q:Int))) w.heap.size w.heap.size len len (nz (f'.set p q))/\Below w.heap.size w (w4.setCell ⟨w.heap.size,p,none⟩ (.int .i64 (q:Int)))):=by{refine⟨⟨?_,A7⟩,?_⟩;{rw[qU,List.length_set,←qU];exact jD.out.1.1};exact jD.out.2.setCell (p:=⟨w.heap.size,p,none⟩) (Nat.le_refl _) _};clear A7 hz;go_wp2;go_roundg p;(case measure=>omega);case rel=>refine⟨true,f'.set p q,rfl,rfl,by omega,?_,(fun h=>by cases h),(fun _=>?_),Ec.out.1,Ec.out.2⟩;{have h1:=sV.out.1.set gK.out (i:=p) (by rw[HL.out];exact hp);have h2:=sV.out.2.set gK.out (i:=p) (by rw[HL.out];exact hp);rw[HE.out]at h1 h2;exact⟨h1,h2⟩};have h1:=sV.out.1.more (i:=p) (by rw[HL.out];exact hp) Ja.out;rw[HE.out]at h1;rcases ag with _|_;{rw[(J8.out rfl).1]at h1;rw[(J8.out rfl).1];exact h1};exact Nat.lt_trans (Pq.out rfl) h1};obtain⟨q0,hq0⟩:∃q0,q0=X0:=⟨_,rfl⟩;have Mg:Hid (Fl.an X0 (Fl.sm x)=q0):=by{show _=_;rw[Ns.out,ax hd0,hq0];refine Nat.eq_of_testBit_eq fun k=>?_;rw[Fl.nQ];simp};have WJ:Hid (q0<2 ^ 40):=by{show _<_;rw[hq0];exact HX0.out};subst hq0;go_wp2_with fail;refine iU.mono ?_;rintro e w4 ⟨gu,mu,cu,rfl,hou,hB4⟩;dsimp only;have hgu:=hou.lt;have J9:=hou.cap;have AZ:=ae hou.1;have HC:Hid (∀k,k<mu->w4.cell? ⟨gu,k,none⟩=some (.int .i64 ((Ln.us x).getD k 0))):=fun k hk=>hou.cell hk;have jD:Hid (OG w4 w.heap.size w.heap.size len len (nz f')/\Below w.heap.size w w4):=⟨pY.out.1.kept hB4,pY.out.2.trans (hB4.mono pY.out.2.size)⟩;have hmx:mu<=9223372036854775807:=by{unfold maxLen at J9;omega};clear iU hou hB4 pY DR c0 c1 c2 c3 c4 c5;go_wp2;go_loopg [6,9] mu (fun gz vx vk wy=>∃(k q:Nat),gz=mu-k/\k<=mu/\vx= .int .i64 (q:Int)/\vk= .int .i64 (k:Int)/\Hid (q=q0|||Fl.mk ((Ln.us x).take k))/\w4=wy);(case atStart=>exact⟨0,q0,by omega,Nat.zero_le _,rfl,rfl,(by show _=_;simp[Fl.mk]),rfl⟩);case round=>obtain⟨k,q,hgz,hk,rfl,rfl,HQ,aZ⟩:=hrel;subst aZ;by_cases hlt2:k<mu;{have bE:(k:Int)<(mu:Int):=by{omega};have hkl:k<(Ln.us x).length:=by{rw[AZ.out];exact hlt2};have hc:=HC.out k hlt2;have hy:=UZ.out ((Ln.us x).getD k 0) (by rw[ah,ai hkl];exact List.getElem_mem hkl);have HS2:Hid (q0|||Fl.mk ((Ln.us x).take (k+1))=q|||2 ^ ((Ln.us x).getD k 0).toNat):=by{show _=_;rw[Fl.vK hkl,←Nat.or_assoc,←HQ.out]};have I9:Hid (q<2 ^ 40):=by{show _<_;rw[HQ.out];exact Nat.or_lt_two_pow WJ.out (Fl.xO fun y hy=>UZ.out y (List.mem_of_mem_take hy))};obtain⟨y,Gd⟩:∃y,(Ln.us x).getD k 0=y:=⟨_,rfl⟩;rw[Gd]at hc hy HS2;clear Gd hkl;obtain⟨j2,rfl⟩:=Int.eq_ofNat_of_zero_le hy.1;rw[az]at HS2;have hj2:(j2:Int)<=39:=hy.2;have hor:bits .or .i64 (q:Int) (wrap64 (2 ^ j2))=((q|||2 ^ j2:Nat):Int):=JE I9.out (by omega);clear hy;go_wp2;go_roundg (mu-(k+1));(case measure=>omega);case rel=>exact⟨k+1,q|||2 ^ j2,rfl,hlt2,rfl,by simp,(by show _=_;rw[HS2.out]),rfl⟩};have hke:k=mu:=by{omega};have HE:Hid (Fl.ic ls f' p=q):=by{show _=_;rw[HST.out,HQ.out,hke,←AZ.out,List.take_length,Mg.out,Nat.or_comm];rfl};have bE:¬(k:Int)<(mu:Int):=by{omega};have hci:=jD.out.1.cell hp;have hfi:=World.ownsRow.frozenAt jD.out.1.2 p;rw[BF]at hci;obtain⟨z,hz⟩:∃z,f'.getD p 0=z:=⟨_,rfl⟩;rw[hz]at hci;have DK:=jD.out.1.lt;clear HQ hke;by_cases hqz:q=z;{subst hqz;have HZ:=ae hz;clear hz;go_wp2;go_roundg p;(case measure=>omega);case rel=>refine⟨ag,f',rfl,rfl,by omega,sV,(fun h=>?_),Pq,jD.out.1,jD.out.2⟩;have h1:=J8.out h;refine⟨h1.1,fun i h2 h3=>?_⟩;by_cases WK:i=p;{subst WK;rw[←h1.1,HE.out,HZ.out]};exact h1.2 i (by omega) h3};have hnq:((q:Int)==(z:Int))=false:=by{simp;omega};have Ja:Hid (Fl.ic ls f' p≠f'.getD p 0):=by{show _≠_;rw[HE.out,hz];exact hqz};have A7:=(jD.out.1.2.stored p (.int .i64 (q:Int))).1;rw[←fJ,←Fb]at A7;have Ec:Hid (OG (w4.setCell ⟨w.heap.size,p,none⟩ (.int .i64 (q:Int))) w.heap.size w.heap.size len len (nz (f'.set p q))/\Below w.heap.size w (w4.setCell ⟨w.heap.size,p,none⟩ (.int .i64 (q:Int)))):=by{refine⟨⟨?_,A7⟩,?_⟩;{rw[qU,List.length_set,←qU];exact jD.out.1.1};exact jD.out.2.setCell (p:=⟨w.heap.size,p,none⟩) (Nat.le_refl _) _};clear A7 hz;go_wp2;go_roundg p;(case measure=>omega);case rel=>refine⟨true,f'.set p q,rfl,rfl,by omega,?_,(fun h=>by cases h),(fun _=>?_),Ec.out.1,Ec.out.2⟩;{have h1:=sV.out.1.set gK.out (i:=p) (by rw[HL.out];exact hp);have h2:=sV.out.2.set gK.out (i:=p) (by rw[HL.out];exact hp);rw[HE.out]at h1 h2;exact⟨h1,h2⟩};have h1:=sV.out.1.more (i:=p) (by rw[HL.out];exact hp) Ja.out;rw[HE.out]at h1;rcases ag with _|_;{rw[(J8.out rfl).1]at h1;rw[(J8.out rfl).1];exact h1};exact Nat.lt_trans (Pq.out rfl) h1
theorem CQ {W:World}{b0 b1 e0 e1 k0 k1 g0 g1 n0 n1 c0 c1:Nat}{xs ys:List Value}(h0:W.ownsRow b0 e0 k0 (.slice (some ⟨g0,0,none⟩) n0 c0) n0 xs)(h1:W.ownsRow b1 e1 k1 (.slice (some ⟨g1,0,none⟩) n1 c1) n1 ys)(he:e0≠e1):g0≠g1:=by rintro rfl;rcases h0.2 with⟨h',_⟩|⟨g,c,cur,h',_,hb,_⟩;{cases h'};cases h';rcases h1.2 with⟨h',_⟩|⟨g,c,cur',h',_,hb',_⟩;{cases h'};cases h';rw[hb]at hb';simp only[af,Obj.cells.injEq]at hb';exact he hb'.2.1
theorem bN {W W':World}{b0 b1 e0 e1 k0 k1 g0 g1 n0 n1 c0 c1:Nat}{xs ys:List Value}(h1:W.ownsRow b1 e1 k1 (.slice (some ⟨g1,0,none⟩) n1 c1) n1 ys)(h0:W.ownsRow b0 e0 k0 (.slice (some ⟨g0,0,none⟩) n0 c0) n0 xs)(he:e0≠e1)(hg:W.grownBy W' (Value.slice (some ⟨g0,0,none⟩) n0 c0).ownBlock):W'.ownsRow b1 e1 k1 (.slice (some ⟨g1,0,none⟩) n1 c1) n1 ys:=
 iH h1 (b:=g0) hg (Ne.symm (CQ h0 h1 he))
theorem ES {W:World}{n₀ e k g n c:Nat}{xs:List Value}(h:W.ownsRow n₀ e k (.slice (some ⟨g,0,none⟩) n c) n xs)(m:Nat)(hm:m<=n):W.ownsRow n₀ e k (.slice (some ⟨g,0,none⟩) m c) m (xs.take (m*k)):=by obtain⟨h1,h2⟩:=h;have hmk:m*k<=n*k:=Nat.mul_le_mul_right k hm;refine⟨by rw[List.length_take,h1];omega,?_⟩;rcases h2 with⟨h',_⟩|⟨g',cap',cur,h',hb,hc,hn,hx,hs,ht⟩;{cases h'};cases h';refine .inr ⟨g,c,cur,rfl,hb,hc,by omega,hx,hs,?_⟩;rw[←ht,List.take_take];congr 1;omega
theorem nk {W:World}{n₀ e k g n c:Nat}{xs:List Value}(h:W.ownsRow n₀ e k (.slice (some ⟨g,0,none⟩) n c) n xs):n<=c:=by rcases h.2 with⟨h',_⟩|⟨g',cap',cur,h',_,_,hc,_⟩;{cases h'};cases h';exact hc
def bi (W:World)(b:Nat)(vs:List Value):Prop:=b<W.heap.size/\∀i x,vs[i]?=some x->W.cell? ⟨b,i,none⟩=some x/\W.frozen? ⟨b,i,none⟩=false
theorem bi.bS {W W':World}{b:Nat}{row:Option Nat}{vs:List Value}(h:bi W b vs)(hg:W.grownBy W' row)(hne:row≠some b):bi W' b vs:=by have hb:=hg.block b h.1 (fun e=>hne e.symm);refine⟨aj h.1 hg.size,fun i x hx=>?_⟩;obtain⟨h1,h2⟩:=h.2 i x hx;exact⟨(World.cell?_of_block hb).trans h1,by unfold World.frozen?;rw[hb];exact h2⟩
theorem bi.kept {W W':World}{b:Nat}{vs:List Value}(h:bi W b vs)(hB:Below W.heap.size W W'):bi W' b vs:=h.bS (row:=none) ⟨hB.os,hB.tape,hB.output,hB.size,fun k hk _=>hB.block k hk⟩ (by simp)
theorem bi.new (W:World)(vs:List Value)(t:TypeId):bi (W.alloc (.cells vs.toArray t)) W.heap.size vs:=by refine⟨by simp,fun i x hx=>⟨?_,by simp⟩⟩;rw[World.cell?_alloc_at _ _ _ _ rfl];simpa using hx
theorem bi.set {W:World}{b:Nat}{vs:List Value}(h:bi W b vs)(i:Nat)(x:Value):bi (W.setCell ⟨b,i,none⟩ x) b (vs.set i x):=by refine⟨by simpa[World.setCell]using h.1,fun j y hy=>?_⟩;by_cases e:i=j;{subst e;have hi:i<vs.length:=by{rcases Nat.lt_or_ge i vs.length with h'|h';{exact h'};rw[List.getElem?_eq_none (by simpa using h')]at hy;cases hy};rw[List.getElem?_set_self hi]at hy;cases hy;obtain⟨h1,h2⟩:=h.2 i vs[i] (ai hi);exact⟨World.cell?_setCell_same _ _ _ h1,by simpa using h2⟩};rw[List.getElem?_set_ne e]at hy;obtain⟨h1,h2⟩:=h.2 j y hy;exact⟨(World.cell?_setCell_other _ _ _ _ (fun q=>e (by cases q;rfl))).trans h1,by simpa using h2⟩
namespace oK
def iter (f:Nat->Nat):Nat->Nat->Nat
 |0,h=>h
 |n+1,h=>iter f n (f h)
theorem jr (f:Nat->Nat)(m:Nat):∀(n h:Nat),iter f (n+m) h=iter f m (iter f n h)
 |0,h=>by rw[Nat.zero_add];rfl
 |n+1,h=>by rw[Nat.add_right_comm];exact jr f m n (f h)
def GV (a c M h:Nat):Nat:=(a*h+c)%M
def AC (a c M:Nat):Nat->Nat×Nat
 |0=>(a,c)
 |k+1=>((AC a c M k).1*(AC a c M k).1%M,((AC a c M k).1*(AC a c M k).2+(AC a c M k).2)%M)
theorem jump (a c M:Nat):∀(k h:Nat),iter (GV a c M) (2 ^ k) h=GV (AC a c M k).1 (AC a c M k).2 M h
 |0,h=>rfl
 | k +1,h=>by
   have e:2 ^ (k+1)=2 ^ k+2 ^ k:=by rw[Nat.pow_succ];omega
   rw[e,jr,jump a c M k,jump a c M k]
   show _=GV ((AC a c M k).1*(AC a c M k).1%M) (((AC a c M k).1*(AC a c M k).2+(AC a c M k).2)%M) M h
   generalize(AC a c M k).1=A
   generalize(AC a c M k).2=C
   unfold GV
   have h1:(A*((A*h+C)%M)+C)%M=(A*(A*h+C)+C)%M:=by
     rw[Nat.add_mod,Nat.mul_mod,Nat.mod_mod,←Nat.mul_mod,←Nat.add_mod]
   have h2:(A*A%M*h+(A*C+C)%M)%M=(A*A*h+(A*C+C))%M:=by
     rw[Nat.add_mod,Nat.mul_mod,Nat.mod_mod,Nat.mod_mod,←Nat.mul_mod,←Nat.add_mod]
   rw[h1,h2]
   congr 1
   rw[Nat.mul_add,Nat.mul_assoc]
   omega
def M:Nat:=9007199254740992
def a0:Nat:=5053549999652653
def c0:Nat:=1543160130404687
theorem NV:∀k,k<18->(AC a0 c0 M k).1%2 ^ (k+1)=1/\(AC a0 c0 M k).2%2 ^ (k+1)=2 ^ k:=by decide+kernel
abbrev T:Nat->Nat:=GV a0 c0 M
theorem OT:AC a0 c0 M 33=(4124027597619201,4140803739877376):=by decide+kernel
theorem Iq {A C h k:Nat}(hk:k<18)(hA:A%2 ^ (k+1)=1)(hC:C%2 ^ (k+1)=2 ^ k):GV A C M h%2 ^ (k+1)=(h+2 ^ k)%2 ^ (k+1):=by unfold GV;have hd:2 ^ (k+1)∣M:=by{have:M=2 ^ 53:=by{decide};rw[this];exact Nat.pow_dvd_pow 2 (by omega)};rw[Nat.mod_mod_of_dvd _ hd,Nat.add_mod,Nat.mul_mod,hA,hC,Nat.one_mul,Nat.mod_mod,Nat.add_mod h (2 ^ k),Nat.mod_eq_of_lt (show 2 ^ k<2 ^ (k+1)by rw[Nat.pow_succ];have:=Nat.two_pow_pos k;omega)]
theorem reach (h r:Nat)(hr:h%2=r%2):∀k,k<18->∃n,n%2=0/\n<2 ^ (k+1)/\iter T n h%2 ^ (k+1)=r%2 ^ (k+1)
 |0,_=>⟨0,rfl,by decide,by simpa[iter]using hr⟩
 | k + 1,hk=>by
   obtain⟨n,h1,h2,h3⟩:=reach h r hr k (by omega)
   have hp:2 ^ (k+1+1)=2 ^ (k+1)+2 ^ (k+1):=by rw[Nat.pow_succ 2 (k+1)];omega
   have hpos:=Nat.two_pow_pos (k+1)
   have he:2 ^ (k+1)%2=0:=by rw[Nat.pow_succ];omega
   by_cases e:iter T n h%2 ^ (k+1+1)=r%2 ^ (k+1+1)
   · exact⟨n,h1,by omega,e⟩
   · refine⟨n+2 ^ (k+1),by omega,by omega,?_⟩
     obtain⟨f1,f2⟩:=NV (k+1) hk
     rw[jr,jump,Iq hk f1 f2]
     generalize iter T n h=x at*
     generalize 2 ^ (k+1)=p at*
     rw[hp]at e ⊢
     have e1:=Nat.mod_add_div x (p+p)
     have e2:=Nat.mod_add_div r (p+p)
     have e3:x%(p+p)%p=x%p:=Nat.mod_mod_of_dvd _ ⟨2,by omega⟩
     have e4:r%(p+p)%p=r%p:=Nat.mod_mod_of_dvd _ ⟨2,by omega⟩
     have l1:=Nat.mod_lt x (show 0<p+p by omega)
     have l2:=Nat.mod_lt r (show 0<p+p by omega)
     rw[Nat.add_mod,Nat.mod_eq_of_lt (show p<p+p by omega)]
     generalize x%(p+p)=X at*
     generalize r%(p+p)=R at*
     have hm:∀y,y<p+p->y%p=if y<p then y else y-p:=fun y hy=>by
       split
       · exact Nat.mod_eq_of_lt ‹_›
       · rw[Nat.mod_eq_sub_mod (by omega),Nat.mod_eq_of_lt (by omega)]
     rw[←e3,←e4,hm X l1,hm R l2]at h3
     by_cases x1:X<p
     · rw[ay x1]at h3
       rw[Nat.mod_eq_of_lt (by omega)]
       split at h3<;>omega
     · rw[ax x1]at h3
       rw[Nat.mod_eq_sub_mod (by omega),Nat.mod_eq_of_lt (by omega)]
       split at h3<;>omega
def par (h:Nat):Nat:=(h / 8589934592+h / 35184372088832)%2
theorem O0 (h:Nat)(hh:h<M)(hr:h%262144=43840):iter T (2 ^ 33) h=(h+8589934592*5)%M:=by rw[jump,OT];unfold GV M at*;omega
theorem OV (h:Nat)(hh:h<M)(hr:h%262144=212951):iter T (2 ^ 33) h=(h+8589934592*1)%M:=by rw[jump,OT];unfold GV M at*;omega
theorem OY (h:Nat):h / 35184372088832=h / 8589934592 / 4096:=by rw[Nat.div_div_eq_div_mul]
theorem O4 (h d:Nat):(h+8589934592*d)%M / 8589934592=(h / 8589934592+d)%1048576:=by have e:M=8589934592*1048576:=by{decide};rw[e,Nat.mod_mul_right_div_self];congr 1;omega
theorem nxt {v d:Nat}(hv:v<1048576)(hs:v%4096+d<4096):v+d<1048576/\(v+d) / 4096=v / 4096:=by have h:=Nat.mod_add_div v 4096;have h2:v / 4096<256:=Nat.div_lt_of_lt_mul (by omega);constructor<;>omega
theorem three (h d:Nat)(hd:d=5\/d=1)(p0:par h=1)(p1:par ((h+8589934592*d)%M)=1)(p2:par ((h+8589934592*(d+d))%M)=1)(hh:h / 8589934592<1048576):False:=by unfold par at p0 p1 p2;rw[OY]at p0 p1 p2;rw[O4]at p1 p2;generalize h / 8589934592=v at*;have hodd:d%2=1:=by{omega};have hd5:d<=5:=by{omega};clear hd;by_cases hs:v%4096+d<4096;{obtain⟨n1,e2⟩:=nxt hh hs;rw[Nat.mod_eq_of_lt n1,e2]at p1;clear p2;omega};have e0:(v+(d+d))%1048576=((v+d)%1048576+d)%1048576:=by{rw[Nat.mod_add_mod,Nat.add_assoc]};have e5:(v+d)%1048576%4096=v%4096+d-4096:=by{rw[Nat.mod_mod_of_dvd _ (by decide:4096∣1048576)];omega};have e6:(v+d)%1048576<1048576:=Nat.mod_lt _ (by decide);rw[e0]at p2;generalize(v+d)%1048576=v1 at*;have hv4:v%4096<4096:=Nat.mod_lt _ (by decide);obtain⟨n1,e2⟩:=nxt e6 (show v1%4096+d<4096 by rw[e5];clear p0 p1 p2 e0;omega);rw[Nat.mod_eq_of_lt n1,e2]at p2;clear p0 e0 e5;omega
theorem qH {f:Nat->Nat}{m:Nat}(hf:∀h,f h<m):∀(n h:Nat),h<m->iter f n h<m
 |0,h,hh=>hh
 |n+1,h,hh=>qH hf n (f h) (hf h)
theorem Eu {a c m:Nat}(hm:0<m)(h:Nat):GV a c m h<m:=Nat.mod_lt _ hm
theorem JC:0<M:=by decide
theorem Iu (n h:Nat)(hh:h<M):iter T n h<M:=qH (fun x=>Eu JC x) n h hh
theorem stops (h:Nat)(hh:h<M):∃n,n%2=0/\n<2 ^ 18+2 ^ 34+1/\¬par (iter T n h)=1:=by
 obtain⟨r,d,hr,hd,hl⟩:∃r d,h%2=r%2/\(d=5\/d=1)/\∀x,x<M->x%262144=r%262144->iter T (2 ^ 33) x=(x+8589934592*d)%M:=by by_cases e:h%2=0;{exact⟨43840,5,by omega, .inl rfl,fun x hx hxr=>O0 x hx (by omega)⟩};exact⟨212951,1,by omega, .inr rfl,fun x hx hxr=>OV x hx (by omega)⟩
 obtain⟨n,h1,h2,h3⟩:=reach h r hr 17 (by omega)
 have hx:=Iu n h hh
 have e33:(2:Nat) ^ 33%2=0:=by decide
 have e34:(2:Nat) ^ 34=2 ^ 33+2 ^ 33:=by decide
 have e18:(2:Nat) ^ (17+1)=262144:=by decide
 rw[e18]at h3 h2
 have l1:=hl _ hx h3
 have hx1:(iter T n h+8589934592*d)%M<M:=Nat.mod_lt _ (by decide)
 have hm1:(iter T n h+8589934592*d)%M%262144=r%262144:=by rw[Nat.mod_mod_of_dvd _ (by decide:262144∣M)];omega
 have l2:=hl _ hx1 hm1
 rw[Nat.mod_add_mod,Nat.add_assoc,←Nat.mul_add]at l2
 by_cases b0:par (iter T n h)=1
 · by_cases b1:par ((iter T n h+8589934592*d)%M)=1
   · refine⟨n+2 ^ 33+2 ^ 33,by omega,by omega,?_⟩
     rw[jr,jr,l1,l2]
     exact fun b2=>three _ d hd b0 b1 b2 (by
      have e:M=8589934592*1048576:=by decide
      rw[e]at hx
      exact Nat.div_lt_of_lt_mul hx)
   · refine⟨n+2 ^ 33,by omega,by omega,?_⟩;rw[jr,l1];exact b1
 · exact⟨n,h1,by omega,b0⟩
theorem F5 (f:Nat->Nat)(n h:Nat):iter f (n+2) h=iter f n (f (f h)):=rfl
def Db:Nat:=2 ^ 18+2 ^ 34+1
end oK
end Go.Proofs.YthamlonlgnjljaaGreat
