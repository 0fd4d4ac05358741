/-
  Own texts for a law: Fi1 Shp9 Fi8 LvX HasL Shp10 Fs3 Fs4 Fs5
-/
import Derived.Test.YtghjooipkofodaaGreatKY25
import Derived.Test.YtghjooipkofodaaGreatKY26
namespace Go.Proofs.YtghjooipkofodaaGreat
open Go.RowKit Go.Shelf
set_option linter.all false
set_option maxRecDepth 100000
set_option maxHeartbeats 16000000
namespace Fl
def raw (x:Ln)(i:Nat):List Int:=(if Ln.gy x=true then[x.n]else[])++(if Ln.behind x=true then[(i:Int)+1]else[])
theorem GH (x:Ln)(i:Nat):Ln.bY (raw x i)=nx x i:=by obtain⟨k,d,a,b,n,l⟩:=x;unfold raw nx Ln.gy Ln.behind;by_cases h5:k=5;{subst h5;rfl};by_cases h6:k=6;{subst h6;show Ln.bY [n,(i:Int)+1]=Ln.put [(i:Int)+1] n;refine lI (kE _) (fE (List.pairwise_singleton _ _)) fun z=>?_;rw[fC,dO];simp};by_cases h10:k=10\/k=11;{have e1:decide (k=5\/k=6)=false:=decide_eq_false (by omega);have e2:decide (k=5\/k=10\/k=11)=true:=decide_eq_true (by omega);simp only[e1,e2];rw[ax h5,ax h6,ay h10];rfl};have e1:decide (k=5\/k=6)=false:=decide_eq_false (by omega);have e2:decide (k=5\/k=10\/k=11)=false:=decide_eq_false (by omega);simp only[e1,e2];rw[ax h5,ax h6,ax h10];rfl
end Fl
theorem gp (W:World)(y:Int):Hid (∀j,j<1->(W.alloc (.cells #[.int .i64 y] 2)).cell? ⟨W.heap.size,0+j,none⟩=some (.int .i64 (([y]:List Int).getD j 0))):=fun j hj=>by
 obtain rfl:j=0:=by omega
 exact(OG.one W W.heap.size (Nat.le_refl _) y).cell (j:=0) (by omega)
theorem ll (x:Ln)(h1:1<=x.k)(h2:x.k<=11)(la:Option Addr)(ln lc:Nat)(p:Nat)(hp:p<=1000)(w:World):Calls Tryz.prog 50 #[bq x (.slice la ln lc), .int .i64 (p:Int)] w fun e w'=>∃g m c,e= .returned (.slice (some ⟨g,0,none⟩) m c)/\OG w' w.heap.size g m c (Fl.nx x p)/\Below w.heap.size w w':=by have hpt:=fun W=>ik x h1 h2 la ln lc W;have hcb:=fun W=>fK x h1 h2 la ln lc W;have HN:=ae (Fl.GH x p);generalize bq x (.slice la ln lc)=sv at hpt hcb ⊢;unfold Fl.raw at HN;generalize Fl.nx x p=N at HN ⊢;have H6:(p:Int)<=1000:=by{omega};have ho:=OG.empty w w.heap.size (Nat.le_refl _);have hB:=aA w (.cells #[] 2);have HO:=ae (ak ho hB);have hp0:=hpt (w.alloc (.cells #[] 2));obtain⟨W1,hW1⟩:∃W1,w.alloc (.cells #[] 2)=W1:=⟨_,rfl⟩;rw[hW1]at HO hp0;have hs1:w.heap.size<W1.heap.size:=by{rw[←hW1];simp};clear ho hB hpt h1 h2;generalize x.n=n at hp0 HN;rcases hg:Ln.gy x with _|_;{rw[hg]at hp0 HN;rcases hb:Ln.behind x with _|_;{rw[hb]at HN;clear hg;go_enter Tryz.func50,Tryz.ntmps50;go_wp2_with fail;refine hp0.mono ?_;rintro e w2 ⟨rfl,hB2⟩;dsimp only;have ma:Hid (OG w2 w.heap.size w.heap.size 0 0 []/\Below w.heap.size w w2):=⟨HO.out.1.kept hB2,HO.out.2.trans (hB2.mono HO.out.2.size)⟩;clear hp0 HO hB2;have iT:=hcb w2;rw[hb]at iT;clear hb;go_wp2_with fail;refine iT.mono ?_;rintro e w4 ⟨rfl,hB4⟩;dsimp only;have jy:=ae (ak (ma.out.1.kept hB4) (ma.out.2.trans (hB4.mono ma.out.2.size)));clear iT hB4;have hcon:=eT w.heap.size w.heap.size 0 0 _ w4 jy.out.1 jy.out.2.size (by omega);go_wp2_with fail;refine hcon.mono ?_;rintro e w6 ⟨m6,rfl,si,gJ⟩;dsimp only;have HF:Hid (OG w6 w.heap.size w.heap.size m6 _ N/\Below w.heap.size w w6):=⟨by rw[←HN.out];exact si,aN jy.out.2 gJ (Nat.le_refl _)⟩;clear hcon si gJ;go_wp2;go_ret;exact⟨w.heap.size,m6,_,rfl,HF.out.1,HF.out.2⟩};rw[hb]at HN;clear hg;go_enter Tryz.func50,Tryz.ntmps50;go_wp2_with fail;refine hp0.mono ?_;rintro e w2 ⟨rfl,hB2⟩;dsimp only;have ma:Hid (OG w2 w.heap.size w.heap.size 0 0 []/\Below w.heap.size w w2):=⟨HO.out.1.kept hB2,HO.out.2.trans (hB2.mono HO.out.2.size)⟩;clear hp0 HO hB2;have iT:=hcb w2;rw[hb]at iT;clear hb;go_wp2_with fail;refine iT.mono ?_;rintro e w4 ⟨rfl,hB4⟩;dsimp only;have jy:=ae (ak (ma.out.1.kept hB4) (ma.out.2.trans (hB4.mono ma.out.2.size)));clear iT hB4;have pX:=aA w4 (.cells #[.int .i64 ((p:Int)+1)] 2);have yX:=ae (ak (jy.out.1.kept pX) (jy.out.2.trans (pX.mono jy.out.2.size)));have Dj:=gp w4 ((p:Int)+1);have Va:=jy.out.2.size;clear pX;go_wp2_with(at_builtin;refine bU _ rfl _ _ rfl w.heap.size _ _ _ _ rfl yX.out.1 w4.heap.size 0 1 1 [(p:Int)+1] rfl rfl Dj.out (by omega) (by simp;omega) ?_;intro g5 c5 N5 w5 Dk iU hgr5;have Ib:=ae (ak iU (aN yX.out.2 hgr5 (Nat.le_refl _)));have hg5:=iU.lt;clear iU hgr5 yX Dj;have Ic:=Dk.out;clear Dk;subst Ic;have hcon:=eT w.heap.size g5 _ c5 _ w5 Ib.out.1 Ib.out.2.size (by omega));refine hcon.mono ?_;rintro e w6 ⟨m6,rfl,si,gJ⟩;dsimp only;have HF:Hid (OG w6 w.heap.size g5 m6 _ N/\Below w.heap.size w w6):=⟨by rw[←HN.out];exact si,aN Ib.out.2 gJ (hg5.1)⟩;clear hcon si gJ;go_wp2;go_ret;exact⟨g5,m6,_,rfl,HF.out.1,HF.out.2⟩};rw[hg]at hp0 HN;rcases hb:Ln.behind x with _|_;{rw[hb]at HN;clear hg;go_enter Tryz.func50,Tryz.ntmps50;go_wp2_with fail;refine hp0.mono ?_;rintro e w2 ⟨rfl,hB2⟩;dsimp only;have ma:Hid (OG w2 w.heap.size w.heap.size 0 0 []/\Below w.heap.size w w2):=⟨HO.out.1.kept hB2,HO.out.2.trans (hB2.mono HO.out.2.size)⟩;clear hp0 HO hB2;have pY:=aA w2 (.cells #[.int .i64 (n)] 2);have yY:=ae (ak (ma.out.1.kept pY) (ma.out.2.trans (pY.mono ma.out.2.size)));have Dl:=gp w2 (n);have Vb:=ma.out.2.size;clear pY;go_wp2_with(at_builtin;refine bU _ rfl _ _ rfl w.heap.size _ _ _ _ rfl yY.out.1 w2.heap.size 0 1 1 [n] rfl rfl Dl.out (by omega) (by simp;omega) ?_;intro g3 c3 N3 w3 G8 ho3 qJ;have uT:=ae (ak ho3 (aN yY.out.2 qJ (Nat.le_refl _)));have hg3:=ho3.lt;have iT:=hcb w3;rw[hb]at iT;clear ho3 qJ hb yY Dl;have Ie:=G8.out;clear G8;subst Ie);refine iT.mono ?_;rintro e w4 ⟨rfl,hB4⟩;dsimp only;have jy:=ae (ak (uT.out.1.kept hB4) (uT.out.2.trans (hB4.mono uT.out.2.size)));clear iT hB4;have hcon:=eT w.heap.size g3 (0+1) c3 _ w4 jy.out.1 jy.out.2.size (by omega);go_wp2_with fail;refine hcon.mono ?_;rintro e w6 ⟨m6,rfl,si,gJ⟩;dsimp only;have HF:Hid (OG w6 w.heap.size g3 m6 _ N/\Below w.heap.size w w6):=⟨by rw[←HN.out];exact si,aN jy.out.2 gJ (hg3.1)⟩;clear hcon si gJ;go_wp2;go_ret;exact⟨g3,m6,_,rfl,HF.out.1,HF.out.2⟩};rw[hb]at HN;clear hg;go_enter Tryz.func50,Tryz.ntmps50;go_wp2_with fail;refine hp0.mono ?_;rintro e w2 ⟨rfl,hB2⟩;dsimp only;have ma:Hid (OG w2 w.heap.size w.heap.size 0 0 []/\Below w.heap.size w w2):=⟨HO.out.1.kept hB2,HO.out.2.trans (hB2.mono HO.out.2.size)⟩;clear hp0 HO hB2;have pY:=aA w2 (.cells #[.int .i64 (n)] 2);have yY:=ae (ak (ma.out.1.kept pY) (ma.out.2.trans (pY.mono ma.out.2.size)));have Dl:=gp w2 (n);have Vb:=ma.out.2.size;clear pY;go_wp2_with(at_builtin;refine bU _ rfl _ _ rfl w.heap.size _ _ _ _ rfl yY.out.1 w2.heap.size 0 1 1 [n] rfl rfl Dl.out (by omega) (by simp;omega) ?_;intro g3 c3 N3 w3 G8 ho3 qJ;have uT:=ae (ak ho3 (aN yY.out.2 qJ (Nat.le_refl _)));have hg3:=ho3.lt;have iT:=hcb w3;rw[hb]at iT;clear ho3 qJ hb yY Dl;have Ie:=G8.out;clear G8;subst Ie);refine iT.mono ?_;rintro e w4 ⟨rfl,hB4⟩;dsimp only;have jy:=ae (ak (uT.out.1.kept hB4) (uT.out.2.trans (hB4.mono uT.out.2.size)));clear iT hB4;have pX:=aA w4 (.cells #[.int .i64 ((p:Int)+1)] 2);have yX:=ae (ak (jy.out.1.kept pX) (jy.out.2.trans (pX.mono jy.out.2.size)));have Dj:=gp w4 ((p:Int)+1);have Va:=jy.out.2.size;clear pX;go_wp2_with(at_builtin;refine bU _ rfl _ _ rfl w.heap.size _ _ _ _ rfl yX.out.1 w4.heap.size 0 1 1 [(p:Int)+1] rfl rfl Dj.out (by omega) (by simp;omega) ?_;intro g5 c5 N5 w5 Dk iU hgr5;have Ib:=ae (ak iU (aN yX.out.2 hgr5 (hg3.1)));have hg5:=iU.lt;clear iU hgr5 yX Dj;have Ic:=Dk.out;clear Dk;subst Ic;have hcon:=eT w.heap.size g5 _ c5 _ w5 Ib.out.1 Ib.out.2.size (by omega));refine hcon.mono ?_;rintro e w6 ⟨m6,rfl,si,gJ⟩;dsimp only;have HF:Hid (OG w6 w.heap.size g5 m6 _ N/\Below w.heap.size w w6):=⟨by rw[←HN.out];exact si,aN Ib.out.2 gJ (hg5.1)⟩;clear hcon si gJ;go_wp2;go_ret;exact⟨g5,m6,_,rfl,HF.out.1,HF.out.2⟩
def SR (w W:World)(n₀ g k c:Nat)(xs:List Ln):Prop:=
 ∃dW:List Value,dW.length=k/\W.ownsRow n₀ 46 1 (.slice (some ⟨g,0,none⟩) k c) k dW/\∀j,j<k->∃la ln lc,dW.getD j undef=bq (xs.getD j .z) (.slice la ln lc)/\IL w la ln (xs.getD j .z).l
theorem oq:(Tryz.prog.info? 46).map (fun i=>(i.zero,i.size,i.bytes))=some (some .nilIface,1,16):=by kernel_rfl
theorem SR.lt {w W:World}{n₀ g k c:Nat}{xs:List Ln}(h:SR w W n₀ g k c xs):n₀<=g/\g<W.heap.size:=by obtain⟨dW,-,h,-⟩:=h;exact World.ownsRow.lt h g rfl
theorem SR.kept {w W W':World}{n₀ g k c:Nat}{xs:List Ln}(h:SR w W n₀ g k c xs)(hB:Below W.heap.size W W'):SR w W' n₀ g k c xs:=by obtain⟨dW,h1,h2,h3⟩:=h;exact⟨dW,h1,aM h2 hB,h3⟩
theorem SR.cell {w W:World}{n₀ g k c:Nat}{xs:List Ln}(h:SR w W n₀ g k c xs){j:Nat}(hj:j<k):∃la ln lc,W.cell? ⟨g,j,none⟩=some (bq (xs.getD j .z) (.slice la ln lc))/\IL w la ln (xs.getD j .z).l:=by obtain⟨dW,h1,h2,h3⟩:=h;obtain⟨la,ln,lc,e,hi⟩:=h3 j hj;refine⟨la,ln,lc,?_,hi⟩;have:=World.ownsRow.cellAt h2 j (by omega);rw[←e];rw[ah,ai (by omega)];rw[this];simp
theorem SR.cut {w W:World}{n₀ g k c m:Nat}{xs:List Ln}(h:SR w W n₀ g k c (xs.take m))(hk:k<=m):SR w W n₀ g k c xs:=by obtain⟨dW,h1,h2,h3⟩:=h;refine⟨dW,h1,h2,fun j hj=>?_⟩;obtain⟨la,ln,lc,e,hi⟩:=h3 j hj;have e2:(xs.take m).getD j .z=xs.getD j .z:=by{rw[ah,ah,List.getElem?_take_of_lt (by omega)]};rw[e2]at e hi;exact⟨la,ln,lc,e,hi⟩
theorem Az {ops:Array Oper}{rest:List Oper}{o:Oper}{a:Act}{Q:Exit->Act->World->Prop}(W w:World)(hgd:o.guard=none)(s x:Operand)(ho:o.op= .call {callee:= .builtin .append,args:=#[s,x],argTypes:=#[42,42]})(n₀ g k c:Nat)(xs:List Ln)(hs:a.eval s= .slice (some ⟨g,0,none⟩) k c)(hown:SR w W n₀ g k c xs)(hxl:xs.length=k)(sb:Nat)(hx:a.eval x= .slice (some ⟨sb,0,none⟩) 1 1)(y:Ln)(la:Option Addr)(ln lc:Nat)(T:TypeId)(u:Value)(hv:bq y (.slice la ln lc)= .iface T u)(hcell:W.cell? ⟨sb,0,none⟩=some (.iface T u))(hil:IL w la ln y.l)(hsz:k<=1000000)(hbase:n₀<=W.heap.size)(h:∀g' c' N W',Hid (N=k+1)->SR w W' n₀ g' N c' (xs++[y])->W.grownBy W' (some g)->wpList Tryz.prog ops Q rest (a.put o.dst (.slice (some ⟨g',0,none⟩) N c')) W'):wpList Tryz.prog ops Q (o::rest) a W:=by obtain⟨i0,hi,hz0,hz1,hz2⟩:=info_parts oq;obtain⟨dW,h1,h2,h3⟩:=hown;refine wpList_append_own W hgd s x 42 ho n₀ 46 i0 .nilIface 1 16 Tryz.underlying42 hi hz0 hz1 hz2 rfl (by decide) _ k dW hs h2 ⟨sb,0,none⟩ 1 1 [.iface T u] hx rfl (fun j u' hu=>?_) (fun u' hu=>?_) (by simp only[maxLen];omega) (by omega) hbase (fun v' W' hown' hgrow hnn=>?_);{rcases j with _|j;{simp only[List.getElem?_cons_zero,af]at hu;rw[←hu];(have hadd:(⟨sb,0,none⟩:Addr).add 0=⟨sb,0,none⟩:=by unfold Addr.add;split<;>simp_all);rw[hadd];exact hcell};simp at hu};{rw[List.mem_singleton]at hu;rw[hu];rfl};rcases hown'.2 with⟨rfl,h0⟩|⟨g',cap',cur,rfl,r⟩;{exact absurd (hnn.1 rfl).1 (fun e=>by cases e)};refine h g' cap' (k+1) W' rfl ⟨dW++[.iface T u],by simp[h1],hown',fun j hj=>?_⟩ hgrow;by_cases hjk:j<k;{obtain⟨la',OY,II,e,hi'⟩:=h3 j hjk;refine⟨la',OY,II,?_,?_⟩;{rw[ah,List.getElem?_append_left (by omega),←ah,e,ah,ah,List.getElem?_append_left (by omega)]};rw[ah,List.getElem?_append_left (by omega),←ah];exact hi'};have e:j=k:=by{omega};subst e;have e1:(dW++[Value.iface T u]).getD j undef= .iface T u:=by{rw[ah,List.getElem?_append_right (by omega),h1];simp};have e2:(xs++[y]).getD j .z=y:=by{rw[ah,List.getElem?_append_right (by omega),hxl];simp};rw[e1,e2];exact⟨la,ln,lc,hv.symm,hil⟩
namespace Ln
theorem AQ {ls:List Ln}{i:Nat}(hi:i<ls.length):ls.take i++[ls.getD i z]=ls.take (i+1):=by rw[List.take_add_one,ai hi,ah,ai hi];simp
theorem yu {x:Ln}{m:Nat}(h:ok x=true):gD m x=place m x:=by unfold gD;rw[h,Bool.true_and];have hk:=bO h;obtain⟨k,d,a,b,n,l⟩:=x;rcases kinds hk.1 hk.2 with e|e|e|e|e|e|e|e|e|e|e<;>simp only at e<;>subst e;(case inr.inr.inr.inr.inl=>have h0:0<=n:=by{unfold ok at h;simp[asks,Wd.cK]at h;omega};rw[Bool.eq_iff_iff];simp[place,gy,Wd.cK];omega);(case inr.inr.inr.inr.inr.inl=>have h0:0<=n:=by{unfold ok at h;simp[asks,Wd.cK]at h;omega};rw[Bool.eq_iff_iff];simp[place,gy,Wd.cK];omega);all_goals simp[place,gy]
theorem vS (ls:List Ln):jv ls= !behind (ls.getD (ls.length-1) z):=by unfold jv behind;generalize(ls.getD (ls.length-1) z).k=k;by_cases h5:k=5<;>by_cases h10:k=10<;>by_cases h11:k=11<;>simp[h5,h10,h11]
theorem D6 {ls:List Ln}(h:1<=ls.length/\ls.length<=300):isOk ls=(ls.all (gD ls.length)&&jv ls):=by unfold isOk;rw[decide_eq_true h,Bool.true_and]
end Ln
theorem dF (a:Option Addr)(len cap:Nat)(ls:List Ln)(w:World)(hs:LL w a len ls):Calls Tryz.prog 33 #[.slice a len cap] w fun e w'=>(Ln.isOk ls=false/\e= .returned (.tuple #[.slice none 0 0, .bool false])\/Ln.isOk ls=true/\∃g c,e= .returned (.tuple #[.slice (some ⟨g,0,none⟩) len c, .bool true])/\SR w w' w.heap.size g len c ls)/\Below w.heap.size w w':=by
 have hl:=hs.1
 have hm:=hs.2.1
 unfold maxLen at hm
 have hcon:=bF (len:Int) 1 300 w
 by_cases hin:1<=len/\len<=300
 rotate_left
 · have e:Wd.cK (len:Int) 1 300=false:=by{unfold Wd.cK;simp;omega};have HN:Hid (Ln.isOk ls=false):=Ln.tZ (by omega);rw[e]at hcon;clear e hs hl hin;go_enter Tryz.func33,Tryz.ntmps33;go_wp2_with(go_at_call 49;refine hcon.mono ?_;rintro e w' ⟨rfl,aQ⟩;subst w';dsimp only);go_ret2;exact⟨.inl ⟨HN.out,rfl⟩,Below.refl _ _⟩
 have e:Wd.cK (len:Int) 1 300=true:=by unfold Wd.cK;simp;omega
 rw[e]at hcon
 clear e
 have G6:(1:Int)<=(len:Int):=by omega
 have VU:(len:Int)<=300:=by omega
 obtain⟨i0,hi,hz0,hz1,hz2⟩:=info_parts oq
 obtain⟨wm,hmk,hown,hgrow⟩:=run_make_own (P:=Tryz.prog) w w.heap.size 42 46 i0 _ 1 Tryz.underlying42 hi hz0 hz1 .i64 .i64 len (by rw[hz2];omega) (by simp only[maxLen];omega) (Nat.le_refl _)
 have HB0:=ae (jY hgrow)
 have Bp:Hid (SR w wm w.heap.size w.heap.size 0 len (ls.take 0)):=⟨[],rfl,hown,fun j hj=>by omega⟩
 have HL:=ae hl
 obtain⟨R,hR⟩:∃R,Ln.isOk ls=R:=⟨_,rfl⟩
 have HR:Hid (R=(ls.all (Ln.gD len)&&Ln.jv ls)):=by show _=_;rw[←hR,Ln.D6 (by omega),hl]
 rw[hR]
 obtain⟨-,-,h0|⟨b,off,rfl,hb,hx⟩⟩:=hs
 · omega
 have HX:Hid (∀j,j<len->LC w b (off+j*6) (ls.getD j .z)):=hx
 clear hx hR hown hgrow hl hin
 go_enter Tryz.func33,Tryz.ntmps33
 go_wp2_with(go_at_call 49;refine hcon.mono ?_;rintro e w' ⟨rfl,aQ⟩;subst w';dsimp only)
 go_loopw [5,18] (fun vs vi wr=>∃k g c:Nat,vs= .slice (some ⟨g,0,none⟩) k c/\vi= .int .i64 k/\k<=len/\Hid ((ls.take k).all (Ln.gD len)=true)/\SR w wr w.heap.size g k c (ls.take k)/\Below w.heap.size w wr) (fun _ i _=>len-(intOf i).toNat)
 case atStart=>exact⟨0,_,len,rfl,rfl,Nat.zero_le _,(by show _=_;simp),Bp.out,HB0.out⟩
 case round=>
  obtain⟨k,g,c,rfl,rfl,hk,HA,iy,hB⟩:=hrel
  clear hcon hmk Bp HB0
  by_cases hlt:k<len
  · have bP:(k:Int)<(len:Int):=by omega
    have hb':b<wr.heap.size:=aj hb hB.size
    have PW:=HX.out k hlt
    have hc:=PW.kept hb hB
    have iy:=ae iy
    obtain⟨x,fV⟩:∃x,ls.getD k .z=x:=⟨_,rfl⟩
    rw[fV]at hc PW
    have Br:=ae fV
    clear fV
    obtain⟨c0,c1,c2,c3,c4,la,ln,lc,c5,hil⟩:=hc
    have ZN:Hid (IL w la ln x.l):=by obtain⟨-,-,-,-,-,la',OY,II,ZO,Vd⟩:=PW;have e:=(hB.cell (p:=⟨b,off+k*6+5,none⟩) hb).trans ZO;rw[c5]at e;cases e;exact Vd
    have hB1:=aA wr (.cells #[.int .i64 x.k, .int .i64 x.d, .int .i64 x.a, .int .i64 x.b, .int .i64 x.n, .slice la ln lc] 29)
    have hcon:=dX x la ln lc _ (hil.kept hB1)
    have hB2:=hB.trans (hB1.mono hB.size)
    clear hil PW
    rcases hok:Ln.ok x with _|_
    · rw[sw hok]at hcon;have HF:Hid (R=false):=by{show _=_;rw[HR.out,Ln.lU (by rw[HL.out];exact hlt) (by rw[Br.out];simp[Ln.gD,hok])];rfl};go_wp2_with fail;refine hcon.mono ?_;rintro e w2 ⟨rfl,hB3⟩;dsimp only;have hB4:=hB2.trans (hB3.mono hB2.size);clear hcon c0 c1 c2 c3 c4 c5 hB1 hB2 hB3;go_wp2;go_ret2;exact⟨.inl ⟨HF.out,rfl⟩,hB4⟩
    · have hkk:=Ln.bO hok
      have hpl:=lN x hkk.1 hkk.2 la ln lc (len:Int) (by omega) (by omega)
      obtain⟨T,u,FU⟩:=ry hok la ln lc
      have esh:bq x (.slice la ln lc)= .iface T u:=by rw[←uL hok,FU]
      have ZP:=ae esh
      rw[FU]at hcon
      simp only[esh]at hpl
      have hnil:=CO T u
      have HO:=ae (Ln.yu (m:=len) hok)
      obtain⟨PL,Ve⟩:∃PL,Ln.place len x=PL:=⟨_,rfl⟩
      simp only[Ve]at hpl
      rw[Ve]at HO
      clear hok FU esh Ve hkk
      cases PL with
      |false=>
       have HF:Hid (R=false):=by show _=_;rw[HR.out,Ln.lU (by rw[HL.out];exact hlt) (by rw[Br.out];exact HO.out)];rfl
       go_wp2_with fail
       refine hcon.mono ?_
       rintro e w2 ⟨rfl,hB3⟩
       dsimp only
       have hB4:=hB2.trans (hB3.mono hB2.size)
       have aU:=hpl w2
       clear hcon c0 c1 c2 c3 c4 c5 hB1 hB2 hB3 hpl
       go_wp2_with(go_at_call 63;refine aU.mono ?_;rintro e w3 ⟨rfl,bG⟩;dsimp only;have bB:=hB4.trans (bG.mono hB4.size);clear hB4 bG)
       go_ret2
       exact⟨.inl ⟨HF.out,rfl⟩,bB⟩
      |true=>
       have HF:Hid ((ls.take (k+1)).all (Ln.gD len)=true):=by show _=_;rw[Ln.o9 HA.out (by rw[HL.out];exact hlt),Br.out];exact HO.out
       go_wp2_with fail
       refine hcon.mono ?_
       rintro e w2 ⟨rfl,hB3⟩
       dsimp only
       have hB4:=hB2.trans (hB3.mono hB2.size)
       have yV:=hB1.trans (hB3.mono hB1.size)
       have aU:=hpl w2
       clear hcon c0 c1 c2 c3 c4 c5 hB1 hB2 hB3 hpl
       have ZQ:Hid ((ls.take k).length=k):=by show _=_;rw[List.length_take,HL.out];omega
       have Xr:=ae (Ln.AQ (ls:=ls) (i:=k) (by rw[HL.out];exact hlt))
       rw[Br.out]at Xr
       have hg0:=iy.out.lt
       go_wp2_with(first
         |(go_at_call 63;refine aU.mono ?_;rintro e w3 ⟨rfl,bG⟩;dsimp only;have bB:=hB4.trans (bG.mono hB4.size);have OZ:=yV.trans (bG.mono yV.size);have Xt:=ae (aA w3 (.cells #[.iface T u] 46));have Q4:=ae (bB.trans (Xt.out.mono bB.size));have ZR:=ae ((iy.out.kept OZ).kept Xt.out);have hc3:Hid ((w3.alloc (.cells #[.iface T u] 46)).cell? ⟨w3.heap.size,0,none⟩=some (.iface T u)):=(by show _=_;rw[World.cell?_alloc_at _ _ _ _ (by simp)];rfl);have G9:=bB.size;clear hB4 bG yV OZ)
         |(at_builtin;refine Az _ w rfl _ _ rfl w.heap.size g k c (ls.take k) rfl ZR.out ZQ.out w3.heap.size rfl x la ln lc T u ZP.out hc3.out ZN.out (by omega) (by simp;omega) ?_;intro g1 c1 N1 w4 hN1 ho1 lV;have Bu:=ae (ak ho1 (aN Q4.out lV hg0.1));clear ho1 lV))
       rw[Xr.out]at Bu
       have hN:=hN1.out
       clear hN1
       subst hN
       go_roundw
       case rel=>exact⟨k+1,g1,c1,rfl,by simp,hlt,HF,Bu.out.1,Bu.out.2⟩
       case measure=>simp[intOf];omega
  · have hke:k=len:=by{omega};have FV:Hid (R= !Ln.behind (ls.getD (len-1) .z)):=by{show _=_;have:=HA.out;rw[hke,←HL.out,List.take_length]at this;rw[HR.out,←HL.out,this,Bool.true_and,Ln.vS]};have bP:¬(k:Int)<(len:Int):=by{omega};have EO:Hid (Ln.ok (ls.getD (len-1) .z)=true):=by{show _=_;have h2:=HA.out;rw[hke,←HL.out,List.take_length,List.all_eq_true]at h2;have h3:=h2 (ls.getD (len-1) .z) (by rw[ah,ai (by rw[HL.out];omega)];exact List.getElem_mem _);unfold Ln.gD at h3;rw[au]at h3;exact h3.1};rw[hke]at iy;have Dm:=iy.cut (Nat.le_refl _);obtain⟨la,ln,lc,hc,hil⟩:=Dm.cell (j:=len-1) (by omega);have Vf:=ae Dm;obtain⟨x,fV⟩:∃x,ls.getD (len-1) .z=x:=⟨_,rfl⟩;rw[fV]at hc hil FV EO;have hkk:=Ln.bO EO.out;have hcon:=fK x hkk.1 hkk.2 la ln lc wr;have hg:=Dm.lt;subst hke;have hwZ:(k:Int)-1=((k-1:Nat):Int):=by{omega};generalize bq x (.slice la ln lc)=sv at hc hcon;rcases yZ:Ln.behind x with _|_;{rw[yZ]at hcon FV;clear yZ hkk hil fV iy Dm HA EO;go_wp2_with(go_at_call 52;refine hcon.mono ?_;rintro e w5 ⟨rfl,bG⟩;dsimp only);go_ret2;exact⟨.inr ⟨FV.out,g,c,rfl,Vf.out.kept bG⟩,hB.trans (bG.mono hB.size)⟩};rw[yZ]at hcon FV;clear yZ hkk hil fV iy Dm HA EO;go_wp2_with(go_at_call 52;refine hcon.mono ?_;rintro e w5 ⟨rfl,bG⟩;dsimp only);go_ret2;exact⟨.inl ⟨FV.out,rfl⟩,hB.trans (bG.mono hB.size)⟩
namespace Fl
def mR (n:Nat)(x:Ln)(i:Nat)(o:List Int):List Int:=
 (o++(if Ln.gy x=true then[x.n]else[]))++(if i+1<n/\(Ln.gy x=true\/Ln.behind x=false)then[(i:Int)+1]else[])
def jr (ls:List Ln):Nat->List Int
 |0=>[0]
 |k+1=>mR ls.length (ls.getD k .z) k (jr ls k)
theorem wR (l r:List Int):Ln.bY (l++r)=r.foldl Ln.put (Ln.bY l):=by simp[Ln.bY]
theorem zW (n:Nat)(x:Ln)(i:Nat)(o:List Int):Ln.bY (mR n x i o)=lead n x i (Ln.bY o):=by obtain⟨k,d,a,b,m,l⟩:=x;unfold mR lead;rw[wR,wR];by_cases h5:k=5\/k=6;{have e1:Ln.gy ⟨k,d,a,b,m,l⟩=true:=decide_eq_true h5;rw[e1,ay rfl,ay h5];by_cases h:i+1<n;{rw[ay ⟨h, .inl rfl⟩,ay h];rfl};rw[ax (fun h2=>h h2.1),ax h];rfl};have e1:Ln.gy ⟨k,d,a,b,m,l⟩=false:=decide_eq_false h5;rw[e1,ax (by decide),ax h5];by_cases h10:k=10\/k=11;{have e2:Ln.behind ⟨k,d,a,b,m,l⟩=false:=by{unfold Ln.behind;rw[decide_eq_true (by simp only;omega)];rfl};rw[e2,ay h10];by_cases h:i+1<n;{rw[ay ⟨h, .inr rfl⟩,ay h];rfl};rw[ax (fun h2=>h h2.1),ax h];rfl};have e2:Ln.behind ⟨k,d,a,b,m,l⟩=true:=by{unfold Ln.behind;rw[decide_eq_false (by simp only;omega)];rfl};rw[e2,ax h10,ax (fun h2=>by rcases h2.2 with h3|h3<;>cases h3)];rfl
theorem rJ (ls:List Ln):∀k,Ln.bY (jr ls k)=dw ls k
 |0=>rfl
 | k+1=>by
   show Ln.bY (mR _ _ _ _)=lead _ _ _ _
   rw[zW,rJ ls k]
theorem vZ (ls:List Ln):∀k,(jr ls k).length<=2*k+1
 |0=>by simp[jr]
 | k+1=>by
   have ih:=vZ ls k
   show(mR _ _ _ _).length<=_
   unfold mR
   simp only[List.length_append]
   repeat' split
   all_goals simp<;>omega
end Fl
theorem yz (a:Option Addr)(len cap:Nat)(ls:List Ln)(p:Int)(w:World)(hs:LL w a len ls):Calls Tryz.prog 22 #[.slice a len cap, .int .i64 p] w fun e w'=>∃g m c,e= .returned (.slice (some ⟨g,0,none⟩) m c)/\OG w' w.heap.size g m c (Fl.bZ ls p)/\Below w.heap.size w w':=by
 have hcon:=dF a len cap ls w hs
 have HL:=ae hs.1
 have no:∀(h:Fl.has ls p=false),Fl.bZ ls p=[]:=fun h=>by unfold Fl.bZ;rw[ax (by rw[h];decide)]
 have NO:=ae no
 have HD:Hid (Fl.has ls p=(Ln.isOk ls&&decide (0<=p/\p<(ls.length:Int)))):=rfl
 have PX:∀n:Nat,Wd.cK p 0 ((n:Int)-1)=decide (0<=p/\p<(n:Int)):=fun n=>by unfold Wd.cK;rw[Bool.eq_iff_iff];simp;omega
 clear hs no
 go_enter Tryz.func22,Tryz.ntmps22
 go_wp2_with fail
 refine hcon.mono ?_
 rintro e w2 ⟨⟨hR,rfl⟩|⟨hR,g1,c1,rfl,iy⟩,hB2⟩
 · dsimp only;have hno:Hid (Fl.bZ ls p=[]):=NO.out (by rw[HD.out,hR];rfl);have hh:=bF p 0 (-1) w2;have e0:Wd.cK p 0 (-1)=false:=by{unfold Wd.cK;simp;omega};rw[e0]at hh;have ho:=OG.empty w2 w.heap.size hB2.size;have hBx:=hB2.trans ((aA w2 (.cells #[] 2)).mono hB2.size);have HF:=ae (ak ho hBx);clear hcon hR e0 ho hBx hB2 PX;go_wp2_with(go_at_call 49;refine hh.mono ?_;rintro e w4 ⟨rfl,hw4⟩;subst w4;dsimp only);go_ret;exact⟨_,0,0,rfl,by rw[hno.out];exact HF.out.1,HF.out.2⟩
 · dsimp only
   have hlen:=Ln.bI hR
   have hh:=bF p 0 ((len:Int)-1) w2
   rw[PX len]at hh
   have rZ:(len:Int)<=300:=by have:=HL.out;omega
   by_cases hp:0<=p/\p<(len:Int)
   · rw[decide_eq_true hp]at hh
     obtain⟨q,rfl⟩:=Int.eq_ofNat_of_zero_le hp.1
     have IV:(q:Int)<(len:Int):=hp.2
     have hq:q<len:=by omega
     have HV:Hid (Fl.bZ ls (q:Int)=Fl.nx (ls.getD q .z) q):=by show _=_;unfold Fl.bZ;rw[ay (by rw[HD.out,hR,HL.out,decide_eq_true hp];rfl),az]
     obtain⟨la,ln,lc,hc,hil⟩:=iy.cell hq
     have hk:=Ln.bO (Ln.dY hR (i:=q) (by rw[HL.out];exact hq))
     have hnx:=ll (ls.getD q .z) hk.1 hk.2 la ln lc q (by omega) w2
     generalize bq (ls.getD q .z) (.slice la ln lc)=sv at hc hnx
     have HB:=ae hB2
     clear hcon hR hB2 iy hp hlen hil hk PX
     go_wp2_with(first
       |(go_at_call 49;refine hh.mono ?_;rintro e w4 ⟨rfl,hw4⟩;subst w4;dsimp only)
       |(go_at_call 50;refine hnx.mono ?_;rintro e w5 ⟨g5,m5,c5,rfl,iU,bG⟩;dsimp only;have HF:=ae (ak (iU.mono HB.out.size) (HB.out.trans (bG.mono HB.out.size)));clear iU bG))
     go_ret
     exact⟨g5,m5,c5,rfl,by rw[HV.out];exact HF.out.1,HF.out.2⟩
   · rw[decide_eq_false hp]at hh;have hno:Hid (Fl.bZ ls p=[]):=NO.out (by rw[HD.out,HL.out,decide_eq_false hp,Bool.and_false]);have ho:=OG.empty w2 w.heap.size hB2.size;have hBx:=hB2.trans ((aA w2 (.cells #[] 2)).mono hB2.size);have HF:=ae (ak ho hBx);clear hcon hR ho hBx hB2 iy hp hlen PX;go_wp2_with(go_at_call 49;refine hh.mono ?_;rintro e w4 ⟨rfl,hw4⟩;subst w4;dsimp only);go_ret;exact⟨_,0,0,rfl,by rw[hno.out];exact HF.out.1,HF.out.2⟩
theorem SR.Eg {w W W':World}{n₀ g k c b:Nat}{xs:List Ln}(h:SR w W n₀ g k c xs)(hg:W.grownBy W' (some b))(hne:g≠b):SR w W' n₀ g k c xs:=by obtain⟨dW,h1,h2,h3⟩:=h;refine⟨dW,h1,h2.kept hg (.inr ?_),h3⟩;simp only[Value.ownBlock,ne_eq,af];omega
theorem SR.apart {w W:World}{n₀ g k c n₁ g' m c':Nat}{xs:List Ln}{ys:List Int}(h:SR w W n₀ g k c xs)(h':OG W n₁ g' m c' ys):g≠g':=by obtain⟨dW,h1,h2,h3⟩:=h;intro e;subst e;rcases h2.2 with⟨e,-⟩|⟨g2,cap2,ZT,e,-,hb,-⟩;{cases e};rcases h'.2.2 with⟨e',-⟩|⟨g3,ZU,ZV,e',-,hb',-⟩;{cases e'};cases e;cases e';rw[hb]at hb';injection hb' with hb';injection hb' with _ ht;exact absurd ht (by decide)
theorem uE (a:Option Addr) (len cap:Nat) (ls:List Ln) (w:World) (hs:LL w a len ls):Calls Tryz.prog 23 #[.slice a len cap] w fun e w'=>∃g m c,e= .returned (.slice (some ⟨g,0,none⟩) m c)/\OG w' w.heap.size g m c (Fl.aY ls)/\Below w.heap.size w w':=by
 have hcon:=dF a len cap ls w hs
 have HL:=ae hs.1
 clear hs
 go_enter Tryz.func23,Tryz.ntmps23
 go_wp2_with fail
 refine hcon.mono ?_
 rintro e w2 ⟨⟨hR,rfl⟩|⟨hR,g1,c1,rfl,iy⟩,hB2⟩
 · dsimp only;have hno:Hid (Fl.aY ls=[]):=by{show _=_;unfold Fl.aY;rw[ax (by rw[hR];decide)]};have ho:=OG.empty w2 w.heap.size hB2.size;have hBx:=hB2.trans ((aA w2 (.cells #[] 2)).mono hB2.size);have HF:=ae (ak ho hBx);clear hcon hR ho hBx hB2;go_wp2;go_ret;exact⟨_,0,0,rfl,by rw[hno.out];exact HF.out.1,HF.out.2⟩
 dsimp only
 have hlen:=Ln.bI hR
 rw[HL.out]at hlen
 have rZ:(len:Int)<=300:=by omega
 have hl1:(1:Int)<=(len:Int):=by omega
 have iV:=ae hR
 have HV:Hid (Fl.aY ls=Ln.bY (Fl.jr ls len)):=by show _=_;rw[Fl.rJ];unfold Fl.aY;rw[ay hR,HL.out]
 have hal:=aA w2 (.cells #[.int .i64 0] 2)
 have HX0:=ae (ak (OG.one w2 w.heap.size hB2.size 0) (ak (iy.kept hal) (hB2.trans (hal.mono hB2.size))))
 obtain⟨W3,hW3⟩:∃W3,w2.alloc (.cells #[.int .i64 0] 2)=W3:=⟨_,rfl⟩
 rw[hW3]at HX0
 clear hcon hR hlen iy hB2 hal
 go_wp2
 go_loopg [5,22] len (fun gk vo vi wr=>∃k g m c:Nat,gk=len-k/\k<=len/\vo= .slice (some ⟨g,0,none⟩) m c/\vi= .int .i64 (k:Int)/\OG wr w.heap.size g m c (Fl.jr ls k)/\SR w wr w.heap.size g1 len c1 ls/\Below w.heap.size w wr)
 case atStart=>exact⟨0,_,1,1,rfl,by omega,rfl,rfl,HX0.out.1,HX0.out.2.1,HX0.out.2.2⟩
 case round =>
  obtain⟨k,g,m,c,Bq,hk,rfl,rfl,hog,iy,hBw⟩:=hrel
  have hm:m<=601:=by have:=Fl.vZ ls k;rw[hog.1]at this;omega
  have hwz:=hBw.size
  by_cases hlt:k<len
  · have bP:(k:Int)<(len:Int):=by omega
    obtain⟨la,ln,lc,hc,hil⟩:=iy.cell hlt
    have hkk:=Ln.bO (Ln.dY iV.out (i:=k) (by rw[HL.out];exact hlt))
    have hpt:=ik (ls.getD k .z) hkk.1 hkk.2 la ln lc wr
    have hcb:=fun W=>fK (ls.getD k .z) hkk.1 hkk.2 la ln lc W
    have Dn:Hid (Fl.jr ls (k+1)=Fl.mR len (ls.getD k .z) k (Fl.jr ls k)):=by show Fl.mR ls.length _ _ _=_;rw[HL.out]
    have HX:=ae (ak hog (ak iy hBw))
    generalize bq (ls.getD k .z) (.slice la ln lc)=sv at hc hpt hcb
    generalize ls.getD k .z=x at hpt hcb Dn
    clear hog iy hBw hil hkk
    obtain⟨n,IW⟩:∃n,x.n=n:=⟨_,rfl⟩
    rw[IW]at hpt
    rcases hgo:Ln.gy x with _|_
    · rw[hgo]at hpt
      by_cases hn1:k+1<len
      · have Ig:(k:Int)+1<(len:Int):=by omega
        rcases yZ:Ln.behind x with _|_
        · rw[yZ]at hcb
          have HN:Hid (Fl.jr ls (k+1)=Fl.jr ls k++[(k:Int)+1]):=by show _=_;rw[Dn.out];unfold Fl.mR;rw[IW,hgo,yZ];rw[ax (by decide),ay ⟨hn1, .inr rfl⟩,List.append_nil]
          clear Dn hgo yZ
          go_wp2_with fail
          refine hpt.mono ?_
          rintro e w4 ⟨rfl,hB4⟩
          dsimp only
          have mg:=ae (ak (HX.out.1.kept hB4) (ak (HX.out.2.1.kept hB4) (HX.out.2.2.trans (hB4.mono HX.out.2.2.size))))
          have Hw:=mg.out.2.2.size
          clear hpt HX hB4
          have Ih:=hcb w4
          go_wp2_with(first
            |(go_at_call 52;refine Ih.mono ?_;rintro e w5 ⟨rfl,bG⟩;dsimp only;have qK:=ae (ak (mg.out.1.kept bG) (ak (mg.out.2.1.kept bG) (mg.out.2.2.trans (bG.mono mg.out.2.2.size))));have Hq:=qK.out.2.2.size;clear bG;have uW:=aA w5 (.cells #[.int .i64 ((k:Int)+1)] 2);have Bi:=ae (ak (qK.out.1.kept uW) (ak (qK.out.2.1.kept uW) (qK.out.2.2.trans (uW.mono qK.out.2.2.size))));have Vg:=gp w5 ((k:Int)+1);clear uW)
            |(at_builtin;refine bU _ rfl _ _ rfl w.heap.size _ _ _ _ rfl Bi.out.1 w5.heap.size 0 1 1 [(k:Int)+1] rfl rfl Vg.out (by omega) (by simp;omega) ?_;intro g6 c6 N6 x6 O0 si gJ;have Ii:=ae (ak si (ak (Bi.out.2.1.Eg gJ (Bi.out.2.1.apart Bi.out.1)) (aN Bi.out.2.2 gJ Bi.out.1.lt.1)));have Ij:=O0.out;clear si gJ O0;subst Ij))
          go_roundg (len-(k+1))
          case measure=>omega
          case rel=>exact⟨k+1,g6,_,c6,rfl,hlt,rfl,by simp,by rw[HN.out];exact Ii.out.1,Ii.out.2.1,Ii.out.2.2⟩
        · rw[yZ]at hcb;have HN:Hid (Fl.jr ls (k+1)=Fl.jr ls k):=by{show _=_;rw[Dn.out];unfold Fl.mR;rw[IW,hgo,yZ];rw[ax (by decide),ax (fun h2=>by rcases h2.2 with h3|h3<;>cases h3),List.append_nil,List.append_nil]};clear Dn hgo yZ;go_wp2_with fail;refine hpt.mono ?_;rintro e w4 ⟨rfl,hB4⟩;dsimp only;have mg:=ae (ak (HX.out.1.kept hB4) (ak (HX.out.2.1.kept hB4) (HX.out.2.2.trans (hB4.mono HX.out.2.2.size))));have Hw:=mg.out.2.2.size;clear hpt HX hB4;have Ih:=hcb w4;go_wp2_with(go_at_call 52;refine Ih.mono ?_;rintro e w5 ⟨rfl,bG⟩;dsimp only;have qK:=ae (ak (mg.out.1.kept bG) (ak (mg.out.2.1.kept bG) (mg.out.2.2.trans (bG.mono mg.out.2.2.size))));have Hq:=qK.out.2.2.size;clear bG);go_roundg (len-(k+1));(case measure=>omega);case rel=>exact⟨k+1,g,m,c,rfl,hlt,rfl,by simp,by rw[HN.out];exact qK.out.1,qK.out.2.1,qK.out.2.2⟩
      · have Ig:¬((k:Int)+1<(len:Int)):=by{omega};have HN:Hid (Fl.jr ls (k+1)=Fl.jr ls k):=by{show _=_;rw[Dn.out];unfold Fl.mR;rw[IW,hgo];rw[ax (by decide),ax (fun h2=>hn1 h2.1),List.append_nil,List.append_nil]};clear Dn hgo;go_wp2_with fail;refine hpt.mono ?_;rintro e w4 ⟨rfl,hB4⟩;dsimp only;have mg:=ae (ak (HX.out.1.kept hB4) (ak (HX.out.2.1.kept hB4) (HX.out.2.2.trans (hB4.mono HX.out.2.2.size))));have Hw:=mg.out.2.2.size;clear hpt HX hB4;go_wp2;go_roundg (len-(k+1));(case measure=>omega);case rel=>exact⟨k+1,g,m,c,rfl,hlt,rfl,by simp,by rw[HN.out];exact mg.out.1,mg.out.2.1,mg.out.2.2⟩
    · rw[hgo]at hpt
      by_cases hn1:k+1<len
      · have Ig:(k:Int)+1<(len:Int):=by omega
        have HN:Hid (Fl.jr ls (k+1)=Fl.jr ls k++[n]++[(k:Int)+1]):=by show _=_;rw[Dn.out];unfold Fl.mR;rw[IW,hgo];rw[ay rfl,ay ⟨hn1, .inl rfl⟩]
        clear Dn hgo
        go_wp2_with fail
        refine hpt.mono ?_
        rintro e w4 ⟨rfl,hB4⟩
        dsimp only
        have mg:=ae (ak (HX.out.1.kept hB4) (ak (HX.out.2.1.kept hB4) (HX.out.2.2.trans (hB4.mono HX.out.2.2.size))))
        have Hw:=mg.out.2.2.size
        clear hpt HX hB4
        have uX:=aA w4 (.cells #[.int .i64 (n)] 2)
        have Bj:=ae (ak (mg.out.1.kept uX) (ak (mg.out.2.1.kept uX) (mg.out.2.2.trans (uX.mono mg.out.2.2.size))))
        have Vh:=gp w4 (n)
        clear uX
        go_wp2_with(first
          |(at_builtin;refine bU _ rfl _ _ rfl w.heap.size _ _ _ _ rfl Bi.out.1 x5.heap.size 0 1 1 [(k:Int)+1] rfl rfl Vg.out (by omega) (by simp;omega) ?_;intro g6 c6 N6 x6 O0 si gJ;have Ii:=ae (ak si (ak (Bi.out.2.1.Eg gJ (Bi.out.2.1.apart Bi.out.1)) (aN Bi.out.2.2 gJ Bi.out.1.lt.1)));have Ij:=O0.out;clear si gJ O0;subst Ij)
          |(at_builtin;refine bU _ rfl _ _ rfl w.heap.size _ _ _ _ rfl Bj.out.1 w4.heap.size 0 1 1 [n] rfl rfl Vh.out (by omega) (by simp;omega) ?_;intro g5 c5 N5 x5 Dk iU hgr5;have qK:=ae (ak iU (ak (Bj.out.2.1.Eg hgr5 (Bj.out.2.1.apart Bj.out.1)) (aN Bj.out.2.2 hgr5 Bj.out.1.lt.1)));have Hq:=qK.out.2.2.size;have Ik:=Dk.out;clear iU hgr5 Dk;subst Ik;have uW:=aA x5 (.cells #[.int .i64 ((k:Int)+1)] 2);have Bi:=ae (ak (qK.out.1.kept uW) (ak (qK.out.2.1.kept uW) (qK.out.2.2.trans (uW.mono qK.out.2.2.size))));have Vg:=gp x5 ((k:Int)+1);clear uW))
        go_roundg (len-(k+1))
        case measure=>omega
        case rel=>exact⟨k+1,g6,_,c6,rfl,hlt,rfl,by simp,by rw[HN.out];exact Ii.out.1,Ii.out.2.1,Ii.out.2.2⟩
      · have Ig:¬((k:Int)+1<(len:Int)):=by{omega};have HN:Hid (Fl.jr ls (k+1)=Fl.jr ls k++[n]):=by{show _=_;rw[Dn.out];unfold Fl.mR;rw[IW,hgo];rw[ay rfl,ax (fun h2=>hn1 h2.1),List.append_nil]};clear Dn hgo;go_wp2_with fail;refine hpt.mono ?_;rintro e w4 ⟨rfl,hB4⟩;dsimp only;have mg:=ae (ak (HX.out.1.kept hB4) (ak (HX.out.2.1.kept hB4) (HX.out.2.2.trans (hB4.mono HX.out.2.2.size))));have Hw:=mg.out.2.2.size;clear hpt HX hB4;have uX:=aA w4 (.cells #[.int .i64 (n)] 2);have Bj:=ae (ak (mg.out.1.kept uX) (ak (mg.out.2.1.kept uX) (mg.out.2.2.trans (uX.mono mg.out.2.2.size))));have Vh:=gp w4 (n);clear uX;go_wp2_with(at_builtin;refine bU _ rfl _ _ rfl w.heap.size _ _ _ _ rfl Bj.out.1 w4.heap.size 0 1 1 [n] rfl rfl Vh.out (by omega) (by simp;omega) ?_;intro g5 c5 N5 x5 Dk iU hgr5;have qK:=ae (ak iU (ak (Bj.out.2.1.Eg hgr5 (Bj.out.2.1.apart Bj.out.1)) (aN Bj.out.2.2 hgr5 Bj.out.1.lt.1)));have Hq:=qK.out.2.2.size;have Ik:=Dk.out;clear iU hgr5 Dk;subst Ik);go_roundg (len-(k+1));(case measure=>omega);case rel=>exact⟨k+1,g5,_,c5,rfl,hlt,rfl,by simp,by rw[HN.out];exact qK.out.1,qK.out.2.1,qK.out.2.2⟩
  · have hke:k=len:=by{omega};subst hke;have bP:¬(k:Int)<(k:Int):=by{omega};have ZW:=eT w.heap.size g m c (Fl.jr ls k) wr hog hwz (by omega);have HX:=ae hBw;have hgl:=hog.lt.1;clear hog iy hBw;go_wp2_with(go_at_call 37;refine ZW.mono ?_;rintro e w6 ⟨m6,rfl,si,gJ⟩;dsimp only;have HF:=ae (ak si (aN HX.out gJ hgl));clear si gJ);go_ret;exact⟨g,m6,c,rfl,by rw[HV.out];exact HF.out.1,HF.out.2⟩
section
open Go.RowKit
namespace Fl
def hs (l:List Int)(n:Int):Bool:=l.any fun y=>decide (y=n)
theorem mi {l:List Int}{n:Int}:hs l n=true↔n∈l:=by unfold hs;rw[List.any_eq_true];simp
theorem tY (m:Nat){b:Nat}(hb:b<40):hs (Bn m) (b:Int)=m.testBit b:=by rw[Bool.eq_iff_iff,mi];unfold Bn;rw[uK];simp;omega
theorem GQ {x:Ln}(hok:Ln.ok x=true)(b:Nat):(um x).testBit b=hs (Ln.us x) (b:Int):=by unfold um;rw[xO,Bool.eq_iff_iff,List.any_eq_true,mi];constructor;{rintro⟨y,hy,e⟩;have:=Ln.oN hok y hy;simp only[decide_eq_true_eq]at e;have e2:y=(b:Int):=by{omega};rw[←e2];exact hy};intro h;exact⟨_,h,by simp⟩
theorem Gx {x:Ln}(hok:Ln.ok x=true)(b:Nat):(sm x).testBit b=decide (Ln.st x=(b:Int)):=by have h:=Ln.pF hok;unfold sm;split;{rw[Nat.testBit_two_pow];rw[Bool.eq_iff_iff];simp;omega};rw[Nat.zero_testBit];symm;rw[decide_eq_false_iff_not];omega
theorem ru {ls:List Ln}(hok:Ln.isOk ls=true){p:Nat}(hp:p<ls.length):aV ls (p:Int)=Bn ((live ls).getD p 0):=by unfold aV has;rw[hok,ay (by rw[decide_eq_true (by omega)];rfl),az]
theorem pG {ls:List Ln}(hok:Ln.isOk ls=true){p:Nat}(hp:p<ls.length):bJ ls (p:Int)=Bn (ou ls (live ls) p):=by unfold bJ has;rw[hok,ay (by rw[decide_eq_true (by omega)];rfl),az]
theorem Aw {ls:List Ln}(hok:Ln.isOk ls=true){p:Nat}(hp:p<ls.length){b:Nat}(hb:b<40):hs (aV ls (p:Int)) (b:Int)=(hs (Ln.iL (ls.getD p .z)) (b:Int)||(hs (bJ ls (p:Int)) (b:Int)&&decide (Ln.ji (ls.getD p .z)≠(b:Int)))):=by have hx:=Ln.dY hok hp;rw[ru hok hp,pG hok hp,tY _ hb,tY _ hb,←vL hok p hp];unfold jE;rw[Nat.testBit_or,mW,GQ hx,Gx hx];have e1:Ln.iL (ls.getD p .z)=Ln.us (ls.getD p .z):=by{unfold Ln.iL;rw[ay hx]};have e2:Ln.ji (ls.getD p .z)=Ln.st (ls.getD p .z):=by{unfold Ln.ji;rw[ay hx]};rw[e1,e2,decide_not]
theorem CP {ls:List Ln}(hok:Ln.isOk ls=true){p:Nat}(hp:p<ls.length){b:Nat}(hb:b<40):hs (bJ ls (p:Int)) (b:Int)=(bZ ls (p:Int)).any fun j=>hs (aV ls j) (b:Int):=by have e:bZ ls (p:Int)=nx (ls.getD p .z) p:=by{unfold bZ has;rw[hok,ay (by rw[decide_eq_true (by omega)];rfl),az]};rw[pG hok hp,tY _ hb,e];unfold ou;rw[yD,Bool.eq_iff_iff,List.any_eq_true,List.any_eq_true];have h:∀j,j∈nx (ls.getD p .z) p->hs (aV ls j) (b:Int)=((live ls).getD j.toNat 0).testBit b:=fun j hj=>by{have h2:=rG hok hp j hj;obtain⟨q,rfl⟩:=Int.eq_ofNat_of_zero_le h2.1;rw[ru hok (by omega),tY _ hb,az]};constructor;{rintro⟨j,hj,e⟩;exact⟨j,hj,by rw[h j hj];exact e⟩};rintro⟨j,hj,e⟩;exact⟨j,hj,by rw[←h j hj];exact e⟩
theorem jJ {f:Int->Bool}{l:List Int}{k:Nat}(hk:k<l.length):(l.take (k+1)).any f=((l.take k).any f||f (l.getD k 0)):=by rw[List.take_add_one,ai hk,ah,ai hk];simp only[Option.toList_some,Option.getD_some,List.any_append,List.any_cons,List.any_nil,Bool.or_false]
end Fl
end
namespace Fl
theorem Jl {l:List Int}{n:Int}:hs l n=false↔∀j,j<l.length->l.getD j 0≠n:=by rw[Bool.eq_false_iff,ne_eq,mi];constructor;{intro h j hj e;exact h (e▸jL hj)};intro h hm;obtain⟨j,hj,e⟩:=List.getElem_of_mem hm;refine h j hj ?_;rw[ah,ai hj];exact e
theorem Ao {n:Nat}{x:Ln}{i:Nat}{o:List Int}(h:jD o):jD (lead n x i o):=by unfold lead;(repeat' split);{exact fE (fE h)};{exact fE h};{exact fE h};{exact h};exact h
theorem o6 (ls:List Ln):∀k,jD (dw ls k)
 |0=>List.pairwise_singleton _ _
 |k+1=>Ao (o6 ls k)
theorem lD (ls:List Ln):jD (aY ls):=by unfold aY;split;{exact o6 _ _};exact List.Pairwise.nil
theorem DL (x:Ln)(i:Nat):jD (nx x i):=by unfold nx;(repeat' split);{exact List.pairwise_singleton _ _};{exact fE (List.pairwise_singleton _ _)};{exact List.Pairwise.nil};exact List.pairwise_singleton _ _
theorem yC (ls:List Ln)(p:Int):jD (bZ ls p):=by unfold bZ;split;{exact DL _ _};exact List.Pairwise.nil
theorem lC (m:Nat):∀k,jD (nL m k)
 |0=>List.Pairwise.nil
 | k +1=>by
   unfold nL
   split
   · refine List.pairwise_append.2 ⟨lC m k,List.pairwise_singleton _ _,fun a ha b hb=>?_⟩
     rw[List.mem_singleton]at hb
     subst hb
     exact((uK m a k).1 ha).2.1
   · exact lC m k
theorem wT (ls:List Ln)(p:Int):jD (aV ls p):=by unfold aV;split;{exact lC _ _};exact List.Pairwise.nil
theorem tJ (ls:List Ln)(p:Int):jD (bJ ls p):=by unfold bJ;split;{exact lC _ _};exact List.Pairwise.nil
theorem BP {n:Nat}{x:Ln}{i:Nat}{o:List Int}{y:Int}:y∈lead n x i o↔y∈o\/((x.k=5\/x.k=6)/\y=x.n)\/((x.k=5\/x.k=6\/x.k=10\/x.k=11)/\i+1<n/\y=(i:Int)+1):=by unfold lead;split;{rename_i h;split;{rename_i h2;rw[dO,dO];constructor;{rintro(e|e|e);{exact .inr (.inr ⟨by omega,h2,e⟩)};{exact .inr (.inl ⟨h,e⟩)};exact .inl e};rintro(e|⟨-,e⟩|⟨-,-,e⟩);{exact .inr (.inr e)};{exact .inr (.inl e)};exact .inl e};rename_i h2;rw[dO];constructor;{rintro(e|e);{exact .inr (.inl ⟨h,e⟩)};exact .inl e};rintro(e|⟨-,e⟩|⟨-,h3,-⟩);{exact .inr e};{exact .inl e};exact absurd h3 h2};rename_i h;split;{rename_i h10;split;{rename_i h2;rw[dO];constructor;{rintro(e|e);{exact .inr (.inr ⟨by omega,h2,e⟩)};exact .inl e};rintro(e|⟨h3,-⟩|⟨-,-,e⟩);{exact .inr e};{exact absurd h3 h};exact .inl e};rename_i h2;constructor;{exact fun e=> .inl e};rintro(e|⟨h3,-⟩|⟨-,h3,-⟩);{exact e};{exact absurd h3 h};exact absurd h3 h2};rename_i h10;constructor;{exact fun e=> .inl e};rintro(e|⟨h3,-⟩|⟨h3,-⟩);{exact e};{exact absurd h3 h};omega
theorem ja {ls:List Ln}{y:Int}:∀k,y∈dw ls k↔y=0\/∃i,i<k/\((((ls.getD i .z).k=5\/(ls.getD i .z).k=6)/\y=(ls.getD i .z).n)\/(((ls.getD i .z).k=5\/(ls.getD i .z).k=6\/(ls.getD i .z).k=10\/(ls.getD i .z).k=11)/\i+1<ls.length/\y=(i:Int)+1))
 |0=>by simp[dw]
 | k + 1 =>by
   show y∈lead ls.length (ls.getD k .z) k (dw ls k)↔_
   rw[BP,ja k]
   constructor
   · rintro((h|⟨i,hi,h⟩)|h)
     · exact .inl h
     · exact .inr ⟨i,by omega,h⟩
     · exact .inr ⟨k,by omega,h⟩
   · rintro(h|⟨i,hi,h⟩)
     · exact .inl (.inl h)
     · by_cases e:i=k
       · subst e
         exact .inr h
       · exact .inl (.inr ⟨i,by omega,h⟩)
theorem Aa {ls:List Ln}(hok:Ln.isOk ls=true){i:Nat}(hi:i<ls.length){y:Int}(hy:y∈nx (ls.getD i .z) i)(h:y≠(i:Int)+1\/(nx (ls.getD i .z) i).length=2):y∈aY ls:=by have hy2:=rG hok hi y hy;unfold aY;rw[ay hok,ja];unfold nx at hy h;right;refine⟨i,hi,?_⟩;split at hy;{rename_i h5;rw[List.mem_singleton]at hy;exact .inl ⟨.inl h5,hy⟩};rename_i h5;rw[ax h5]at h;split at hy;{rename_i h6;rcases CK.1 hy with e|e;{exact .inr ⟨.inr (.inl h6),by omega,e⟩};exact .inl ⟨.inr h6,e⟩};rename_i h6;rw[ax h6]at h;split at hy;{simp at hy};rename_i h10;rw[ax h10]at h;rw[List.mem_singleton]at hy;rcases h with h|h;{exact absurd hy h};simp at h
theorem zS {ls:List Ln}(hok:Ln.isOk ls=true){i:Nat}(hi:i+1<ls.length)(h:(nx (ls.getD i .z) i).length=0):((i:Int)+1)∈aY ls:=by unfold aY;rw[ay hok,ja];right;refine⟨i,by omega, .inr ⟨?_,hi,rfl⟩⟩;unfold nx at h;split at h;{simp at h};split at h;{rename_i h6;exact .inr (.inl h6)};split at h;{rename_i h10;omega};simp at h
theorem qo {ls:List Ln}(hok:Ln.isOk ls=true):(aY ls).getD 0 0=0/\0<(aY ls).length/\∀y∈aY ls,0<=y/\y<(ls.length:Int):=by have hlen:=Ln.bI hok;have hm:∀y∈aY ls,0<=y/\y<(ls.length:Int):=by{intro y hy;unfold aY at hy;rw[ay hok,ja]at hy;rcases hy with h|⟨i,hi,⟨h,e⟩|⟨h,h2,e⟩⟩;{omega};{have:=zf hok hi h;omega};omega};have h0:(0:Int)∈aY ls:=by{unfold aY;rw[ay hok,ja];exact .inl rfl};have hr:=lD ls;generalize aY ls=L at hm h0 hr;rcases L with _|⟨x,r⟩;{simp at h0};refine⟨?_,by simp,hm⟩;have h1:=List.pairwise_cons.1 hr;rcases List.mem_cons.1 h0 with e|e;{exact e.symm};have h2:=h1.1 0 e;have h3:=hm x (by simp);omega
end Fl
theorem fD (a:Option Addr)(len cap:Nat)(xs:List Int)(n:Int)(w:World)(hs:IL w a len xs):Calls Tryz.prog 26 #[.slice a len cap, .int .i64 n] w fun e w'=>e= .returned (.bool (Fl.hs xs n))/\w'=w:=by obtain⟨hl,hm,hrow⟩:=hs;have HL:=ae hl;unfold maxLen at hm;have HR:Hid ((∃j,j<len/\xs.getD j 0=n)->Fl.hs xs n=true):=fun⟨j,hj,e⟩=>by{rw[Fl.mi,←e];exact Fl.jL (by omega)};have HN:Hid ((∀j,j<len->xs.getD j 0≠n)->Fl.hs xs n=false):=fun h=>by{rw[Fl.Jl];intro j hj;exact h j (by omega)};clear hl;obtain⟨R,hR⟩:∃R,Fl.hs xs n=R:=⟨_,rfl⟩;rw[hR]at HR HN ⊢;clear hR;go_enter Tryz.func26,Tryz.ntmps26;go_wp2;go_loopg [5] len (fun gk vi wr=>∃k:Nat,gk=len-k/\k<=len/\vi= .int .i64 (k:Int)/\Hid (∀j,j<k->xs.getD j 0≠n)/\w=wr);(case atStart=>exact⟨0,rfl,by omega,rfl,(fun j hj=>by omega),rfl⟩);case round=>obtain⟨k,Bq,hk,rfl,HK,aQ⟩:=hrel;subst aQ;by_cases hlt:k<len;{have bP:(k:Int)<(len:Int):=by{omega};obtain h0|⟨lb,lo,rfl,hlb,hcc⟩:=hrow;{omega};have hc:=hcc k hlt;by_cases e:xs.getD k 0=n;{have HE:Hid (R=true):=HR.out ⟨k,hlt,e⟩;rw[e]at hc;have hq:(n==n)=true:=by{simp};clear hcc e;go_wp2;go_ret;exact⟨by rw[HE.out]<;>rfl,rfl⟩};have ZX:Hid (∀j,j<k+1->xs.getD j 0≠n):=fun j hj=>by{by_cases h:j<k;{exact HK.out j h};obtain rfl:j=k:=by{omega};exact e};obtain⟨y,hy⟩:∃y,xs.getD k 0=y:=⟨_,rfl⟩;rw[hy]at hc e;have hq:(y==n)=false:=by{simpa using e};clear hcc hy;go_wp2;go_roundg (len-(k+1));(case measure=>omega);case rel=>exact⟨k+1,rfl,hlt,by simp,ZX,rfl⟩};have HE:Hid (R=false):=HN.out fun j hj=>HK.out j (by omega);have bP:¬(k:Int)<(len:Int):=by{omega};go_wp2;go_ret;exact⟨by rw[HE.out]<;>rfl,rfl⟩
namespace Ln
theorem dO {z n:Int}:∀{xs:List Int},z∈put xs n↔z=n\/z∈xs
 |[]=>by simp[put]
 | x ::r=>by
   unfold put
   split
   · rw[List.mem_cons,dO,List.mem_cons]
     constructor
     · rintro(h|h|h)
       · exact .inr (.inl h)
       · exact .inl h
       · exact .inr (.inr h)
     · rintro(h|h|h)
       · exact .inr (.inl h)
       · exact .inl h
       · exact .inr (.inr h)
   · split
     · have e:x=n:=by assumption
       rw[List.mem_cons,e]
       constructor
       · exact fun h=> .inr h
       · rintro(h|h)
         · exact .inl h
         · exact h
     · exact List.mem_cons
theorem fC {z:Int}(l:List Int):∀(acc:List Int),z∈l.foldl put acc↔z∈l\/z∈acc:=by
 induction l with
 |nil=>intro acc;simp
 |cons x r ih=>
  intro acc
  rw[List.foldl_cons,ih,dO,List.mem_cons]
  constructor
  · rintro(h|h|h);{exact .inl (.inr h)};{exact .inl (.inl h)};exact .inr h
  · rintro((h|h)|h);{exact .inr (.inl h)};{exact .inl h};exact .inr (.inr h)
theorem Cq {x:Ln}(h:ok x=true)(z:Int):z∈us x↔z∈rd x:=by have hk:=bO h;obtain⟨k,d,a,b,n,l⟩:=x;have hl:k≠7->l=[]:=fun h7=>by{unfold ok at h;simp[h7]at h;exact h.1};rcases kinds hk.1 hk.2 with e|e|e|e|e|e|e|e|e|e|e<;>simp only at e<;>subst e;{rw[hl (by decide)];exact Iff.rfl};{exact Iff.rfl};{show z∈put [a] b↔z∈[a,b];rw[dO];simp only[List.mem_cons,List.not_mem_nil,or_false];exact or_comm};{exact Iff.rfl};{rw[hl (by decide)];exact Iff.rfl};{exact Iff.rfl};{show z∈bY l↔z∈l;unfold bY;rw[fC];simp};{exact Iff.rfl};{show z∈put [a] b↔z∈[b,a];rw[dO];simp only[List.mem_cons,List.not_mem_nil,or_false]};{exact Iff.rfl};rw[hl (by decide)];exact Iff.rfl
def fm (n:Int)(l:List Int):Int:=l.foldl (fun n y=>mx n (y+1)) n
theorem zl (l:List Int):∀n,n<=fm n l/\(∀y∈l,y+1<=fm n l)/\(fm n l=n\/∃y∈l,fm n l=y+1):=by
 induction l with
 |nil=>intro n;exact⟨Int.le_refl _,by simp, .inl rfl⟩
 |cons x r ih=>
  intro n
  obtain⟨h1,h2,h3⟩:=ih (mx n (x+1))
  have e:fm n (x::r)=fm (mx n (x+1)) r:=rfl
  rw[e]
  have hm:n<=mx n (x+1)/\x+1<=mx n (x+1)/\(mx n (x+1)=n\/mx n (x+1)=x+1):=by unfold mx;split<;>omega
  refine⟨by omega,fun y hy=>?_,?_⟩
  · rcases List.mem_cons.1 hy with rfl|hy;{omega};exact h2 y hy
  · rcases h3 with h3|⟨y,hy,h3⟩;{rcases hm.2.2 with h4|h4;{exact .inl (by omega)};exact .inr ⟨x,by simp,by omega⟩};exact .inr ⟨y,by simp[hy],h3⟩
theorem ze {l l':List Int}(h:∀y,y∈l↔y∈l')(n:Int):fm n l=fm n l':=by obtain⟨a1,a2,a3⟩:=zl l n;obtain⟨b1,b2,b3⟩:=zl l' n;have h1:fm n l<=fm n l':=by{rcases a3 with a3|⟨y,hy,a3⟩;{omega};have:=b2 y ((h y).1 hy);omega};have h2:fm n l'<=fm n l:=by{rcases b3 with b3|⟨y,hy,b3⟩;{omega};have:=a2 y ((h y).2 hy);omega};omega
theorem z8 {x:Ln}{n:Int}(hn:0<=n)(h:ok x=true):most n x=fm n (told x):=by have e:most n x=fm n (st x::us x):=rfl;rw[e];rcases hw:qY x with _|_;{have hs:st x=-1:=by{unfold qY at hw;simp only[decide_eq_false_iff_not]at hw;unfold st;rw[ax hw]};have e2:fm n (st x::us x)=fm n (us x):=by{show fm (mx n (st x+1)) (us x)=_;rw[hs,show mx n (-1+1)=n by unfold mx;split<;>omega]};rw[e2];refine ze (fun y=>?_) n;rw[Cq h,told,hw];simp};have hs:st x=x.d:=by{unfold qY at hw;simp only[decide_eq_true_eq]at hw;unfold st;rw[ay hw]};refine ze (fun y=>?_) n;rw[List.mem_cons,Cq h,told,hw,hs];simp only[if_true,List.mem_append,List.mem_singleton];exact or_comm
theorem DD (l:List Int)(n:Int){i:Nat}(hi:i<l.length):fm n (l.take (i+1))=mx (fm n (l.take i)) (l.getD i 0+1):=jm l n hi
theorem Er {x:Ln}(h:ok x=true):∀y∈told x,0<=y/\y<=39:=by rw[←jS]at h;unfold right at h;simp only[au,List.all_eq_true]at h;exact fun y hy=>yN.1 (h.2.2.2.1 y hy)
end Ln
theorem sK (a:Option Addr)(len cap:Nat)(ls:List Ln)(w:World)(hs:LL w a len ls):Calls Tryz.prog 12 #[.slice a len cap] w fun e w'=>e= .returned (.bool (Ln.isOk ls))/\Below w.heap.size w w':=by have hcon:=dF a len cap ls w hs;clear hs;go_enter Tryz.func12,Tryz.ntmps12;go_wp2_with fail;refine hcon.mono ?_;rintro e w2 ⟨⟨hR,rfl⟩|⟨hR,g,c,rfl,iy⟩,hB⟩;{dsimp only;replace hR:=ae hR;clear hcon;go_wp2;go_ret;exact⟨by rw[hR.out]<;>rfl,hB⟩};dsimp only;replace hR:=ae hR;clear hcon iy;go_wp2;go_ret;exact⟨by rw[hR.out]<;>rfl,hB⟩
theorem yw (a:Option Addr)(len cap:Nat)(ls:List Ln)(w:World)(hs:LL w a len ls):Calls Tryz.prog 8 #[.slice a len cap] w fun e w'=>e= .returned (.int .i64 (Ln.boxes ls))/\Below w.heap.size w w':=by have hcon:=dF a len cap ls w hs;have hl:=hs.1;clear hs;rcases hok:Ln.isOk ls with _|_;{have e:Ln.boxes ls=0:=by{unfold Ln.boxes;rw[ax (by rw[hok];decide)]};rw[e];go_enter Tryz.func8,Tryz.ntmps8;go_wp2_with fail;refine hcon.mono ?_;rintro e w2 ⟨⟨hR,rfl⟩|⟨hR,g,c,rfl,iy⟩,hB⟩;{dsimp only;clear hcon hok e hR hl;go_wp2;go_loopw [5,17] (fun vn vi wr=>vn= .int .i64 0/\vi= .int .i64 0/\wr=w2) (fun _ _ _=>0);(case atStart=>exact⟨rfl,rfl,rfl⟩);case round=>obtain⟨rfl,rfl,rfl⟩:=hrel;go_wp2;go_ret;exact⟨rfl,hB⟩};rw[hok]at hR;cases hR};have hlen:=Ln.bI hok;obtain⟨R,hR⟩:∃R,Ln.boxes ls=R:=⟨_,rfl⟩;rw[hR];have HR:Hid (R=Ln.bE ls):=by{show _=_;rw[←hR];unfold Ln.boxes;rw[ay hok]};have HL:=ae hl;have iV:Hid (∀i,i<len->Ln.ok (ls.getD i .z)=true):=fun i hi=>Ln.dY hok (by omega);have HM:Hid (∀i,0<=Ln.bE (ls.take i)/\Ln.bE (ls.take i)<=40):=fun i=>Ln.kS fun x hx=>by{have hx2:=List.mem_of_mem_take hx;obtain⟨j,hj,rfl⟩:=List.getElem_of_mem hx2;have:=Ln.dY hok hj;rwa [ah,ai hj]at this};have rZ:(len:Int)<=300:=by{omega};have Xu:=ae hok;clear hR hok hl hlen;go_enter Tryz.func8,Tryz.ntmps8;go_wp2_with fail;refine hcon.mono ?_;rintro e w2 ⟨⟨hR,rfl⟩|⟨hR,g,c,rfl,iy⟩,hB2⟩;{have:=Xu.out;rw[hR]at this;cases this};dsimp only;clear hcon hR Xu;have Vf:=ae iy;have hg:=iy.lt;clear iy;go_wp2;go_loopw [5,17] (fun vn vi wr=>∃(k:Nat)(n:Int),vn= .int .i64 n/\vi= .int .i64 k/\k<=len/\Hid (n=Ln.bE (ls.take k))/\Below w2.heap.size w2 wr) (fun _ i _=>len-(intOf i).toNat);(case atStart=>exact⟨0,0,rfl,rfl,Nat.zero_le _,(by show _=_;simp[Ln.bE]),Below.refl _ _⟩);case round=>obtain⟨k,n,rfl,rfl,hk,HN,hB⟩:=hrel;by_cases hlt:k<len;{have bP:(k:Int)<(len:Int):=by{omega};have hok:=iV.out k hlt;have uV:=HM.out k;rw[←HN.out]at uV;obtain⟨la,ln,lc,hc,hil⟩:=Vf.out.cell hlt;have hc2:=(hB.cell (p:=⟨g,k,none⟩) hg.2).trans hc;obtain⟨x,fV⟩:∃x,ls.getD k .z=x:=⟨_,rfl⟩;rw[fV]at hc2 hok hil;have Br:=ae fV;have hkk:=Ln.bO hok;have h3:=Ln.ig hok;have nT:=hil.kept (hB2.trans (hB.mono hB2.size));have hrs:(Ln.rd x).length<=1000:=by{have h:=hok;rw[←Ln.jS]at h;unfold Ln.right at h;simp only[au]at h;exact Ln.lT h.2.2.1};have hcon:=jG x hkk.1 hkk.2 la ln lc wr nT (fun _=>by have:=hil.1;omega) hrs;have ZY:=ae (Ln.Er hok);have ZZ:=ae (Ln.z8 (n:=n) uV.1 hok);generalize bq x (.slice la ln lc)=sv at hcon hc2;clear fV hc hil nT hkk h3 hrs;go_wp2_with fail;refine hcon.mono ?_;rintro e w5 ⟨g5,m,c5,rfl,hog,bG⟩;dsimp only;have bB:=hB.trans (bG.mono hB.size);have HL2:=ae hog.1;have Xq:m<=9223372036854775807:=by{have:=hog.cap;unfold maxLen at this;omega};have HC:Hid (∀j,j<m->w5.cell? ⟨g5,j,none⟩=some (.int .i64 ((Ln.told x).getD j 0))):=fun j hj=>hog.cell hj;have hg5:=hog.lt;clear hcon hog hB bG hc2;go_wp2;go_loopw [5,24] (fun vn vi wq=>∃(j:Nat)(q:Int),vn= .int .i64 q/\vi= .int .i64 j/\j<=m/\Hid (q=Ln.fm n ((Ln.told x).take j))/\(0<=q/\q<=40)/\w5=wq) (fun _ i _=>m-(intOf i).toNat);(case atStart=>exact⟨0,n,rfl,rfl,Nat.zero_le _,(by show _=_;simp[Ln.fm]),uV,rfl⟩);case round=>obtain⟨j,q,rfl,rfl,hj,HQ,hq,aQ⟩:=hrel;subst aQ;by_cases hjm:j<m;{have Bo:(j:Int)<(m:Int):=by{omega};have hc:=HC.out j hjm;have hy:0<=(Ln.told x).getD j 0/\(Ln.told x).getD j 0<=39:=by{refine ZY.out _ ?_;have hjl:j<(Ln.told x).length:=by{rw[HL2.out];exact hjm};rw[ah,ai hjl];exact List.getElem_mem hjl};have r9:=ae (Ln.DD (Ln.told x) n (i:=j) (by rw[HL2.out];exact hjm));rw[←HQ.out]at r9;obtain⟨y,iK⟩:∃y,(Ln.told x).getD j 0=y:=⟨_,rfl⟩;rw[iK]at hc hy r9;have nU:=Ln.nC hq (show 0<=y+1/\y+1<=40 by omega);clear iK;(have Z0:Hid (max q (y+1)=Ln.mx q (y+1)):=by show _=_;unfold Ln.mx;split<;>omega);go_wp2;go_roundw;(case rel=>exact⟨j+1,Ln.mx q (y+1),by rw[Z0.out],by simp,hjm,(by show _=_;rw[r9.out]),nU,by simp⟩);case measure=>simp[intOf];omega};have Di:j=m:=by{omega};have Ia:Hid (q=Ln.bE (ls.take (k+1))):=by{show _=_;rw[Ln.gM (by rw[HL.out];exact hlt),Br.out,HQ.out,Di,←HL2.out,List.take_length,←HN.out,ZZ.out]};have Bo:¬(j:Int)<(m:Int):=by{omega};clear HQ Di HC;go_wp2;go_roundw;(case rel=>exact⟨k+1,q,rfl,by simp,hlt,Ia,bB⟩);case measure=>simp[intOf];omega};have hke:k=len:=by{omega};have HF:Hid (n=R):=by{show _=_;rw[HN.out,HR.out,hke,←HL.out,List.take_length]};clear HN;have bP:¬(k:Int)<(len:Int):=by{omega};clear hke;go_wp2;go_ret;exact⟨by rw[←HF.out]<;>rfl,hB2.trans (hB.mono hB2.size)⟩
def nz (f:List Nat):List Int:=f.map fun x:Nat=>(x:Int)
theorem oP (f:List Nat):(nz f).length=f.length:=by simp[nz]
theorem zq (f:List Nat)(i:Nat):(nz f).getD i 0=((f.getD i 0:Nat):Int):=by unfold nz;rw[ah,ah,List.getElem?_map];rcases f[i]? with _|x<;>rfl
theorem Cr (f:List Nat)(i x:Nat):nz (f.set i x)=(nz f).set i (x:Int):=by unfold nz;rw[List.map_set]
theorem VE (n:Int)(h0:0<=n)(h1:n<2 ^ 40):IntKind.i64.wrap n=n:=by rw[IntKind.wrap_i64];omega
theorem Gd {n m:Nat}(hn:n<2 ^ 40)(hm:m<2 ^ 40):bits .or .i64 n m=((n|||m:Nat):Int):=(bits_nat .i64 40 (by decide) VE n m hn hm).2
theorem ni (a:Option Addr)(len cap:Nat)(ls:List Ln)(hok:Ln.isOk ls=true)(p:Nat)(hp:p<len)(f:List Nat)(hf:∀i,f.getD i 0<2 ^ 40)(n₀ g c:Nat)(w:World)(hs:LL w a len ls)(ho:OG w n₀ g len c (nz f)):Calls Tryz.prog 62 #[.slice a len cap, .slice (some ⟨g,0,none⟩) len c, .int .i64 (p:Int)] w fun e w'=>e= .returned (.int .i64 ((Fl.ou ls f p:Nat):Int))/\Below w.heap.size w w':=by have hl:=hs.1;have hlen:=Ln.bI hok;have hcon:=kK a len cap ls p hp (by omega) w hs;have HN:=ae (Fl.rG hok (p:=p) (by omega));rw[hl]at HN hlen;have Ba:=ho.lt;have hcap:=ho.cap;have HO:=ae ho;have HF:=ae hf;have HR:Hid (Fl.ou ls f p=Fl.js f (Fl.nx (ls.getD p .z) p)):=rfl;obtain⟨R,hR⟩:∃R,Fl.ou ls f p=R:=⟨_,rfl⟩;rw[hR]at HR ⊢;generalize Fl.nx (ls.getD p .z) p=N at hcon HN HR;have rZ:(len:Int)<=300:=by{omega};have H6:(p:Int)<(len:Int):=by{omega};clear hs ho hf hl hR hlen;go_enter Tryz.func62,Tryz.ntmps62;go_wp2_with fail;refine hcon.mono ?_;rintro e w2 ⟨gn,mn,cn,rfl,hon,hB2⟩;dsimp only;have hgn:=hon.lt;have hcn:=hon.cap;have Dp:=ae hon.1;have HC:Hid (∀j,j<mn->w2.cell? ⟨gn,j,none⟩=some (.int .i64 (N.getD j 0))):=fun j hj=>hon.cell hj;have HI:Hid (∀j,j<len->w2.cell? ⟨g,j,none⟩=some (.int .i64 ((f.getD j 0:Nat):Int))):=fun j hj=>by{rw[←zq];exact(HO.out.kept hB2).cell hj};clear hcon hon;have hmx:mn<=9223372036854775807:=by{unfold maxLen at hcn;omega};go_wp2;go_loopw [7,9] (fun vx vi wr=>∃(k:Nat)(q:Nat),vx= .int .i64 (q:Int)/\vi= .int .i64 (k:Int)/\k<=mn/\Hid (q=Fl.js f (N.take k))/\w2=wr) (fun _ i _=>mn-(intOf i).toNat);(case atStart=>exact⟨0,0,rfl,rfl,Nat.zero_le _,(by show _=_;simp[Fl.js]),rfl⟩);case round=>obtain⟨k,q,rfl,rfl,hk,HQ,aQ⟩:=hrel;subst aQ;by_cases hlt:k<mn;{have bP:(k:Int)<(mn:Int):=by{omega};have hc:=HC.out k hlt;have hkl:k<N.length:=by{rw[Dp.out];exact hlt};have hj:=HN.out (N.getD k 0) (by rw[ah,ai hkl];exact List.getElem_mem hkl);have HS:=ae (Fl.zi (f:=f) hkl);rw[←HQ.out]at HS;have EM:Hid (q<2 ^ 40):=by{show _<_;rw[HQ.out];exact Fl.oO HF.out _};obtain⟨y,hy⟩:∃y,N.getD k 0=y:=⟨_,rfl⟩;rw[hy]at hc hj HS;clear hy hkl;obtain⟨j,rfl⟩:=Int.eq_ofNat_of_zero_le hj.1;rw[az]at HS;have hjl:j<len:=by{omega};have Bo:(j:Int)<(len:Int):=hj.2;have hi:=HI.out j hjl;have HZ:=ae (HF.out j);obtain⟨z,hz⟩:∃z,f.getD j 0=z:=⟨_,rfl⟩;rw[hz]at hi HS HZ;have hor:bits .or .i64 (q:Int) (z:Int)=((q|||z:Nat):Int):=Gd EM.out HZ.out;clear hz hj;go_wp2;go_roundw;(case rel=>exact⟨k+1,q|||z,rfl,by simp,hlt,(by show _=_;rw[HS.out]),by simp⟩);case measure=>simp[intOf];omega};have hke:k=mn:=by{omega};have HE:Hid (q=R):=by{show _=_;rw[HQ.out,HR.out,hke,←Dp.out,List.take_length]};clear HQ;have bP:¬(k:Int)<(mn:Int):=by{omega};clear hke;go_wp2;go_ret;exact⟨by rw[←HE.out]<;>rfl,hB2⟩
theorem Qi {n m:Nat}(hn:n<2 ^ 40)(hm:m<2 ^ 40):bits .andNot .i64 n m=((Fl.an n m:Nat):Int):=by have hx:Fl.an n m<2 ^ 40:=Fl.vH hn;have e:(BitVec.ofInt 64 (n:Int)&&& ~~~BitVec.ofInt 64 (m:Int)).toNat=Fl.an n m:=by{rw[BitVec.toNat_and,BitVec.toNat_not,BitVec.ofInt_natCast,BitVec.ofInt_natCast,BitVec.toNat_ofNat,BitVec.toNat_ofNat,Nat.mod_eq_of_lt (by omega),Nat.mod_eq_of_lt (by omega)];refine Nat.eq_of_testBit_eq fun k=>?_;rw[Nat.testBit_and,Fl.mW,Nat.sub_sub,Nat.add_comm,Nat.testBit_two_pow_sub_succ (by omega)];by_cases h:k<64;{simp[h]};rw[Nat.testBit_lt_two_pow (aj hn (Nat.pow_le_pow_right (by decide) (by omega)))];rfl};show IntKind.i64.wrap ((BitVec.ofInt 64 (n:Int)&&& ~~~BitVec.ofInt 64 (m:Int)).toNat:Int)=_;rw[e];exact VE _ (by omega) (by omega)
theorem DW {j:Nat}(hj:j<=39):wrap64 ((2:Int) ^ j)=((2 ^ j:Nat):Int)/\(2:Nat) ^ j<2 ^ 40:=by have h:(2:Nat) ^ j<2 ^ 40:=Nat.pow_lt_pow_right (by decide) (by omega);refine⟨?_,h⟩;have e:(2:Int) ^ j=((2 ^ j:Nat):Int):=by{simp};rw[e];generalize(2:Nat) ^ j=m at h ⊢;exact IntWalk.wrap64_in _ (by omega)
theorem Jo {n j:Nat}(hn:n<2 ^ 40)(hj:j<=39):bits .andNot .i64 (n:Int) (wrap64 (2 ^ j))=((Fl.an n (2 ^ j):Nat):Int):=by rw[(DW hj).1,Qi hn (DW hj).2]
theorem Fe {n j:Nat}(hn:n<2 ^ 40)(hj:j<=39):bits .or .i64 (n:Int) (wrap64 (2 ^ j))=((n|||2 ^ j:Nat):Int):=by rw[(DW hj).1,Gd hn (DW hj).2]
theorem Et (n:Nat):nz (List.replicate n 0)=List.replicate n 0:=by simp[nz]
theorem lg (a:Option Addr) (len cap:Nat) (ls:List Ln) (hok:Ln.isOk ls=true) (w:World) (hs:LL w a len ls):Calls Tryz.prog 61 #[.slice a len cap] w fun e w'=>∃g c,e= .returned (.slice (some ⟨g,0,none⟩) len c)/\OG w' w.heap.size g len c (nz (Fl.live ls))/\Below w.heap.size w w':=by
 have hl:=hs.1
 have hlen:=Ln.bI hok
 rw[hl]at hlen
 obtain⟨i0,hi,hz0,hz1,hz2⟩:=info_parts bV
 obtain⟨wm,hmk,hown,hgrow⟩:=run_make_full (P:=Tryz.prog) w w.heap.size 27 2 i0 _ 1 Tryz.underlying27 hi hz0 hz1 .i64 .i64 len (by rw[hz2];omega) (by simp only[maxLen];omega) (Nat.le_refl _)
 have hBm:Below w.heap.size w wm:=⟨hgrow.os,hgrow.tape,hgrow.output,hgrow.size,fun k hk=>hgrow.block k hk (by simp)⟩
 have hown0:OG wm w.heap.size w.heap.size len len (nz (List.replicate ls.length 0)):=by have e:(madeCells (Value.int .i64 0).cells (len*1)).toList=List.replicate (len*1) (iv 0):=toList_madeCells_one _ _;rw[e,Nat.mul_one]at hown;refine⟨by rw[oP,List.length_replicate,hl],?_⟩;rw[Et,List.map_replicate,hl];exact hown
 obtain⟨M,hM⟩:∃M,∀f,Fl.In ls f->f.sum<=M:=⟨_,fun f h=>h.sum⟩
 have HM:=ae hM
 have iV:=ae hok
 have HL:=ae hl
 have rZ:(len:Int)<=300:=by omega
 have hl1:(1:Int)<=(len:Int):=by omega
 have HS:=ae hs
 have HB0:=ae hBm
 have Xv:=ae hown0
 have HI0:=ae (Fl.In.zero ls)
 clear hown hgrow hs hl hok hM hlen hBm hown0
 go_enter Tryz.func61,Tryz.ntmps61
 go_wp2
 go_loopg [4] (M+1) (fun gk va wr=>∃(ag:Bool)(f:List Nat),va= .bool ag/\gk=M-f.sum+(if ag=true then 1 else 0)/\Hid (Fl.In ls f/\Fl.Sound ls f)/\Hid (ag=false->Fl.Fix ls f)/\OG wr w.heap.size w.heap.size len len (nz f)/\Below w.heap.size w wr)
 case atStart=>exact⟨true,_,rfl,by simp,⟨HI0.out,Fl.Sound.zero ls⟩,(fun h=>by cases h),Xv.out,HB0.out⟩
 case round=>
  obtain⟨ag,f,rfl,Bq,HI,HX,ho,hB⟩:=hrel
  cases ag with
  |false=>
   have HE:Hid (OG wr w.heap.size w.heap.size len len (nz (Fl.live ls))/\Below w.heap.size w wr):=by have h:=HI.out;refine⟨?_,hB⟩;rw[←Fl.vP iV.out h.1 h.2 (HX.out rfl)];exact ho
   clear ho HX HI
   go_wp2
   go_ret
   exact⟨_,len,rfl,HE.out.1,HE.out.2⟩
  | true=>
   have HO:=ae ho
   have HB:=ae hB
   have hwr:=hB.size
   have Z4:gk=M-f.sum+1:=by simpa using Bq
   clear ho hB HX Xv Bq
   go_wp2
   go_loopg [4,5] len (fun gj va vi wx=>∃(ag:Bool)(f':List Nat),va= .bool ag/\vi= .int .i64 ((gj:Int)-1)/\gj<=len/\Hid (Fl.In ls f'/\Fl.Sound ls f')/\Hid (ag=false->f'=f/\∀i,gj<=i->i<len->Fl.jE ls f i=f.getD i 0)/\Hid (ag=true->f.sum<f'.sum)/\OG wx w.heap.size w.heap.size len len (nz f')/\Below w.heap.size w wx)
   case atStart=>exact⟨false,f,rfl,rfl,Nat.le_refl _,HI,(fun _=>⟨rfl,fun i h1 h2=>by omega⟩),(fun h=>by cases h),HO.out,HB.out⟩
   case round=>
    obtain⟨ag,f',rfl,rfl,hgj,qh,FW,O1,ho,hB⟩:=hrel
    rcases gk with _|p
    · have hN:¬((0:Nat):Int)-1≥0:=by omega
      have aQ:=hB.size
      have ma:=ae (ak ho hB)
      clear ho hB
      go_wp2
      go_roundg (M-f'.sum+(if ag=true then 1 else 0))
      case measure=>
       have h1:=HM.out _ qh.out.1
       have h2:=HM.out _ HI.out.1
       cases ag with
       |false=>
        have h3:=(FW.out rfl).1
        subst h3
        simp
       |true=>
        have h3:=O1.out rfl
        simp
        omega
      case rel=>refine⟨ag,f',rfl,rfl,qh,(fun h=>?_),ma.out.1,ma.out.2⟩;have h3:=FW.out h;have h4:=h3.1;subst h4;intro i hi;exact h3.2 i (Nat.zero_le _) (by rw[←HL.out];exact hi)
    · have hp:p<len:=by{omega};have hY:((p:Int)≥0):=by{omega};have H6:(p:Int)<(len:Int):=by{omega};have Vi:=HS.out.kept hB;have eX:=ni a len cap ls iV.out p hp f' qh.out.1.lt w.heap.size w.heap.size len wr Vi ho;have hlt:=ho.lt;have e5:(((p+1:Nat):Int)-1)=(p:Int):=by{omega};rw[e5];have PY:=ae (ak ho hB);obtain⟨b,off,rfl,hb,hc⟩:=Vi.at hp;have xA:=Ln.dY iV.out (i:=p) (by rw[HL.out];exact hp);have HST:Hid (Fl.jE ls f' p=Fl.um (ls.getD p .z)|||Fl.an (Fl.ou ls f' p) (Fl.sm (ls.getD p .z))):=rfl;have HX0:Hid (Fl.ou ls f' p<2 ^ 40):=Fl.oO qh.out.1.lt _;obtain⟨x,hx⟩:∃x,ls.getD p .z=x:=⟨_,rfl⟩;rw[hx]at hc xA HST;obtain⟨X0,hX0⟩:∃X0,Fl.ou ls f' p=X0:=⟨_,rfl⟩;rw[hX0]at eX HST HX0;clear hx hX0 ho hB Vi;have hst:=Ln.pF xA;have EN:=ae (Ln.oN xA);have h3:=Ln.ig xA;obtain⟨c0,c1,c2,c3,c4,la,ln,lc,c5,hil⟩:=hc;have hl3:ln<=3:=by{have:=hil.1;omega};go_wp2_with fail;refine eX.mono ?_;rintro e w2 ⟨rfl,hB2⟩;dsimp only;have e0:=(hB2.cell (p:=⟨b,off+p*6,none⟩) hb).trans c0;have e1:=(hB2.cell (p:=⟨b,off+p*6+1,none⟩) hb).trans c1;have e2:=(hB2.cell (p:=⟨b,off+p*6+2,none⟩) hb).trans c2;have e3:=(hB2.cell (p:=⟨b,off+p*6+3,none⟩) hb).trans c3;have e4:=(hB2.cell (p:=⟨b,off+p*6+4,none⟩) hb).trans c4;have e5:=(hB2.cell (p:=⟨b,off+p*6+5,none⟩) hb).trans c5;have Dq:=hil.kept hB2;have aU:=j3 x la ln lc w2;have ma:Hid (OG w2 w.heap.size w.heap.size len len (nz f')/\Below w.heap.size w w2):=⟨PY.out.1.kept hB2,PY.out.2.trans (hB2.mono PY.out.2.size)⟩;have hb2:=aj hb hB2.size;clear eX c0 c1 c2 c3 c4 c5 hil hB2 PY;go_wp2_with fail;refine aU.mono ?_;rintro e w3 ⟨rfl,hB3⟩;dsimp only;have c0:=(hB3.cell (p:=⟨b,off+p*6,none⟩) hb2).trans e0;have c1:=(hB3.cell (p:=⟨b,off+p*6+1,none⟩) hb2).trans e1;have c2:=(hB3.cell (p:=⟨b,off+p*6+2,none⟩) hb2).trans e2;have c3:=(hB3.cell (p:=⟨b,off+p*6+3,none⟩) hb2).trans e3;have c4:=(hB3.cell (p:=⟨b,off+p*6+4,none⟩) hb2).trans e4;have c5:=(hB3.cell (p:=⟨b,off+p*6+5,none⟩) hb2).trans e5;have nT:=Dq.kept hB3;have cz:=jI x la ln lc w3 nT hl3;have uT:Hid (OG w3 w.heap.size w.heap.size len len (nz f')/\Below w.heap.size w w3):=⟨ma.out.1.kept hB3,ma.out.2.trans (hB3.mono ma.out.2.size)⟩;clear aU e0 e1 e2 e3 e4 e5 Dq hB3 ma hb2;have Vj:Hid (Fl.sm x=if 0<=Ln.st x then 2 ^ (Ln.st x).toNat else 0):=rfl;obtain⟨d,hd⟩:∃d,Ln.st x=d:=⟨_,rfl⟩;rw[hd]at hst Vj ⊢;clear hd;by_cases hd0:0<=d;{obtain⟨j,rfl⟩:=Int.eq_ofNat_of_zero_le hd0;have hj:(j:Int)<=39:=hst.2;have hA:bits .andNot .i64 (X0:Int) (wrap64 (2 ^ j))=((Fl.an X0 (2 ^ j):Nat):Int):=Jo HX0.out (by omega);obtain⟨q0,hq0⟩:∃q0,Fl.an X0 (2 ^ j)=q0:=⟨_,rfl⟩;have Vk:Hid (Fl.an X0 (Fl.sm x)=q0):=by{show _=_;rw[Vj.out,ay hd0,az];exact hq0};have Vl:Hid (q0<2 ^ 40):=by{show _<_;rw[←hq0];exact Fl.vH HX0.out};rw[hq0]at hA;clear hq0;go_wp2_with fail;refine cz.mono ?_;rintro e w4 ⟨gu,mu,cu,rfl,hou,hB4⟩;dsimp only;have hgu:=hou.lt;have Vm:=hou.cap;have Dp:=ae hou.1;have HC:Hid (∀k,k<mu->w4.cell? ⟨gu,k,none⟩=some (.int .i64 ((Ln.us x).getD k 0))):=fun k hk=>hou.cell hk;have jy:Hid (OG w4 w.heap.size w.heap.size len len (nz f')/\Below w.heap.size w w4):=⟨uT.out.1.kept hB4,uT.out.2.trans (hB4.mono uT.out.2.size)⟩;have hmx:mu<=9223372036854775807:=by{unfold maxLen at Vm;omega};clear cz hou hB4 uT nT c0 c1 c2 c3 c4 c5;go_wp2;go_loopg [6,9] mu (fun gz vx vk wy=>∃(k q:Nat),gz=mu-k/\k<=mu/\vx= .int .i64 (q:Int)/\vk= .int .i64 (k:Int)/\Hid (q=q0|||Fl.mk ((Ln.us x).take k))/\w4=wy);(case atStart=>exact⟨0,q0,by omega,Nat.zero_le _,rfl,rfl,(by show _=_;simp[Fl.mk]),rfl⟩);case round=>obtain⟨k,q,hgz,hk,rfl,rfl,HQ,aQ⟩:=hrel;subst aQ;by_cases hlt2:k<mu;{have bP:(k:Int)<(mu:Int):=by{omega};have hkl:k<(Ln.us x).length:=by{rw[Dp.out];exact hlt2};have hc:=HC.out k hlt2;have hy:=EN.out ((Ln.us x).getD k 0) (by rw[ah,ai hkl];exact List.getElem_mem hkl);have HS2:Hid (q0|||Fl.mk ((Ln.us x).take (k+1))=q|||2 ^ ((Ln.us x).getD k 0).toNat):=by{show _=_;rw[Fl.tV hkl,←Nat.or_assoc,←HQ.out]};have EM:Hid (q<2 ^ 40):=by{show _<_;rw[HQ.out];exact Nat.or_lt_two_pow Vl.out (Fl.vO fun y hy=>EN.out y (List.mem_of_mem_take hy))};obtain⟨y,iK⟩:∃y,(Ln.us x).getD k 0=y:=⟨_,rfl⟩;rw[iK]at hc hy HS2;clear iK hkl;obtain⟨j2,rfl⟩:=Int.eq_ofNat_of_zero_le hy.1;rw[az]at HS2;have hj2:(j2:Int)<=39:=hy.2;have hor:bits .or .i64 (q:Int) (wrap64 (2 ^ j2))=((q|||2 ^ j2:Nat):Int):=Fe EM.out (by omega);clear hy;go_wp2;go_roundg (mu-(k+1));(case measure=>omega);case rel=>exact⟨k+1,q|||2 ^ j2,rfl,hlt2,rfl,by simp,(by show _=_;rw[HS2.out]),rfl⟩};have hke:k=mu:=by{omega};have HE:Hid (Fl.jE ls f' p=q):=by{show _=_;rw[HST.out,HQ.out,hke,←Dp.out,List.take_length,Vk.out,Nat.or_comm];rfl};have bP:¬(k:Int)<(mu:Int):=by{omega};have hci:=jy.out.1.cell hp;have hfi:=World.ownsRow.frozenAt jy.out.1.2 p;rw[zq]at hci;obtain⟨z,hz⟩:∃z,f'.getD p 0=z:=⟨_,rfl⟩;rw[hz]at hci;have Ba:=jy.out.1.lt;clear HQ hke;by_cases hqz:q=z;{subst hqz;have HZ:=ae hz;clear hz;go_wp2;go_roundg p;(case measure=>omega);case rel=>refine⟨ag,f',rfl,rfl,by omega,qh,(fun h=>?_),O1,jy.out.1,jy.out.2⟩;have h1:=FW.out h;refine⟨h1.1,fun i h2 h3=>?_⟩;by_cases Vn:i=p;{subst Vn;rw[←h1.1,HE.out,HZ.out]};exact h1.2 i (by omega) h3};have hnq:((q:Int)==(z:Int))=false:=by{simp;omega};have O3:Hid (Fl.jE ls f' p≠f'.getD p 0):=by{show _≠_;rw[HE.out,hz];exact hqz};have y7:=(jy.out.1.2.stored p (.int .i64 (q:Int))).1;rw[←fP,←Cr]at y7;have Bu:Hid (OG (w4.setCell ⟨w.heap.size,p,none⟩ (.int .i64 (q:Int))) w.heap.size w.heap.size len len (nz (f'.set p q))/\Below w.heap.size w (w4.setCell ⟨w.heap.size,p,none⟩ (.int .i64 (q:Int)))):=by{refine⟨⟨?_,y7⟩,?_⟩;{rw[oP,List.length_set,←oP];exact jy.out.1.1};exact jy.out.2.setCell (p:=⟨w.heap.size,p,none⟩) (Nat.le_refl _) _};clear y7 hz;go_wp2;go_roundg p;(case measure=>omega);case rel=>refine⟨true,f'.set p q,rfl,rfl,by omega,?_,(fun h=>by cases h),(fun _=>?_),Bu.out.1,Bu.out.2⟩;{have h1:=qh.out.1.set iV.out (i:=p) (by rw[HL.out];exact hp);have h2:=qh.out.2.set iV.out (i:=p) (by rw[HL.out];exact hp);rw[HE.out]at h1 h2;exact⟨h1,h2⟩};have h1:=qh.out.1.more (i:=p) (by rw[HL.out];exact hp) O3.out;rw[HE.out]at h1;rcases ag with _|_;{rw[(FW.out rfl).1]at h1;rw[(FW.out rfl).1];exact h1};exact Nat.lt_trans (O1.out rfl) h1};obtain⟨q0,hq0⟩:∃q0,q0=X0:=⟨_,rfl⟩;have Vk:Hid (Fl.an X0 (Fl.sm x)=q0):=by{show _=_;rw[Vj.out,ax hd0,hq0];refine Nat.eq_of_testBit_eq fun k=>?_;rw[Fl.mW];simp};have Vl:Hid (q0<2 ^ 40):=by{show _<_;rw[hq0];exact HX0.out};subst hq0;go_wp2_with fail;refine cz.mono ?_;rintro e w4 ⟨gu,mu,cu,rfl,hou,hB4⟩;dsimp only;have hgu:=hou.lt;have Vm:=hou.cap;have Dp:=ae hou.1;have HC:Hid (∀k,k<mu->w4.cell? ⟨gu,k,none⟩=some (.int .i64 ((Ln.us x).getD k 0))):=fun k hk=>hou.cell hk;have jy:Hid (OG w4 w.heap.size w.heap.size len len (nz f')/\Below w.heap.size w w4):=⟨uT.out.1.kept hB4,uT.out.2.trans (hB4.mono uT.out.2.size)⟩;have hmx:mu<=9223372036854775807:=by{unfold maxLen at Vm;omega};clear cz hou hB4 uT nT c0 c1 c2 c3 c4 c5;go_wp2;go_loopg [6,9] mu (fun gz vx vk wy=>∃(k q:Nat),gz=mu-k/\k<=mu/\vx= .int .i64 (q:Int)/\vk= .int .i64 (k:Int)/\Hid (q=q0|||Fl.mk ((Ln.us x).take k))/\w4=wy);(case atStart=>exact⟨0,q0,by omega,Nat.zero_le _,rfl,rfl,(by show _=_;simp[Fl.mk]),rfl⟩);case round=>obtain⟨k,q,hgz,hk,rfl,rfl,HQ,aQ⟩:=hrel;subst aQ;by_cases hlt2:k<mu;{have bP:(k:Int)<(mu:Int):=by{omega};have hkl:k<(Ln.us x).length:=by{rw[Dp.out];exact hlt2};have hc:=HC.out k hlt2;have hy:=EN.out ((Ln.us x).getD k 0) (by rw[ah,ai hkl];exact List.getElem_mem hkl);have HS2:Hid (q0|||Fl.mk ((Ln.us x).take (k+1))=q|||2 ^ ((Ln.us x).getD k 0).toNat):=by{show _=_;rw[Fl.tV hkl,←Nat.or_assoc,←HQ.out]};have EM:Hid (q<2 ^ 40):=by{show _<_;rw[HQ.out];exact Nat.or_lt_two_pow Vl.out (Fl.vO fun y hy=>EN.out y (List.mem_of_mem_take hy))};obtain⟨y,iK⟩:∃y,(Ln.us x).getD k 0=y:=⟨_,rfl⟩;rw[iK]at hc hy HS2;clear iK hkl;obtain⟨j2,rfl⟩:=Int.eq_ofNat_of_zero_le hy.1;rw[az]at HS2;have hj2:(j2:Int)<=39:=hy.2;have hor:bits .or .i64 (q:Int) (wrap64 (2 ^ j2))=((q|||2 ^ j2:Nat):Int):=Fe EM.out (by omega);clear hy;go_wp2;go_roundg (mu-(k+1));(case measure=>omega);case rel=>exact⟨k+1,q|||2 ^ j2,rfl,hlt2,rfl,by simp,(by show _=_;rw[HS2.out]),rfl⟩};have hke:k=mu:=by{omega};have HE:Hid (Fl.jE ls f' p=q):=by{show _=_;rw[HST.out,HQ.out,hke,←Dp.out,List.take_length,Vk.out,Nat.or_comm];rfl};have bP:¬(k:Int)<(mu:Int):=by{omega};have hci:=jy.out.1.cell hp;have hfi:=World.ownsRow.frozenAt jy.out.1.2 p;rw[zq]at hci;obtain⟨z,hz⟩:∃z,f'.getD p 0=z:=⟨_,rfl⟩;rw[hz]at hci;have Ba:=jy.out.1.lt;clear HQ hke;by_cases hqz:q=z;{subst hqz;have HZ:=ae hz;clear hz;go_wp2;go_roundg p;(case measure=>omega);case rel=>refine⟨ag,f',rfl,rfl,by omega,qh,(fun h=>?_),O1,jy.out.1,jy.out.2⟩;have h1:=FW.out h;refine⟨h1.1,fun i h2 h3=>?_⟩;by_cases Vn:i=p;{subst Vn;rw[←h1.1,HE.out,HZ.out]};exact h1.2 i (by omega) h3};have hnq:((q:Int)==(z:Int))=false:=by{simp;omega};have O3:Hid (Fl.jE ls f' p≠f'.getD p 0):=by{show _≠_;rw[HE.out,hz];exact hqz};have y7:=(jy.out.1.2.stored p (.int .i64 (q:Int))).1;rw[←fP,←Cr]at y7;have Bu:Hid (OG (w4.setCell ⟨w.heap.size,p,none⟩ (.int .i64 (q:Int))) w.heap.size w.heap.size len len (nz (f'.set p q))/\Below w.heap.size w (w4.setCell ⟨w.heap.size,p,none⟩ (.int .i64 (q:Int)))):=by{refine⟨⟨?_,y7⟩,?_⟩;{rw[oP,List.length_set,←oP];exact jy.out.1.1};exact jy.out.2.setCell (p:=⟨w.heap.size,p,none⟩) (Nat.le_refl _) _};clear y7 hz;go_wp2;go_roundg p;(case measure=>omega);case rel=>refine⟨true,f'.set p q,rfl,rfl,by omega,?_,(fun h=>by cases h),(fun _=>?_),Bu.out.1,Bu.out.2⟩;{have h1:=qh.out.1.set iV.out (i:=p) (by rw[HL.out];exact hp);have h2:=qh.out.2.set iV.out (i:=p) (by rw[HL.out];exact hp);rw[HE.out]at h1 h2;exact⟨h1,h2⟩};have h1:=qh.out.1.more (i:=p) (by rw[HL.out];exact hp) O3.out;rw[HE.out]at h1;rcases ag with _|_;{rw[(FW.out rfl).1]at h1;rw[(FW.out rfl).1];exact h1};exact Nat.lt_trans (O1.out rfl) h1
theorem JE (m k:Nat):(((m:Int) / 2 ^ k).tmod 2==1)=m.testBit k:=by have e:(m:Int) / 2 ^ k=((m / 2 ^ k:Nat):Int):=by{simp};rw[e,Int.tmod_eq_emod_of_nonneg (Int.natCast_nonneg _),Nat.testBit_eq_decide_div_mod_eq];generalize m / 2 ^ k=q;rw[Bool.eq_iff_iff];simp;omega
theorem kI (m:Nat)(hm:m<2 ^ 40)(w:World):Calls Tryz.prog 60 #[.int .i64 (m:Int)] w fun e w'=>∃g n c,e= .returned (.slice (some ⟨g,0,none⟩) n c)/\OG w' w.heap.size g n c (Fl.Bn m)/\Below w.heap.size w w':=by have ho:=OG.empty w w.heap.size (Nat.le_refl _);have hB:=aA w (.cells #[] 2);go_enter Tryz.func60,Tryz.ntmps60;go_wp2;go_loopg [3,4] 40 (fun gk vo vi wr=>∃(k g n c:Nat),gk=40-k/\k<=40/\vo= .slice (some ⟨g,0,none⟩) n c/\vi= .int .i64 (k:Int)/\OG wr w.heap.size g n c (Fl.nL m k)/\Below w.heap.size w wr);(case atStart=>exact⟨0,_,0,0,rfl,by omega,rfl,rfl,ho,hB⟩);case round=>obtain⟨k,g,n,c,Bq,hk,rfl,rfl,hor,hBr⟩:=hrel;clear ho hB;have aQ:=hBr.size;have HO:=ae (ak hor hBr);clear hor hBr;by_cases hlt:k<40;{have bP:(k:Int)<40:=by{omega};have hT:=JE m k;have hlen:=Fl.tu m k;have hnk:n<=k:=by{rw[HO.out.1.1]at hlen;exact hlen};clear hlen;rcases hb:m.testBit k with _|_;{rw[hb]at hT;have HE:Hid (Fl.nL m (k+1)=Fl.nL m k):=by{show _=_;rw[Fl.nL,ax (by rw[hb];decide)]};clear hb;go_wp2;go_roundg (40-(k+1));(case measure=>omega);case rel=>exact⟨k+1,g,n,c,rfl,hlt,rfl,by simp,by rw[HE.out];exact HO.out.1,HO.out.2⟩};rw[hb]at hT;have HE:Hid (Fl.nL m (k+1)=Fl.nL m k++[(k:Int)]):=by{show _=_;rw[Fl.nL,ay hb]};have hal:=aA wr (.cells #[.int .i64 (k:Int)] 2);have HR:=ae (HO.out.1.kept hal);have HB:=ae (HO.out.2.trans (hal.mono aQ));have hg:=HO.out.1.lt;have HC:Hid (∀j,j<1->(wr.alloc (.cells #[.int .i64 (k:Int)] 2)).cell? ⟨wr.heap.size,0+j,none⟩=some (.int .i64 (([(k:Int)]:List Int).getD j 0))):=fun j hj=>by{obtain rfl:j=0:=by{omega};exact(OG.one wr wr.heap.size (Nat.le_refl _) (k:Int)).cell (j:=0) (by omega)};clear hb hal;go_wp2_with(at_builtin;refine bU _ rfl _ _ rfl w.heap.size _ _ _ _ rfl HR.out wr.heap.size 0 1 1 [(k:Int)] rfl rfl HC.out (by omega) (by simp;omega) ?_;intro g4 c4 N4 w4 V6 nS j4;have HF:=ae (ak nS (aN HB.out j4 (by omega)));clear nS j4);go_roundg (40-(k+1));(case measure=>omega);case rel=>exact⟨k+1,g4,N4,c4,rfl,hlt,rfl,by simp,by rw[HE.out];exact HF.out.1,HF.out.2⟩};have hke:k=40:=by{omega};subst hke;go_wp2;go_ret;exact⟨g,n,c,rfl,HO.out.1,HO.out.2⟩
theorem vR (a:Option Addr)(len cap:Nat)(ls:List Ln)(p:Int)(w:World)(hs:LL w a len ls):Calls Tryz.prog 30 #[.slice a len cap, .int .i64 p] w fun e w'=>∃g m c,e= .returned (.slice (some ⟨g,0,none⟩) m c)/\OG w' w.heap.size g m c (Fl.aV ls p)/\Below w.heap.size w w':=by have hcon:=jX a len cap ls p w hs;rcases hh:Fl.has ls p with _|_;{have e:Fl.aV ls p=[]:=by{unfold Fl.aV;rw[ax (by rw[hh];decide)]};rw[e];rw[hh]at hcon;clear e hs;go_enter Tryz.func30,Tryz.ntmps30;go_wp2_with fail;refine hcon.mono ?_;rintro e w2 ⟨rfl,hB2⟩;dsimp only;have ho:=OG.empty w2 w.heap.size hB2.size;have hBx:=hB2.trans ((aA w2 (.cells #[] 2)).mono hB2.size);clear hcon hB2;go_wp2;go_ret;exact⟨_,0,0,rfl,ho,hBx⟩};have e:Fl.aV ls p=Fl.Bn ((Fl.live ls).getD p.toNat 0):=by{unfold Fl.aV;rw[ay hh]};rw[e];rw[hh]at hcon;unfold Fl.has at hh;simp only[au,decide_eq_true_eq]at hh;have iV:=ae hh.1;have hlen:=Ln.bI hh.1;obtain⟨q,rfl⟩:=Int.eq_ofNat_of_zero_le hh.2.1;have hq:q<len:=by{have:=hh.2.2;rw[hs.1]at this;omega};rw[az];have rZ:(len:Int)<=300:=by{have:=hs.1;omega};have IV:(q:Int)<(len:Int):=by{omega};have EP:=ae (Fl.lm hh.1).lt;obtain⟨z,hz⟩:∃z,(Fl.live ls).getD q 0=z:=⟨_,rfl⟩;rw[hz];have HZ:=ae hz;clear hh e hlen hz;go_enter Tryz.func30,Tryz.ntmps30;go_wp2_with fail;refine hcon.mono ?_;rintro e w2 ⟨rfl,hB2⟩;dsimp only;have hs2:=hs.kept hB2;have aU:=lg a len cap ls iV.out w2 hs2;clear hcon hs;go_wp2_with fail;refine aU.mono ?_;rintro e w3 ⟨g,c,rfl,ho,hB3⟩;dsimp only;have hB4:=hB2.trans (hB3.mono hB2.size);have hc:=ho.cell hq;rw[zq]at hc;have gK:=kI ((Fl.live ls).getD q 0) (EP.out q) w3;rw[HZ.out]at hc gK;clear aU ho hB2 hB3 hs2;go_wp2_with fail;refine gK.mono ?_;rintro e w5 ⟨g5,m5,c5,rfl,iU,bG⟩;dsimp only;have HF:=ae (ak (iU.mono hB4.size) (hB4.trans (bG.mono hB4.size)));clear gK iU bG hB4;go_wp2;go_ret;exact⟨g5,m5,c5,rfl,HF.out.1,HF.out.2⟩
theorem uH (a:Option Addr)(len cap:Nat)(ls:List Ln)(p:Int)(w:World)(hs:LL w a len ls):Calls Tryz.prog 31 #[.slice a len cap, .int .i64 p] w fun e w'=>∃g m c,e= .returned (.slice (some ⟨g,0,none⟩) m c)/\OG w' w.heap.size g m c (Fl.bJ ls p)/\Below w.heap.size w w':=by have hcon:=jX a len cap ls p w hs;rcases hh:Fl.has ls p with _|_;{have e:Fl.bJ ls p=[]:=by{unfold Fl.bJ;rw[ax (by rw[hh];decide)]};rw[e];rw[hh]at hcon;clear e hs;go_enter Tryz.func31,Tryz.ntmps31;go_wp2_with fail;refine hcon.mono ?_;rintro e w2 ⟨rfl,hB2⟩;dsimp only;have ho:=OG.empty w2 w.heap.size hB2.size;have hBx:=hB2.trans ((aA w2 (.cells #[] 2)).mono hB2.size);clear hcon hB2;go_wp2;go_ret;exact⟨_,0,0,rfl,ho,hBx⟩};have e:Fl.bJ ls p=Fl.Bn (Fl.ou ls (Fl.live ls) p.toNat):=by{unfold Fl.bJ;rw[ay hh]};rw[e];rw[hh]at hcon;unfold Fl.has at hh;simp only[au,decide_eq_true_eq]at hh;have iV:=ae hh.1;have hlen:=Ln.bI hh.1;obtain⟨q,rfl⟩:=Int.eq_ofNat_of_zero_le hh.2.1;have hq:q<len:=by{have:=hh.2.2;rw[hs.1]at this;omega};rw[az];have rZ:(len:Int)<=300:=by{have:=hs.1;omega};have IV:(q:Int)<(len:Int):=by{omega};have EP:=ae (Fl.lm hh.1).lt;obtain⟨z,hz⟩:∃z,Fl.ou ls (Fl.live ls) q=z:=⟨_,rfl⟩;rw[hz];have HZ:=ae hz;clear hh e hlen hz;go_enter Tryz.func31,Tryz.ntmps31;go_wp2_with fail;refine hcon.mono ?_;rintro e w2 ⟨rfl,hB2⟩;dsimp only;have hs2:=hs.kept hB2;have aU:=lg a len cap ls iV.out w2 hs2;clear hcon hs;go_wp2_with fail;refine aU.mono ?_;rintro e w3 ⟨g,c,rfl,ho,hB3⟩;dsimp only;have hB4:=hB2.trans (hB3.mono hB2.size);have hs3:=hs2.kept hB3;have cz:=ni a len cap ls iV.out q hq (Fl.live ls) EP.out w2.heap.size g c w3 hs3 ho;have hz:Fl.ou ls (Fl.live ls) q<2 ^ 40:=Fl.oO EP.out _;rw[HZ.out]at cz hz;clear aU ho hB2 hB3 hs2 hs3;go_wp2_with fail;refine cz.mono ?_;rintro e w4 ⟨rfl,hBx⟩;dsimp only;have gK:=kI z hz w4;replace hB4:=hB4.trans (hBx.mono hB4.size);clear cz hBx hz;go_wp2_with fail;refine gK.mono ?_;rintro e w5 ⟨g5,m5,c5,rfl,iU,bG⟩;dsimp only;have HF:=ae (ak (iU.mono hB4.size) (hB4.trans (bG.mono hB4.size)));clear gK iU bG hB4;go_wp2;go_ret;exact⟨g5,m5,c5,rfl,HF.out.1,HF.out.2⟩
end Go.Proofs.YtghjooipkofodaaGreat
