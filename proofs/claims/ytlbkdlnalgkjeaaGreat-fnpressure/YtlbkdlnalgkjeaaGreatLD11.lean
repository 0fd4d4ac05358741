/-
  Own texts for a law: Lin3 LinR Hgt2 HgtI HgtF HgtN Nest8 Typ0 Typ1 Mean0 Mean1 Mean2
-/
import Derived.Test.YtlbkdlnalgkjeaaGreatLD04
import Derived.Test.YtlbkdlnalgkjeaaGreatLD10
import Derived.Deep.LoopGhost
import Derived.Deep.DeepCutAuto
namespace Go.Proofs.YtlbkdlnalgkjeaaGreat
open Go.RowKit Go.Shelf
set_option linter.all false
set_option maxRecDepth 100000
set_option maxHeartbeats 16000000
def OG (W:World)(n₀ g n c:Nat)(xs:List Int):Prop:=xs.length=n/\W.ownsRow n₀ 2 1 (.slice (some ⟨g,0,none⟩) n c) n (xs.map iv)
theorem OG.oi {W:World}{n₀ g n c:Nat}{xs:List Int}(h:OG W n₀ g n c xs):OI W n₀ (.slice (some ⟨g,0,none⟩) n c) xs:=by unfold OI;rw[h.1];exact h.2
theorem OG.lt {W:World}{n₀ g n c:Nat}{xs:List Int}(h:OG W n₀ g n c xs):n₀<=g/\g<W.heap.size:=World.ownsRow.lt h.2 g rfl
theorem OG.cap {W:World}{n₀ g n c:Nat}{xs:List Int}(h:OG W n₀ g n c xs):n<=c/\c<=maxLen:=by rcases h.2.2 with⟨e,-⟩|⟨g',cap,cur,e,hb,hc,hn,hm,-⟩;{cases e};cases e;exact⟨hn,hm⟩
theorem OG.cell {W:World}{n₀ g n c:Nat}{xs:List Int}(h:OG W n₀ g n c xs){j:Nat}(hj:j<n):W.cell? ⟨g,j,none⟩=some (.int .i64 (xs.getD j 0)):=by have hi:=(OI.il h.oi).2;obtain⟨-,-,h0|⟨b,o,e,hb,hx⟩⟩:=hi;{omega};simp only[af,Addr.mk.injEq,and_true]at e;obtain⟨rfl,rfl⟩:=e;have:=hx j hj;rwa [Nat.zero_add]at this
theorem OG.kept {W W':World}{n₀ g n c:Nat}{xs:List Int}(h:OG W n₀ g n c xs)(hB:Below W.heap.size W W'):OG W' n₀ g n c xs:=⟨h.1,aH h.2 hB⟩
theorem OG.dB {W W':World}{n₀ g n c b:Nat}{xs:List Int}(h:OG W n₀ g n c xs)(hg:W.grownBy W' (some b))(hne:g≠b):OG W' n₀ g n c xs:=by refine⟨h.1,World.ownsRow.kept h.2 hg (.inr ?_)⟩;simp only[Value.ownBlock,ne_eq,af];omega
theorem OG.mono {W:World}{n₀ n₁ g n c:Nat}{xs:List Int}(h:OG W n₁ g n c xs)(hn:n₀<=n₁):OG W n₀ g n c xs:=by have:=OI.mono h.oi hn;unfold OI at this;rw[h.1]at this;exact⟨h.1,this⟩
theorem OG.empty (W:World)(n₀:Nat)(hn:n₀<=W.heap.size):OG (W.alloc (.cells #[] 2)) n₀ W.heap.size 0 0 []:=⟨rfl,by simpa[OI]using OI.mono (OI.empty W) hn⟩
theorem OG.one (W:World)(n₀:Nat)(hn:n₀<=W.heap.size)(y:Int):OG (W.alloc (.cells #[.int .i64 y] 2)) n₀ W.heap.size 1 1 [y]:=
 ⟨rfl,rfl, .inr ⟨W.heap.size,1,#[.int .i64 y],rfl,hn,World.alloc_heap_new W _,Nat.le_refl _,by simp[maxLen],rfl,rfl⟩⟩
theorem dw {ops:Array Oper}{rest:List Oper}{o:Oper}{a:Act}{Q:Exit->Act->World->Prop}(W:World)(hgd:o.guard=none)(s x:Operand)(ho:o.op= .call {callee:= .builtin .append,args:=#[s,x],argTypes:=#[35,35]})(n₀ g n c:Nat)(xs:List Int)(hs:a.eval s= .slice (some ⟨g,0,none⟩) n c)(hown:OG W n₀ g n c xs)(sb so m sc:Nat)(ys:List Int)(hx:a.eval x= .slice (some ⟨sb,so,none⟩) m sc)(hym:ys.length=m)(hy:∀j,j<m->W.cell? ⟨sb,so+j,none⟩=some (.int .i64 (ys.getD j 0)))(hsz:n+m<=1048576)(hbase:n₀<=W.heap.size)(h:∀g' c' N W',Hid (N=n+m)->OG W' n₀ g' N c' (xs++ys)->W.grownBy W' (some g)->wpList Tryz.prog ops Q rest (a.put o.dst (.slice (some ⟨g',0,none⟩) N c')) W'):wpList Tryz.prog ops Q (o::rest) a W:=by obtain⟨i0,hi,hz0,hz1,hz2⟩:=info_parts bN;refine wpList_append_own W hgd s x 35 ho n₀ 2 i0 (.int .i64 0) 1 8 Tryz.underlying35 hi hz0 hz1 hz2 rfl (by decide) _ n (xs.map iv) hs hown.2 ⟨sb,so,none⟩ m sc (ys.map iv) hx (by rw[List.length_map,hym,Nat.mul_one]) (fun j u hu=>?_) FI (by simp only[maxLen];omega) (by omega) hbase (fun v' W' hown' hgrow hnn=>?_);{have hj:j<m:=by{have:=(List.getElem?_eq_some_iff.1 hu).1;rwa [List.length_map,hym]at this};rw[Dr (by rw[hym];exact hj)]at hu;cases hu;(have hadd:(⟨sb,so,none⟩:Addr).add j=⟨sb,so+j,none⟩:=by unfold Addr.add;split<;>simp_all);rw[hadd];exact hy j hj};rcases hown'.2 with⟨rfl,h0⟩|⟨g',cap',cur,rfl,r⟩;{exact absurd (hnn.1 rfl).1 (fun e=>by cases e)};refine h g' cap' (n+m) W' rfl ⟨by rw[List.length_append,hown.1,hym],?_⟩ hgrow;rw[List.map_append];exact hown'
theorem kD (n₀ g m c:Nat)(xs:List Int)(n:Int)(hm:m<=1000)(w:World)(hn:n₀<=w.heap.size)(ho:OG w n₀ g m c xs):Calls Tryz.prog 64 #[.slice (some ⟨g,0,none⟩) m c, .int .i64 n] w fun e w'=>∃g' m' c',e= .returned (.slice (some ⟨g',0,none⟩) m' c')/\OG w' n₀ g' m' c' (Ln.put xs n)/\Below w.heap.size w w':=by
 have hcap:=ho.cap
 have Ae:=ho.lt
 have HX:=ae ho.1
 have HC:Hid (∀j,j<m->w.cell? ⟨g,j,none⟩=some (.int .i64 (xs.getD j 0))):=fun j hj=>ho.cell hj
 have HO:=ae ho
 clear ho
 go_enter Tryz.func64,Tryz.ntmps64
 go_wp2
 go_loopw [5] (fun i wr=>∃k:Nat,i= .int .i64 k/\k<=m/\Hid (∀j,j<k->xs.getD j 0<n)/\w=wr) (fun i _=>m-(intOf i).toNat)
 case atStart=>exact⟨0,rfl,Nat.zero_le _,(fun j hj=>by omega),rfl⟩
 case round=>
  obtain⟨k,rfl,hk,HL,bD⟩:=hrel
  subst bD
  have fin:Hid (∀(hge:k<m->n<=xs.getD k 0),Ln.put xs n=if k<m/\xs.getD k 0=n then xs else xs.take k++(n::xs.drop k)):=fun hge=>by have:=Ln.Bj n xs k (by rw[HX.out];exact hk) HL.out (fun h=>hge (by rw[HX.out]at h;exact h));rw[HX.out]at this;exact this
  have PE:(k:Int)<=(m:Int):=by omega
  have hkc:(k:Int)<=(c:Int):=by omega
  have Zu:(m:Int)<=(c:Int):=by omega
  have hqq:(k<m/\xs.getD k 0<n)\/(k<m/\xs.getD k 0=n)\/(k<m->n<=xs.getD k 0)/\¬(k<m/\xs.getD k 0=n):=by by_cases h1:k<m;{by_cases h2:xs.getD k 0<n;{exact .inl ⟨h1,h2⟩};by_cases h3:xs.getD k 0=n;{exact .inr (.inl ⟨h1,h3⟩)};exact .inr (.inr ⟨fun _=>by omega,fun h=>h3 h.2⟩)};exact .inr (.inr ⟨fun h=>absurd h h1,fun h=>h1 h.1⟩)
  rcases hqq with⟨hlt,hy⟩|⟨hlt,hy⟩|⟨hge,hno⟩
  · have bJ:(k:Int)<(m:Int):=by{omega};have HL2:Hid (∀j,j<k+1->xs.getD j 0<n):=fun j hj=>by{by_cases e:j<k;{exact HL.out j e};obtain rfl:j=k:=by{omega};exact hy};have hc:=HC.out k hlt;obtain⟨y,Cq⟩:∃y,xs.getD k 0=y:=⟨_,rfl⟩;rw[Cq]at hc hy;clear Cq;go_wp2;go_roundw;(case rel=>exact⟨k+1,by simp,hlt,HL2,by simp⟩);case measure=>simp[intOf];omega
  · have bJ:(k:Int)<(m:Int):=by{omega};have hc:=HC.out k hlt;have HP:Hid (Ln.put xs n=xs):=by{show _=_;rw[fin.out (fun _=>by omega),ay ⟨hlt,hy⟩]};rw[hy]at hc;clear hy fin HL;have hnn:¬(n<n):=by{omega};have Xc:(n==n)=true:=by{simp};go_wp2;go_ret;exact⟨g,m,c,rfl,by rw[HP.out];exact HO.out,Below.refl _ _⟩
  · have HP:Hid (Ln.put xs n=xs.take k++(n::xs.drop k)):=by show _=_;rw[fin.out hge,ax hno]
    clear fin HL
    have hB1:=aA w (.cells #[] 2)
    have uq:=ae (OG.empty w w.heap.size (Nat.le_refl _))
    have HB1:=ae hB1
    have hc1:Hid (∀j,j<m-k->(w.alloc (.cells #[] 2)).cell? ⟨g,k+j,none⟩=some (.int .i64 ((xs.drop k).getD j 0))):=fun j hj=>by rw[(hB1.cell (p:=⟨g,k+j,none⟩) Ae.2).trans (HC.out (k+j) (by omega)),ah,ah,List.getElem?_drop]
    have hct:Hid (∀j,j<k->xs.getD j 0=(xs.take k).getD j 0):=fun j hj=>by rw[ah,ah,List.getElem?_take_of_lt hj]
    have HD:Hid ((xs.drop k).length=m-k/\(xs.take k).length=k):=⟨by rw[List.length_drop,HX.out],by rw[List.length_take,HX.out];omega⟩
    clear hB1
    have Kc:(¬(k:Int)<(m:Int)/\c<=k)\/(¬(k:Int)<(m:Int)/\¬(k=c))\/((k:Int)<(m:Int)/\∃y,w.cell? ⟨g,k,none⟩=some (.int .i64 y)/\¬(y<n)/\(y==n)=false):=by by_cases hlt:k<m;{refine .inr (.inr ⟨by omega,xs.getD k 0,HC.out k hlt,?_,?_⟩);{have:=hge hlt;omega};have:¬(xs.getD k 0=n):=fun e=>hno ⟨hlt,e⟩;simpa using this};by_cases hkc:c<=k;{exact .inl ⟨by omega,hkc⟩};exact .inr (.inl ⟨by omega,by omega⟩)
    clear hge hno
    rcases Kc with⟨hlt,hck⟩|⟨hlt,hne⟩|⟨hlt,y,hc,hyn,hyq⟩
    all_goals
     go_wp2_with(first
       |(at_builtin;refine dw _ rfl _ _ rfl w.heap.size _ _ _ [] rfl uq.out g k (m-k) (c-k) (xs.drop k) rfl HD.out.1 hc1.out (by omega) (by simp) ?_;intro g1 c1 N1 w1 hN1 ho1 lD;have hB2:=aI HB1.out lD (Nat.le_refl _);have hal:=aA w1 (.cells #[] 2);have HB3:=ae (hB2.trans (hal.mono hB2.size));have HE2:=ae (OG.empty w1 w1.heap.size (Nat.le_refl _));have HR1:=ae (ho1.kept hal);have hsz1:=hB2.size;have hg1:=ho1.lt;have hc2:Hid (∀j,j<k->(w1.alloc (.cells #[] 2)).cell? ⟨g,0+j,none⟩=some (.int .i64 ((xs.take k).getD j 0))):=(fun j hj=>by rw[Nat.zero_add,(HB3.out.cell (p:=⟨g,j,none⟩) Ae.2).trans (HC.out j (by omega)),hct.out j hj]);clear hB2 hal ho1 lD)
       |(at_builtin;refine dw _ rfl _ _ rfl w.heap.size _ _ _ [] rfl uq.out g _ _ _ _ rfl HD.out.1 (fun j hj=>absurd hj (by omega)) (by omega) (by simp) ?_;intro g1 c1 N1 w1 hN1 ho1 lD;have hB2:=aI HB1.out lD (Nat.le_refl _);have hal:=aA w1 (.cells #[] 2);have HB3:=ae (hB2.trans (hal.mono hB2.size));have HE2:=ae (OG.empty w1 w1.heap.size (Nat.le_refl _));have HR1:=ae (ho1.kept hal);have hsz1:=hB2.size;have hg1:=ho1.lt;have hc2:Hid (∀j,j<k->(w1.alloc (.cells #[] 2)).cell? ⟨g,0+j,none⟩=some (.int .i64 ((xs.take k).getD j 0))):=(fun j hj=>by rw[Nat.zero_add,(HB3.out.cell (p:=⟨g,j,none⟩) Ae.2).trans (HC.out j (by omega)),hct.out j hj]);clear hB2 hal ho1 lD)
       |(at_builtin;refine dw _ rfl _ _ rfl w1.heap.size _ _ _ [] rfl HE2.out g 0 _ _ (xs.take _) rfl HD.out.2 hc2.out (by omega) (by simp) ?_;intro g2 c2 N2 w2 Xd ho2 GV;have hB4:=aI HB3.out GV hsz1;have hal:=aA w2 (.cells #[.int .i64 n] 2);have Zv:=ae (hB4.trans (hal.mono hB4.size));have HR2:=ae ((HR1.out.dB GV (by omega)).kept hal);have lL:=ae (ho2.kept hal);have hg2:=ho2.lt;have hc3:Hid (∀j,j<1->(w2.alloc (.cells #[.int .i64 n] 2)).cell? ⟨w2.heap.size,0+j,none⟩=some (.int .i64 (([n]:List Int).getD j 0))):=(fun j hj=>by obtain rfl:j=0:=(by omega);exact(OG.one w2 w2.heap.size (Nat.le_refl _) n).cell (j:=0) (by omega));clear hB4 hal ho2 GV HB3 HE2 HR1 hc2)
       |(at_builtin;refine dw _ rfl _ _ rfl w1.heap.size _ _ _ _ rfl lL.out w2.heap.size 0 1 1 [n] rfl rfl hc3.out (by have:=Xd.out;omega) (by simp;omega) ?_;intro g3 c3 N3 w3 GX ho3 qG;have IB:=ae (aI Zv.out qG (by omega));have HR3:=ae (HR2.out.dB qG (by omega));have nC:=ae ho3;have GY:=qG.size;have hg3:=ho3.lt;have hc4:Hid (∀j,j<N1->w3.cell? ⟨g1,0+j,none⟩=some (.int .i64 (([]++xs.drop k).getD j 0))):=(fun j hj=>by rw[Nat.zero_add];exact HR3.out.cell hj);clear ho3 qG HR2 lL hc3)
       |(at_builtin;refine dw _ rfl _ _ rfl w1.heap.size _ _ _ _ rfl nC.out g1 0 N1 c1 ([]++xs.drop k) rfl HR3.out.1 hc4.out (by have:=Xd.out;have:=GX.out;have:=hN1.out;omega) (by simp at GY;omega) ?_;intro g4 c4 N4 w4 Rx yP gN;have Ry:=ae (aI IB.out gN (by omega));have iU:=ae yP;clear yP gN IB HR3 nC hc4))
     go_ret
     exact⟨g4,N4,c4,rfl,by rw[HP.out];simpa using iU.out.mono (by omega),Ry.out⟩
abbrev Lv:=Int×Int×Int×Int×Int×Value
def ek:Lv:=(0,0,0,0,0, .slice none 0 0)
def bS (xs:List Lv):List Value:=xs.flatMap fun x=>[.int .i64 x.1, .int .i64 x.2.1, .int .i64 x.2.2.1, .int .i64 x.2.2.2.1, .int .i64 x.2.2.2.2.1,x.2.2.2.2.2]
theorem fq (x:Lv)(xs:List Lv):bS (x::xs)= .int .i64 x.1:: .int .i64 x.2.1:: .int .i64 x.2.2.1:: .int .i64 x.2.2.2.1:: .int .i64 x.2.2.2.2.1::x.2.2.2.2.2::bS xs:=rfl
theorem sQ (xs:List Lv):(bS xs).length=xs.length*6:=by
 induction xs with
 |nil=>rfl
 |cons x xs ih=>rw[fq];simp only[List.length_cons,ih];omega
theorem jR:∀(xs:List Lv)(j:Nat),j<xs.length->(bS xs)[j*6]?=some (.int .i64 (xs.getD j ek).1)/\(bS xs)[j*6+1]?=some (.int .i64 (xs.getD j ek).2.1)/\(bS xs)[j*6+2]?=some (.int .i64 (xs.getD j ek).2.2.1)/\(bS xs)[j*6+3]?=some (.int .i64 (xs.getD j ek).2.2.2.1)/\(bS xs)[j*6+4]?=some (.int .i64 (xs.getD j ek).2.2.2.2.1)/\(bS xs)[j*6+5]?=some (xs.getD j ek).2.2.2.2.2
 |[],j,h=>by simp at h
 |x::xs,0,h=>⟨rfl,rfl,rfl,rfl,rfl,rfl⟩
 | x::xs,j+1,h=>by
   have ih:=jR xs j (by simpa using h)
   have e:(x::xs).getD (j+1) ek=xs.getD j ek:=rfl
   rw[e,fq]
   refine⟨?_,?_,?_,?_,?_,?_⟩
   · rw[show(j+1)*6=j*6+1+1+1+1+1+1 by omega];simp only[List.getElem?_cons_succ];exact ih.1
   · rw[show(j+1)*6+1=j*6+1+1+1+1+1+1+1 by omega];simp only[List.getElem?_cons_succ];exact ih.2.1
   · rw[show(j+1)*6+2=j*6+2+1+1+1+1+1+1 by omega];simp only[List.getElem?_cons_succ];exact ih.2.2.1
   · rw[show(j+1)*6+3=j*6+3+1+1+1+1+1+1 by omega];simp only[List.getElem?_cons_succ];exact ih.2.2.2.1
   · rw[show(j+1)*6+4=j*6+4+1+1+1+1+1+1 by omega];simp only[List.getElem?_cons_succ];exact ih.2.2.2.2.1
   · rw[show(j+1)*6+5=j*6+5+1+1+1+1+1+1 by omega];simp only[List.getElem?_cons_succ];exact ih.2.2.2.2.2
theorem qR:∀(xs:List Lv)(k:Nat)(x:Lv),bS (xs.set k x)=((((((bS xs).set (k*6) (.int .i64 x.1)).set (k*6+1) (.int .i64 x.2.1)).set (k*6+2) (.int .i64 x.2.2.1)).set (k*6+3) (.int .i64 x.2.2.2.1)).set (k*6+4) (.int .i64 x.2.2.2.2.1)).set (k*6+5) x.2.2.2.2.2
 |[],k,x=>rfl
 |y::xs,0,x=>rfl
 | y::xs,k+1,x=>by
   rw[List.set_cons_succ,fq,qR xs k x,fq]
   rw[show(k+1)*6=k*6+1+1+1+1+1+1 by omega]
   simp only[List.set_cons_succ]
def fO (W:World)(n₀ k:Nat)(vs:List Lv)(fs:List Ln):Prop:=
 ∀j,j<k->(vs.getD j ek).1=(fs.getD j .z).k/\(vs.getD j ek).2.1=(fs.getD j .z).d/\(vs.getD j ek).2.2.1=(fs.getD j .z).a/\(vs.getD j ek).2.2.2.1=(fs.getD j .z).b/\(vs.getD j ek).2.2.2.2.1=(fs.getD j .z).n/\OI W n₀ (vs.getD j ek).2.2.2.2.2 (fs.getD j .z).l
theorem fO.kept {W W':World}{n₀ k:Nat}{vs:List Lv}{fs:List Ln}(h:fO W n₀ k vs fs)(hB:Below W.heap.size W W'):fO W' n₀ k vs fs:=fun j hj=>by
 obtain⟨h0,h1,h2,h3,h4,h5⟩:=h j hj
 exact⟨h0,h1,h2,h3,h4,h5.kept hB⟩
theorem fO.other {W W':World}{n₀ k b:Nat}{vs:List Lv}{fs:List Ln}(h:fO W n₀ k vs fs)(hg:W.grownBy W' (some b))(hne:b<n₀):fO W' n₀ k vs fs:=fun j hj=>by
 obtain⟨h0,h1,h2,h3,h4,h5⟩:=h j hj
 exact⟨h0,h1,h2,h3,h4,h5.dB hg (fun g hgg=>by have:=(World.ownsRow.lt h5 g hgg).1;omega)⟩
theorem fO.mono {W:World}{n₀ n₁ k:Nat}{vs:List Lv}{fs:List Ln}(h:fO W n₁ k vs fs)(hn:n₀<=n₁):fO W n₀ k vs fs:=fun j hj=>by
 obtain⟨h0,h1,h2,h3,h4,h5⟩:=h j hj
 exact⟨h0,h1,h2,h3,h4,h5.mono hn⟩
theorem zG {W:World}{n₀ n₁ g n cap:Nat}{vs:List Lv}{fs:List Ln}(h:W.ownsRow n₀ 40 6 (.slice (some ⟨g,0,none⟩) n cap) n (bS vs))(hn:fs.length=n)(ht:fO W n₁ n vs fs):LL W (some ⟨g,0,none⟩) n fs:=by have hv:n=vs.length:=by{have:=h.1;rw[sQ]at this;omega};have hlt:=World.ownsRow.lt h g rfl;have hmx:n<=maxLen:=by{rcases h.2 with⟨h',_⟩|⟨g',cap',cur,h',_,_,hc,hm,_⟩;{cases h'};cases h';exact Nat.le_trans hc hm};refine⟨hn,hmx, .inr ⟨g,0,rfl,hlt.2,fun j hj=>?_⟩⟩;obtain⟨g0,g1,g2,g3,g4,g5⟩:=jR vs j (by omega);obtain⟨t0,t1,t2,t3,t4,t5⟩:=ht j hj;rw[Nat.zero_add];refine⟨(World.ownsRow.cellAt h (j*6) (by omega)).trans (by rw[g0,t0]),(World.ownsRow.cellAt h (j*6+1) (by omega)).trans (by rw[g1,t1]),(World.ownsRow.cellAt h (j*6+2) (by omega)).trans (by rw[g2,t2]),(World.ownsRow.cellAt h (j*6+3) (by omega)).trans (by rw[g3,t3]),(World.ownsRow.cellAt h (j*6+4) (by omega)).trans (by rw[g4,t4]),?_⟩;obtain⟨sa,sc,e,hs⟩:=t5.slice;exact⟨sa,_,sc,(World.ownsRow.cellAt h (j*6+5) (by omega)).trans (by rw[g5,e]),hs⟩
def lX (W:World)(n₀:Nat)(v:Value)(fs:List Ln):Prop:=
 ∃g cap vs,v= .slice (some ⟨g,0,none⟩) fs.length cap/\W.ownsRow n₀ 40 6 (.slice (some ⟨g,0,none⟩) fs.length cap) fs.length (bS vs)/\fO W n₀ fs.length vs fs
theorem lX.LL {W:World}{n₀:Nat}{v:Value}{fs:List Ln}(h:lX W n₀ v fs):∃g cap,v= .slice (some ⟨g,0,none⟩) fs.length cap/\n₀<=g/\g<W.heap.size/\Go.Proofs.YtlbkdlnalgkjeaaGreat.LL W (some ⟨g,0,none⟩) fs.length fs:=by obtain⟨g,cap,vs,rfl,hrow,ht⟩:=h;exact⟨g,cap,rfl,(World.ownsRow.lt hrow g rfl).1,(World.ownsRow.lt hrow g rfl).2,zG hrow rfl ht⟩
theorem rF:(Tryz.prog.info? 40).map (fun i=>(i.zero,i.size,i.bytes))=some (some (.agg #[.int .i64 0, .int .i64 0, .int .i64 0, .int .i64 0, .int .i64 0, .slice none 0 0]),6,64):=by kernel_rfl
namespace Hg
def Lv:Int->List bV->Prop
 |_,[]=>True
 |h,x::S=>(0<=h->0<=x.st)/\x.cm=decide (0<=x.st)/\Lv x.st S
theorem Lv.mono {h h':Int}{S:List bV}(H:Lv h S)(hh:0<=h'->0<=h):Lv h' S:=by
 cases S with
 |nil=>trivial
 |cons x S=>exact⟨fun e=>H.1 (hh e),H.2⟩
theorem rW {f:Fn}{p a h mo h' eD:Int}{x:bV}{S S':List bV}(H:Lv h (x::S))(h1:dJ f p a h mo x S=some (h',eD,S')):Lv h' S':=by have hcm:=H.2.1;have hc:x.cm=true->0<=x.st:=fun e=>by{rw[hcm]at e;simpa using e};unfold dJ at h1;split at h1;{simp only[af,Prod.mk.injEq]at h1;obtain⟨rfl,rfl,rfl⟩:=h1;exact⟨id,rfl,H⟩};split at h1;{split at h1;{cases h1};simp only[af,Prod.mk.injEq]at h1;obtain⟨rfl,rfl,rfl⟩:=h1;refine H.mono fun e=>?_;split at e<;>omega};split at h1;{split at h1;{cases h1};simp only[af,Prod.mk.injEq]at h1;obtain⟨rfl,rfl,rfl⟩:=h1;exact H.mono fun e=>by omega};split at h1;{simp only[af,Prod.mk.injEq]at h1;obtain⟨rfl,rfl,rfl⟩:=h1;exact H.mono fun e=>by omega};split at h1;{split at h1;{cases h1};simp only[af,Prod.mk.injEq]at h1;obtain⟨rfl,rfl,rfl⟩:=h1;refine⟨fun e=>?_,H.2⟩;split at e;{exact e};omega};split at h1;{split at h1;{cases h1};simp only[af,Prod.mk.injEq]at h1;obtain⟨rfl,rfl,rfl⟩:=h1;refine H.2.2.mono fun e=>?_;split at e;{rename_i hh;exact hc hh};omega};simp only[af,Prod.mk.injEq]at h1;obtain⟨rfl,rfl,rfl⟩:=h1;exact H
end Hg
def eT (S:List bV):List Value:=S.flatMap fun x=>[.int .i64 x.st, .int .i64 x.wd, .int .i64 x.wd, .bool x.cm, .bool false]
theorem jr (S T:List bV):eT (S++T)=eT S++eT T:=by simp[eT]
theorem mQ (S:List bV):(eT S).length=S.length*5:=by
 induction S with
 |nil=>rfl
 |cons x S ih=>simp only[eT,List.flatMap_cons,List.length_append,List.length_cons]at ih ⊢;simp only[List.length_nil];omega
theorem bA {W:World}{n₀ g c:Nat}{x:bV}{S:List bV}(h:W.ownsRow n₀ 157 5 (.slice (some ⟨g,0,none⟩) (x::S).length c) (x::S).length (eT (x::S).reverse)):W.cell? ⟨g,S.length*5,none⟩=some (.int .i64 x.st)/\W.cell? ⟨g,S.length*5+1,none⟩=some (.int .i64 x.wd)/\W.cell? ⟨g,S.length*5+2,none⟩=some (.int .i64 x.wd)/\W.cell? ⟨g,S.length*5+3,none⟩=some (.bool x.cm)/\W.cell? ⟨g,S.length*5+4,none⟩=some (.bool false):=by have e:eT (x::S).reverse=eT S.reverse++[.int .i64 x.st, .int .i64 x.wd, .int .i64 x.wd, .bool x.cm, .bool false]:=by{rw[List.reverse_cons,jr];rfl};have hl:(eT S.reverse).length=S.length*5:=by{rw[mQ,List.length_reverse]};have hc:∀j,j<5->W.cell? ⟨g,S.length*5+j,none⟩=[Value.int .i64 x.st, .int .i64 x.wd, .int .i64 x.wd, .bool x.cm, .bool false][j]?:=fun j hj=>by{rw[h.cellAt (S.length*5+j) (by simp only[List.length_cons];omega),e,List.getElem?_append_right (by omega),hl];congr 1;omega};exact⟨hc 0 (by omega),hc 1 (by omega),hc 2 (by omega),hc 3 (by omega),hc 4 (by omega)⟩
theorem gm:(Tryz.prog.info? 157).map (fun i=>(i.zero,i.size,i.bytes))=some (some (.agg #[.int .i64 0, .int .i64 0, .int .i64 0, .bool false, .bool false]),5,32):=by kernel_rfl
structure HI (fs:List Fn)(f:Fn)(O:List Int)(w3:World)(i:Nat)(h mo:Int)(S:List bV)(out:List Int)(g1 c1 g2 c2:Nat)(wr:World):Prop where
 rl:wr.ownsRow w3.heap.size 2 1 (.slice (some ⟨g1,0,none⟩) i c1) i (out.map iv)
 rp:wr.ownsRow w3.heap.size 157 5 (.slice (some ⟨g2,0,none⟩) S.length c2) S.length (eT S.reverse)
 dS:Below w3.heap.size w3 wr
 eq:Hg.all fs f=Hg.go fs f O (f.b.length-i) i h mo S out
 dep:i<f.b.length->S.length=aG.dep f.b i+1
 hb:-1<=h/\h<=i
 mb:0<=mo/\mo<=i+1
 sb:∀x∈S,-1<=x.st/\x.st+x.wd<=i+1/\0<=x.wd/\x.wd<=1
 lv:Hg.Lv h S
theorem HI.dead {fs:List Fn}{f:Fn}{O:List Int}{w3 wr wF:World}{i:Nat}{h mo h' eD:Int}{x:bV}{S S2:List bV}{out:List Int}{g1 c1 g2 c2 g1' c1' g2' c2':Nat}(H:HI fs f O w3 i h mo (x::S) out g1 c1 g2 c2 wr)(hok:aG.isOk f.b=true)(hi:i<f.b.length){p a:Int}(hpq:f.b.getD i (0,0)=(p,a))(hb:Hg.bad fs f (O.getD i (-1)) (S.length+1) p a=false)(h0:h<0)(ha:p=8\/p=9\/p=10->0<=a/\a<=1)(hc:Hg.dJ f p a h mo x S=some (h',eD,S2))(rl:wF.ownsRow w3.heap.size 2 1 (.slice (some ⟨g1',0,none⟩) (i+1) c1') (i+1) ((out++[h]).map iv))(rp:wF.ownsRow w3.heap.size 157 5 (.slice (some ⟨g2',0,none⟩) S2.length c2') S2.length (eT S2.reverse))(dS:Below w3.heap.size w3 wF):HI fs f O w3 (i+1) h' eD S2 (out++[h]) g1' c1' g2' c2' wF:=by have hop:aG.op f.b i=p:=by{rw[aG.op,hpq]};have bd:=Hg.Br (i:=i) ha (by have:=H.hb;omega) (fun _=>by have:=H.hb;omega) (by have:=H.mb;omega) H.sb hc;have hd:=H.dep hi;refine⟨rl,rp,dS,?_,fun hi'=>?_,bd.hb,bd.mb,bd.sb,Hg.rW H.lv hc⟩;{rw[H.eq,Hg.yJ hi (by rw[hop,hpq];exact(Hg.vH hb h0).trans hc)]};exact Hg.tL hok hi' (by simpa using hd) (by rw[hop];exact hc)
theorem HI.kH {fs:List Fn}{f:Fn}{O:List Int}{w3 wr wF:World}{i:Nat}{h mo h' eD:Int}{x:bV}{S S2:List bV}{out:List Int}{g1 c1 g2 c2 g1' c1' g2' c2':Nat}(H:HI fs f O w3 i h mo (x::S) out g1 c1 g2 c2 wr)(hok:aG.isOk f.b=true)(hi:i<f.b.length){p a:Int}(hpq:f.b.getD i (0,0)=(p,a))(hb:Hg.bad fs f (O.getD i (-1)) (S.length+1) p a=false)(h0:0<=h)(hge:¬h-x.st<Hg.tk fs p a)(htk:0<=Hg.tk fs p a)(hpt:0<=Hg.pt fs p a/\Hg.pt fs p a<=1)(ha:p=8\/p=9\/p=10->(0<=a/\a<=1)/\Hg.pt fs p a=0)(hc:Hg.dJ f p a (h-Hg.tk fs p a+Hg.pt fs p a) (Hg.mx mo (h-Hg.tk fs p a+Hg.pt fs p a)) x S=some (h',eD,S2))(rl:wF.ownsRow w3.heap.size 2 1 (.slice (some ⟨g1',0,none⟩) (i+1) c1') (i+1) ((out++[h]).map iv))(rp:wF.ownsRow w3.heap.size 157 5 (.slice (some ⟨g2',0,none⟩) S2.length c2') S2.length (eT S2.reverse))(dS:Below w3.heap.size w3 wF):HI fs f O w3 (i+1) h' eD S2 (out++[h]) g1' c1' g2' c2' wF:=by have hop:aG.op f.b i=p:=by{rw[aG.op,hpq]};have hh:=H.hb;have hm:=H.mb;have hx:=H.sb x (by simp);have bd:=Hg.Br (i:=i) (fun e=>(ha e).1) (by omega) (fun e=>by have:=(ha e).2;omega) ⟨Hg.uR hm.1,Hg.AY (by omega) (by omega)⟩ H.sb hc;have hd:=H.dep hi;refine⟨rl,rp,dS,?_,fun hi'=>?_,bd.hb,bd.mb,bd.sb,Hg.rW (H.lv.mono fun _=>h0) hc⟩;{rw[H.eq,Hg.yJ hi (by rw[hop,hpq];exact(Hg.gM hb h0 hge).trans hc)]};exact Hg.tL hok hi' (by simpa using hd) (by rw[hop];exact hc)
theorem HI.no {fs:List Fn}{f:Fn}{O:List Int}{w3 wr:World}{i:Nat}{h mo:Int}{S:List bV}{out:List Int}{g1 c1 g2 c2:Nat}(H:HI fs f O w3 i h mo S out g1 c1 g2 c2 wr)(hi:i<f.b.length){p a:Int}(hpq:f.b.getD i (0,0)=(p,a))(h1:Hg.one fs f (O.getD i (-1)) p a h mo S=none):Hg.fP fs f=none:=by have hop:aG.op f.b i=p:=by{rw[aG.op,hpq]};exact Hg.BQ (by rw[H.eq,Hg.DW hi (by rw[hop,hpq];exact h1)])
theorem zh (W:World)(v0 v1 v2 v3 v4:Value)(t:TypeId):(W.alloc (.cells #[v0,v1,v2,v3,v4] t)).ownsRow W.heap.size t 5 (.slice (some ⟨W.heap.size,0,none⟩) 1 1) 1 [v0,v1,v2,v3,v4]:=
 ⟨rfl, .inr ⟨W.heap.size,1,_,rfl,Nat.le_refl _,World.alloc_heap_new W _,Nat.le_refl _,by simp only[maxLen];omega,rfl,rfl⟩⟩
theorem yC {W:World}{n₀ g c:Nat}{S:List bV}(h:W.ownsRow n₀ 157 5 (.slice (some ⟨g,0,none⟩) S.length c) S.length (eT S.reverse)){j:Nat}(hj:j<S.length):W.cell? ⟨g,(S.length-1-j)*5+2,none⟩=some (.int .i64 (S.getD j ⟨0,0,false⟩).wd):=by
 have key:∀(T:List bV)(k:Nat),k<T.length->(eT T)[k*5+2]?=some (.int .i64 (T.getD k ⟨0,0,false⟩).wd):=by
  intro T
  induction T with
  |nil=>intro k hk;simp at hk
  |cons y T ih=>
   intro k hk
   rcases k with _|k
   · rfl
   · have e:eT (y::T)=[.int .i64 y.st, .int .i64 y.wd, .int .i64 y.wd, .bool y.cm, .bool false]++eT T:=rfl;rw[e,List.getElem?_append_right (by simp;omega)];have e2:(k+1)*5+2-[Value.int .i64 y.st, .int .i64 y.wd, .int .i64 y.wd, .bool y.cm, .bool false].length=k*5+2:=by{simp;omega};rw[e2,ih k (by simpa using hk)];rfl
 rw[h.cellAt _ (by omega),key _ _ (by simp;omega)]
 congr 2
 rw[ah,List.getElem?_reverse (by omega),ah]
 congr 4
 omega
theorem oU {W:World}{n₀ g c:Nat}{x:bV}{S:List bV}(h:W.ownsRow n₀ 157 5 (.slice (some ⟨g,0,none⟩) (S.length+1) c) (S.length+1) (eT (x::S).reverse)):W.ownsRow n₀ 157 5 (.slice (some ⟨g,0,none⟩) S.length c) S.length (eT S.reverse):=by have hc:=Ay h S.length (by omega);have e:(eT (x::S).reverse).take (S.length*5)=eT S.reverse:=by{rw[List.reverse_cons,jr,List.take_left' (by rw[mQ,List.length_reverse])]};rw[e]at hc;exact hc
theorem dY (W:World)(v0 v1 v2 v3 v4:Value)(t:TypeId)(H:Nat)(hH:W.heap.size=H):∀j u,[v0,v1,v2,v3,v4][j]?=some u->(W.alloc (.cells #[v0,v1,v2,v3,v4] t)).cell? ((⟨H,0,none⟩:Addr).add j)=some u:=by
 subst hH
 intro j u hu
 match j,hu with
 |0,hu=>simp at hu;subst hu;simp[Addr.add]
 |1,hu=>simp at hu;subst hu;simp[Addr.add]
 |2,hu=>simp at hu;subst hu;simp[Addr.add]
 |3,hu=>simp at hu;subst hu;simp[Addr.add]
 |4,hu=>simp at hu;subst hu;simp[Addr.add]
theorem dZ (x:bV)(S:List bV):eT (x::S).reverse=eT S.reverse++[.int .i64 x.st, .int .i64 x.wd, .int .i64 x.wd, .bool x.cm, .bool false]:=by rw[List.reverse_cons,jr];rfl
def fw:Code->Option Code
 | .loop c=>some c
 | .seq a b=>match fw a with
   |some c=>some c
   |none=>fw b
 | .block _ c=>fw c
 | .scope c=>fw c
 | .cond _ a b=>match fw a with
   |some c=>some c
   |none=>fw b
 |_=>none
theorem oW {f:Fn}(h:Md.qA f=true):(0<=f.a/\f.a<=3)/\(0<=f.l/\f.l<=3)/\0<=f.g/\f.g<=1:=by simp only[Md.qA,au]at h;exact⟨Wd.bT.1 h.1,Wd.bT.1 h.2.1,Wd.bT.1 h.2.2.1⟩
def oC (fs:List Fn)(fa fl fg:Int)(fb:List (Int×Int))(w w3 wr:World)(bl cO gO i g1 uw g2 c2:Nat)(h mo:Int)(x:bV)(S':List bV)(out:List Int):Prop:=
 ∀ (K K1:Act->World->Prop) (c0 c1 c3 c8 c10 Xe Xf Xg c28 Xh Xi c31 c32 Xj c34 Xk Xl c37 Xm Xn c40 Xo Xp Xq Xr Xt c46 Xu Xv Ke Kg Kh Ki Kj Kk Kl Km Kn u4 u5 u6 u16 Zw Zx Zy u20 u21 u22 u23 u24 u49 Zz u51 ZA u53 ZB u55 ZC ZE u58 u59 u60 ZF ZG u63 u64 ZH u66 ZI u68 u69 u70 ZJ u72 u73 ZK u75 ZL ZM ZN ZO ZP ZQ ZR ZT ZU ZV ZW ZX ZY ZZ Z4 Z5 Z6 u93 Z7 Z8 Z9 u97 u98 u99 Rz RA RB RD RF u105 RG RH RI RJ RL RN RO RP RQ RS RU RV RX u119 RY RZ R3 R4 u124 R5 R6 u127 R7 R8 R9 u131 Sa Sb Sc Sd Sg Si u138 u139 Sj Sk Sl Sm Sn Sq Su Sv Sw Sy Sz SB u152 SC u154 SE SF SH SI SN SQ SS u162 SV u164 SX SY S9 Ta Tc Td Te Tf Tg Ti Tj Tk Tm Tn Tp Tq Tt Tu Tv Tw Tx Tz TA TB TC TD TE TF u193 u194 TG u196 TH u198 TI TJ u201 TK TL TM TP u206 TQ u208 TR u210 TS TT TU TV TW TY TZ T9 Ua Ub Uc Ud Ue Uf Ug Uh Ui Uj Uk Ul Um Un Uo u234 Uq u236 Ur Us Ut Uu Uv Uw Ux Uy Uz UA UB UC UD UE UF UG UH UI UJ UK UL UM UN UO UQ UR UT UU UW UX UY UZ U0 U1 U2 U3 U4 U5 U6 U7 U8 U9 Va Vb Vd Ve:Value),Hid (∀(h' eD:Int)(S2:List bV)(g1' c1' g2' c2':Nat)(v4 v5 v6 v16 v17 v18 v19 v20 v21 v22 v23 v24 v49 v50 v51 v52 v53 v54 v55 v56 v57 v58 v59 v60 v61 v62 v63 v64 v65 v66 v67 v68 v69 v70 v71 v72 v73 v74 v75 v76 v77 v78 v79 v80 v81 v82 v83 v84 v85 v86 v87 Xw v89 Xx v91 Xy v93 Xz XA XB XC XD XE Ko Kq Kr Kt Ku v105 Kv v107 Kw v109 Ky Kz KA KC KD KE KF v117 KG KH KI KJ KM KN v124 KO KP v127 KQ KR v130 v131 KS KT KU KV KW KX v138 v139 KY v141 KZ v143 La v145 v146 Lc v148 Ld Le Lf v152 Lg v154 Lh Li v157 Lj v159 v160 Ll v162 Lm v164 Lp Lr v167 v168 Ls Lt v171 Lu v173 Lx v175 LF LG LH LJ LK LP v182 v183 LQ LU LV LW LY LZ L6 L8 L9 v193 v194 Ma v196 Mc v198 Me Mf v201 Mg v203 Mh Mi v206 Mj v208 Mk v210 Ml v212 Mo Mq Mr Mt Mv v218 Mw Mx MB v222 MC ME MF v226 v227 v228 v229 MG MH v232 v233 v234 MI v236 MJ ML MM MN MO MP MQ MR MS MU MV MW MX MZ M0 M3 M4 M5 M6 M7 M8 M9 Na Nb Nc Nf Ng Nh Ni Nj Nk Nl Nn Np Nq Nr Ns Nt Nu Nv Nw Ny Nz NA NB NC:Value)(wF:World),HI fs ⟨fa,fl,fg,fb⟩ (aG.aS fb) w3 (i+1) h' eD S2 (out++[h]) g1' c1' g2' c2' wF->K ⟨#[c0,c1, .pointer (some ⟨w.heap.size,0,none⟩),c3,v4,v5,v6, .pointer (some ⟨w.heap.size+1,0,none⟩),c8, .slice (some ⟨gO,0,none⟩) bl cO,c10, .slice (some ⟨g1',0,none⟩) (i+1) c1',(.slice (some ⟨g2',0,none⟩) S2.length c2'), .int .i64 h', .int .i64 eD, .int .i64 ((i:Int)+1),v16,v17,v18,v19,v20,v21,v22,v23,v24,Xe,Xf,Xg,c28,Xh,Xi,c31,c32,Xj,c34,Xk,Xl,c37,Xm,Xn,c40,Xo,Xp,Xq,Xr,Xt,c46,Xu,Xv,v49,v50,v51,v52,v53,v54,v55,v56,v57,v58,v59,v60,v61,v62,v63,v64,v65,v66,v67,v68,v69,v70,v71,v72,v73,v74,v75,v76,v77,v78,v79,v80,v81,v82,v83,v84,v85,v86,v87,Xw,v89,Xx,v91,Xy,v93,Xz,XA,XB,XC,XD,XE,Ko,Kq,Kr,Kt,Ku,v105,Kv,v107,Kw,v109,Ky,Kz,KA,KC,KD,KE,KF,v117,KG,KH,KI,KJ,KM,KN,v124,KO,KP,v127,KQ,KR,v130,v131,KS,KT,KU,KV,KW,KX,v138,v139,KY,v141,KZ,v143,La,v145,v146,Lc,v148,Ld,Le,Lf,v152,Lg,v154,Lh,Li,v157,Lj,v159,v160,Ll,v162,Lm,v164,Lp,Lr,v167,v168,Ls,Lt,v171,Lu,v173,Lx,v175,LF,LG,LH,LJ,LK,LP,v182,v183,LQ,LU,LV,LW,LY,LZ,L6,L8,L9,v193,v194,Ma,v196,Mc,v198,Me,Mf,v201,Mg,v203,Mh,Mi,v206,Mj,v208,Mk,v210,Ml,v212,Mo,Mq,Mr,Mt,Mv,v218,Mw,Mx,MB,v222,MC,ME,MF,v226,v227,v228,v229,MG,MH,v232,v233,v234,MI,v236,MJ,ML,MM,MN,MO,MP,MQ,MR,MS,MU,MV,MW,MX,MZ,M0,M3,M4,M5,M6,M7,M8,M9,Na,Nb,Nc,Nf,Ng,Nh,Ni,Nj,Nk,Nl,Nn,Np,Nq,Nr,Ns,Nt,Nu,Nv,Nw,Ny,Nz,NA,NB,NC,Ke,Kg,Kh,Ki,Kj,Kk,Kl,Km,Kn],[]⟩ wF)->
   Code.wp Tryz.prog ((Tryz.f80.body.bind fw).getD .skip) (Exit.then K (Exit.inBlock 0 (Exit.then K1 (bodyPost Tryz.prog Tryz.f80 (fun e w'=>∃v mo,e= .returned (.tuple #[v, .int .i64 mo, .bool (Hg.fP fs ⟨fa,fl,fg,fb⟩).isSome])/\(∀out m',Hg.fP fs ⟨fa,fl,fg,fb⟩=some (out,m')->OI w' w.heap.size v out/\mo=m')/\Below w.heap.size w w'))))) ⟨#[c0,c1, .pointer (some ⟨w.heap.size,0,none⟩),c3,u4,u5,u6, .pointer (some ⟨w.heap.size+1,0,none⟩),c8, .slice (some ⟨gO,0,none⟩) bl cO,c10, .slice (some ⟨g1,0,none⟩) i uw,(.slice (some ⟨g2,0,none⟩) (x::S').length c2), .int .i64 h, .int .i64 mo, .int .i64 (i:Int),u16,Zw,Zx,Zy,u20,u21,u22,u23,u24,Xe,Xf,Xg,c28,Xh,Xi,c31,c32,Xj,c34,Xk,Xl,c37,Xm,Xn,c40,Xo,Xp,Xq,Xr,Xt,c46,Xu,Xv,u49,Zz,u51,ZA,u53,ZB,u55,ZC,ZE,u58,u59,u60,ZF,ZG,u63,u64,ZH,u66,ZI,u68,u69,u70,ZJ,u72,u73,ZK,u75,ZL,ZM,ZN,ZO,ZP,ZQ,ZR,ZT,ZU,ZV,ZW,ZX,ZY,ZZ,Z4,Z5,Z6,u93,Z7,Z8,Z9,u97,u98,u99,Rz,RA,RB,RD,RF,u105,RG,RH,RI,RJ,RL,RN,RO,RP,RQ,RS,RU,RV,RX,u119,RY,RZ,R3,R4,u124,R5,R6,u127,R7,R8,R9,u131,Sa,Sb,Sc,Sd,Sg,Si,u138,u139,Sj,Sk,Sl,Sm,Sn,Sq,Su,Sv,Sw,Sy,Sz,SB,u152,SC,u154,SE,SF,SH,SI,SN,SQ,SS,u162,SV,u164,SX,SY,S9,Ta,Tc,Td,Te,Tf,Tg,Ti,Tj,Tk,Tm,Tn,Tp,Tq,Tt,Tu,Tv,Tw,Tx,Tz,TA,TB,TC,TD,TE,TF,u193,u194,TG,u196,TH,u198,TI,TJ,u201,TK,TL,TM,TP,u206,TQ,u208,TR,u210,TS,TT,TU,TV,TW,TY,TZ,T9,Ua,Ub,Uc,Ud,Ue,Uf,Ug,Uh,Ui,Uj,Uk,Ul,Um,Un,Uo,u234,Uq,u236,Ur,Us,Ut,Uu,Uv,Uw,Ux,Uy,Uz,UA,UB,UC,UD,UE,UF,UG,UH,UI,UJ,UK,UL,UM,UN,UO,UQ,UR,UT,UU,UW,UX,UY,UZ,U0,U1,U2,U3,U4,U5,U6,U7,U8,U9,Va,Vb,Vd,Ve,Ke,Kg,Kh,Ki,Kj,Kk,Kl,Km,Kn],[]⟩ wr
theorem aG.oM {xs:List (Int×Int)}:∀(f k:Nat)(E O:List Int)(S:List Nat){Ef Of:List Int},go xs f k E O S=(Ef,Of,true)->S.length=dep xs k->∃i,i+1=xs.length/\op xs i=12/\dep xs i=0
 |0,k,E,O,S,Ef,Of,h,hd=>by simp[go]at h
 | f + 1,k,E,O,S,Ef,Of,h,hd=>by
   by_cases hk:xs.length<=k
   · rw[mf hk]at h;simp at h
   have hk:k<xs.length:=by omega
   rcases ho:St.opens (op xs k)with _|_
   · by_cases h11:op xs k=11
     · rcases S with _|⟨t,S'⟩
       · rw[iA hk ho h11]at h;simp at h
       · by_cases h2:op xs t=10/\O.getD t (-1)<0
         · rw[iw hk ho h11 h2]at h
           exact oM f (k+1) _ _ _ h (by rw[gp ho (by omega)];exact hd)
         · rw[gI hk ho h11 h2]at h;simp at h
     · by_cases mJ:op xs k=12
       · rcases S with _|⟨t,S'⟩
         · rw[jP hk ho h11 mJ]at h
           simp only[Prod.mk.injEq,decide_eq_true_eq]at h
           exact⟨k,h.2.2,mJ,by rw[←hd];rfl⟩
         · rw[iF hk ho h11 mJ]at h
           exact oM f (k+1) _ _ _ h (by rw[nJ mJ,←hd];simp)
       · rw[iH hk ho h11 mJ]at h
         exact oM f (k+1) _ _ _ h (by rw[gp ho mJ];exact hd)
   · rw[iQ hk ho]at h
     exact oM f (k+1) _ _ _ h (by rw[jT ho];simp[hd])
theorem aG.yz {xs:List (Int×Int)}(h:isOk xs=true):∃i,i+1=xs.length/\op xs i=12/\dep xs i=0:=by have h2:(all xs).2.2=true:=by{rw[isOk,au]at h;exact h.2};exact oM (xs.length+1) 0 _ _ [] (Ef:=(all xs).1) (Of:=(all xs).2.1) (by show all xs=_;rw[←h2]) rfl
namespace Hg
theorem dL {a b:Int}(h:b<=a):mx a b=a:=by unfold mx;rw[ax (by omega)]
theorem Ci {f:Fn}{p a h mo h' eD:Int}{x:bV}{S S':List bV}(h0:0<=mo)(hp:p=13\/p=15\/p=19\/p=11\/p=12->h<=mo)(h1:dJ f p a h (mx mo h) x S=some (h',eD,S')):eD=mx mo h':=by unfold dJ at h1;split at h1;{simp only[af,Prod.mk.injEq]at h1;obtain⟨rfl,rfl,rfl⟩:=h1;rfl};split at h1;{rename_i hpp;split at h1;{cases h1};simp only[af,Prod.mk.injEq]at h1;obtain⟨rfl,rfl,rfl⟩:=h1;split;{rename_i e;rw[dL (hp (.inl e)),dL (by omega)]};rfl};split at h1;{rename_i e;split at h1;{cases h1};simp only[af,Prod.mk.injEq]at h1;obtain⟨rfl,rfl,rfl⟩:=h1;rw[dL (hp (by omega)),dL (by omega)]};split at h1;{rename_i e;simp only[af,Prod.mk.injEq]at h1;obtain⟨rfl,rfl,rfl⟩:=h1;rw[dL (hp (by omega)),dL (by omega)]};split at h1;{rename_i e;split at h1;{cases h1};simp only[af,Prod.mk.injEq]at h1;obtain⟨rfl,rfl,rfl⟩:=h1;rw[dL (hp (by omega))]};split at h1;{rename_i e;split at h1;{cases h1};simp only[af,Prod.mk.injEq]at h1;obtain⟨rfl,rfl,rfl⟩:=h1;rw[dL (hp (by omega))]};simp only[af,Prod.mk.injEq]at h1;obtain⟨rfl,rfl,rfl⟩:=h1;rfl
theorem oV {fs:List Fn}{p a:Int}(h:p=13\/p=15\/p=19\/p=11\/p=12):tk fs p a=0/\pt fs p a=0:=by rcases h with rfl|rfl|rfl|rfl|rfl<;>exact⟨by simp[tk],by simp[pt]⟩
theorem BO {fs:List Fn}{f:Fn}{o p a h mo h' eD:Int}{S S':List bV}(h0:0<=mo)(hm:h<=mo)(h1:one fs f o p a h mo S=some (h',eD,S')):eD=mx mo h':=by unfold one at h1;split at h1;{cases h1};split at h1;{cases h1};split at h1;{split at h1;{cases h1};refine Ci h0 (fun e=>?_) h1;have:=oV (fs:=fs) (a:=a) e;rw[this.1,this.2];omega};rw[←dL hm]at h1;exact Ci h0 (fun _=>hm) h1
end Hg
namespace Hg
theorem yu {fs:List Fn}{f:Fn}{o p a h mo:Int}{x:bV}{S:List bV}{r:Int×Int×List bV}(h1:one fs f o p a h mo (x::S)=some r):∃hh mm,dJ f p a hh mm x S=some r:=by unfold one at h1;simp only at h1;split at h1;{cases h1};split at h1;{split at h1;{cases h1};exact⟨_,_,h1⟩};exact⟨_,_,h1⟩
def Bt (f:Fn)(S:List bV):Prop:=∃T,S=T++[⟨0,f.g,true⟩]
theorem Gb {f:Fn}{p a h mo h' eD:Int}{x:bV}{S S':List bV}(H:Bt f (x::S))(h1:dJ f p a h mo x S=some (h',eD,S'))(hne:S'≠[]):Bt f S':=by have tl:S≠[]->Bt f S:=fun hS=>by{obtain⟨T,hT⟩:=H;rcases T with _|⟨y,T⟩;{simp at hT;exact absurd hT.2 hS};exact⟨T,by simp at hT;exact hT.2⟩};unfold dJ at h1;split at h1;{simp only[af,Prod.mk.injEq]at h1;obtain⟨-,-,rfl⟩:=h1;obtain⟨T,hT⟩:=H;exact⟨_::T,by rw[hT];rfl⟩};split at h1;{split at h1;{cases h1};simp only[af,Prod.mk.injEq]at h1;obtain⟨-,-,rfl⟩:=h1;exact H};split at h1;{split at h1;{cases h1};simp only[af,Prod.mk.injEq]at h1;obtain⟨-,-,rfl⟩:=h1;exact H};split at h1;{simp only[af,Prod.mk.injEq]at h1;obtain⟨-,-,rfl⟩:=h1;exact H};split at h1;{split at h1;{cases h1};simp only[af,Prod.mk.injEq]at h1;obtain⟨-,-,rfl⟩:=h1;exact H};split at h1;{split at h1;{cases h1};simp only[af,Prod.mk.injEq]at h1;obtain⟨-,-,rfl⟩:=h1;exact tl hne};simp only[af,Prod.mk.injEq]at h1;obtain⟨-,-,rfl⟩:=h1;exact H
theorem vY (g:Int):∀l:List Int,g<=l.foldl mx g/\(∀x∈l,x<=l.foldl mx g)/\(l.foldl mx g=g\/l.foldl mx g∈l):=by
 intro l
 induction l generalizing g with
 |nil=>exact⟨Int.le_refl _,fun x hx=>absurd hx List.not_mem_nil, .inl rfl⟩
 |cons y l ih=>
  obtain⟨h1,h2,h3⟩:=ih (mx g y)
  have hg:g<=mx g y:=uR (Int.le_refl _)
  have hy:y<=mx g y:=by unfold mx;split<;>omega
  refine⟨Int.le_trans hg h1,fun x hx=>?_,?_⟩
  · rcases List.mem_cons.1 hx with rfl|hx;{exact Int.le_trans hy h1};exact h2 x hx
  · rcases h3 with h3|h3;{by_cases XG:g<y;{have e:mx g y=y:=ay XG;right;show l.foldl mx (mx g y)∈y::l;rw[h3,e];simp};have e:mx g y=g:=ax XG;left;show l.foldl mx (mx g y)=g;rw[h3,e]};exact .inr (List.mem_cons_of_mem _ h3)
theorem Gc {fs:List Fn}{f:Fn}{O:List Int}(kK:aG.isOk f.b=true):∀(n i:Nat)(h mo:Int)(S:List bV)(out:List Int){out':List Int}{eD:Int},i+(n+1)=f.b.length->S.length=aG.dep f.b i+1->Bt f S->0<=mo->mo=(out++[h]).foldl mx f.g->go fs f O (n+1) i h mo S out=some (out',eD)->eD=out'.foldl mx f.g:=by
 intro n
 induction n with
 |zero=>
  intro i h mo S out out' eD hi hd hbt h0 hm e
  rw[go]at e
  split at e
  · cases e
  · rename_i h2 m2 S2 h1;simp only[go,af,Prod.mk.injEq]at e;obtain⟨rfl,rfl⟩:=e;obtain⟨j,hj,h12,hdj⟩:=aG.yz kK;have hji:j=i:=by{omega};subst hji;rw[hdj]at hd;rcases S with _|⟨x,S⟩;{simp at hd};have hS:S=[]:=List.eq_nil_of_length_eq_zero (by simpa using hd);subst hS;obtain⟨T,hT⟩:=hbt;have hx:x=⟨0,f.g,true⟩:=by{rcases T with _|⟨y,T⟩;{simpa using hT};simp at hT};subst hx;have hle:h<=mo:=by{rw[hm,List.foldl_append];show h<=mx _ h;unfold mx;split<;>omega};have hmo:=BO h0 hle h1;obtain⟨hh,mm,hc⟩:=yu h1;rw[h12]at hc;have Vf:h2=f.g:=by{have e12:dJ f 12 (f.b.getD j (0,0)).2 hh mm ⟨0,f.g,true⟩ []=if 0<=hh/\hh-0≠f.g then none else some (0+f.g,mx mm (0+f.g),[]):=rfl;rw[e12]at hc;split at hc;{cases hc};simp only[af,Prod.mk.injEq]at hc;omega};rw[hmo,Vf,hm];exact dL (vY f.g _).1
 |succ n ih=>
  intro i h mo S out out' eD hi hd hbt h0 hm e
  rw[go]at e
  split at e
  · cases e
  · rename_i h2 m2 S2 h1;rcases S with _|⟨x,S⟩;{simp at hd};have hle:h<=mo:=by{rw[hm,List.foldl_append];show h<=mx _ h;unfold mx;split<;>omega};have hmo:=BO h0 hle h1;obtain⟨hh,mm,hc⟩:=yu h1;have hd2:=tL (xs:=f.b) kK (i:=i) (by omega) (by simpa using hd) hc;refine ih (i+1) h2 m2 S2 (out++[h]) (by omega) hd2 (Gb hbt hc (fun e=>by rw[e]at hd2;simp at hd2)) (by rw[hmo];exact uR h0) ?_ e;rw[hmo,hm,List.foldl_append (l:=out++[h])];rfl
theorem Db {fs:List Fn} {f:Fn} (hg:0<=f.g) {out:List Int} {mo:Int} (h:fP fs f=some (out,mo)):mo=out.foldl mx f.g/\out.length=f.b.length/\0<f.b.length:=by
 unfold fP at h
 split at h
 · rename_i kK
   obtain⟨j,hj,-,-⟩:=aG.yz kK
   split at h
   · rename_i o m ha
     split at h
     · simp only[af,Prod.mk.injEq]at h
       obtain⟨rfl,rfl⟩:=h
       have ha':go fs f (aG.aS f.b) (j+1) 0 0 f.g [⟨0,f.g,true⟩] []=some (o,m):=by rw[hj];exact ha
       refine⟨Gc kK j 0 0 f.g [⟨0,f.g,true⟩] [] (by omega) rfl ⟨[],rfl⟩ hg (by
        show f.g=mx f.g 0
        rw[dL hg]) ha',?_,by omega⟩
       have len:∀(n i:Nat)(h mo:Int)(S:List bV)(out:List Int){out':List Int}{eD:Int},go fs f (aG.aS f.b) n i h mo S out=some (out',eD)->out'.length=out.length+n:=by
        intro n
        induction n with
        |zero=>intro i h mo S out out' eD e;simp only[go,af,Prod.mk.injEq]at e;rw[e.1];rfl
        |succ n ih=>
         intro i h mo S out out' eD e
         rw[go]at e
         split at e
         · cases e
         · have:=ih _ _ _ _ _ e;simp at this;omega
       have:=len _ _ _ _ _ _ ha'
       simp at this
       omega
     · cases h
   · cases h
 · cases h
end Hg
namespace Hg
def nd (fs:List Fn)(f:Fn)(p a:Int):Int:=
 if p=3\/p=7\/p=14\/p=10\/p=4\/p=6\/p=17 then 1 else if p=5\/p=18 then 2 else if p=16 then(fs.getD a.toNat .z).a else if p=15 then f.g else 0
theorem Jg {fs:List Fn}{f:Fn}{p a:Int}(h:p≠15):nd fs f p a=tk fs p a:=by unfold nd tk;by_cases h1:p=3\/p=7\/p=14\/p=10;{rw[ay (by omega),ay h1]};rw[ax h1];by_cases h2:p=4\/p=6\/p=17;{rw[ay (by omega),ay h2]};rw[ax (by omega),ax h2];by_cases h3:p=5;{rw[ay (by omega),ay h3]};rw[ax h3];by_cases h4:p=18;{rw[ay (by omega),ay h4]};rw[ax (by omega),ax h4];by_cases h5:p=16;{rw[ay h5,ay h5]};rw[ax h5,ax h5,ax h]
theorem Gr {fs:List Fn}{f:Fn}{o p a h mo:Int}{x:bV}{S:List bV}{r:Int×Int×List bV}(h1:one fs f o p a h mo (x::S)=some r)(hx:0<=h->0<=x.st)(h0:0<=h):nd fs f p a<=h:=by unfold one at h1;simp only at h1;split at h1;{cases h1};(try rw[ay h0]at h1);split at h1;{cases h1};rename_i hlt;have hxs:=hx h0;by_cases hp:p=15;{subst hp;have t0:tk fs 15 a=0:=by{unfold tk;simp};have p0:pt fs 15 a=0:=by{unfold pt;simp};rw[t0,p0]at h1;have n0:nd fs f 15 a=f.g:=by{unfold nd;simp};rw[n0];unfold dJ at h1;simp only[show¬((15:Int)=8\/(15:Int)=9\/(15:Int)=10)by decide,show¬((15:Int)=13\/(15:Int)=14)by decide,if_false,if_true]at h1;split at h1;{cases h1};rename_i hc;omega};rw[Jg hp];omega
theorem FN {fs:List Fn}{f:Fn}{o p a h mo h' eD:Int}{x:bV}{S S':List bV}(h1:one fs f o p a h mo (x::S)=some (h',eD,S'))(H:Lv h (x::S)):Lv h' S':=by unfold one at h1;simp only at h1;split at h1;{cases h1};split at h1;{rename_i h0;split at h1;{cases h1};exact rW (H.mono (fun _=>h0)) h1};exact rW H h1
theorem yF {fs:List Fn}{f:Fn}{O:List Int}:∀(n i:Nat)(h mo:Int)(S:List bV)(out:List Int){out':List Int}{eD:Int},Lv h S->go fs f O n i h mo S out=some (out',eD)->
   ∃hs:List Int,out'=out++hs/\hs.length=n/\(0<n->hs.getD 0 0=h)/\∀j,j<n->0<=hs.getD j 0->nd fs f (aG.op f.b (i+j)) (f.b.getD (i+j) (0,0)).2<=hs.getD j 0
 | 0,i,h,mo,S,out,out',eD,_,e=>by
   unfold go at e
   cases e
   exact⟨[],by simp,rfl,fun h=>by omega,fun j hj=>by omega⟩
 | n + 1,i,h,mo,S,out,out',eD,H,e=>by
   unfold go at e
   rcases e1:one fs f (O.getD i (-1)) (aG.op f.b i) (f.b.getD i (0,0)).2 h mo S with _|⟨h',Cr,S'⟩
   · rw[e1]at e;cases e
   · rw[e1]at e
     cases S with
     |nil=>cases e1
     | cons x S=>
       obtain⟨hs,r1,r2,r3,r4⟩:=yF n (i+1) h' Cr S' (out++[h]) (FN e1 H) e
       refine⟨h::hs,by rw[r1,List.append_assoc];rfl,by simp[r2],fun _=>rfl,fun j hj h0=>?_⟩
       rcases j with _|j
       · exact Gr e1 H.1 h0
       · have:=r4 j (by omega) h0
         rw[show i+1+j=i+(j+1)by omega]at this
         exact this
theorem Bf {fs:List Fn}{f:Fn}{out:List Int}{mo:Int}(hg:0<=f.g)(h:fP fs f=some (out,mo)):out.length=f.b.length/\0<f.b.length/\out.getD 0 0=0/\mo<=20/\∀j,j<out.length->out.getD j 0<=mo/\(0<=out.getD j 0->nd fs f (aG.op f.b j) (f.b.getD j (0,0)).2<=out.getD j 0):=by obtain⟨m1,m2,m3⟩:=Db hg h;unfold fP at h;split at h;{rcases e:all fs f with _|⟨o',eD⟩;{rw[e]at h;cases h};rw[e]at h;simp only at h;split at h;{rename_i hle;cases h;unfold all at e;obtain⟨hs,r1,r2,r3,r4⟩:=yF _ _ _ _ _ _ (show Lv 0 [⟨0,f.g,true⟩]from⟨fun h=>h,rfl,trivial⟩) e;rw[List.nil_append]at r1;subst r1;refine⟨m2,m3,r3 m3,hle,fun j hj=>⟨?_,fun h0=>?_⟩⟩;{rw[m1];refine(vY f.g out).2.1 _ ?_;rw[ah,ai hj];exact List.getElem_mem _};have:=r4 j (by omega) h0;rwa [Nat.zero_add]at this};cases h};cases h
end Hg
namespace aG
variable {xs : List (Int × Int)} {E : List Int} {at' : Int}
theorem jU (k:Nat):bQ xs E at' (k+1)=if St.opens (op xs k)=true/\at'<=aT E k then(k:Int)::bQ xs E at' k else bQ xs E at' k:=rfl
theorem jl:∀(k:Nat)(x:Int),x∈bQ xs E at' k->∃j:Nat,x=j/\j<k/\St.opens (op xs j)=true/\at'<=aT E j
 |0,x,h=>by simp[bQ]at h
 | k + 1,x,h=>by
   rw[jU]at h
   split at h
   · rename_i hp
     rcases List.mem_cons.1 h with rfl|h
     · exact⟨k,rfl,by omega,hp.1,hp.2⟩
     · obtain⟨j,a,b,c⟩:=jl k x h
       exact⟨j,a,by omega,c⟩
   · obtain⟨j,a,b,c⟩:=jl k x h
     exact⟨j,a,by omega,c⟩
theorem oK:∀k:Nat,(bQ xs E at' k).Pairwise (fun a b=>b<a)
 |0=>List.Pairwise.nil
 | k +1=>by
   rw[jU]
   split
   · refine List.pairwise_cons.2 ⟨fun x hx=>?_,oK k⟩
     obtain⟨j,rfl,hj,-⟩:=jl k x hx
     omega
   · exact oK k
def fI (xs:List (Int×Int))(E:List Int)(at':Int)(k:Nat):Nat:=(bQ xs E at' k).length
theorem D6 {k:Nat}(h:St.opens (op xs k)=true/\at'<=aT E k):fI xs E at' (k+1)=fI xs E at' k+1:=by unfold fI;rw[jU,ay h];rfl
theorem F9 {k:Nat}(h:¬(St.opens (op xs k)=true/\at'<=aT E k)):fI xs E at' (k+1)=fI xs E at' k:=by unfold fI;rw[jU,ax h]
theorem lQ:∀k:Nat,fI xs E at' k<=k
 |0=>Nat.le_refl _
 | k+1=>by
   have:=lQ k
   by_cases h:St.opens (op xs k)=true/\at'<=aT E k
   · rw[D6 h];omega
   · rw[F9 h];omega
theorem yI {O:List Int}(hF:Fin xs E O){n:Nat}{A:List Int}(hA:bQ xs E n n=A){i:Nat}(hi:i<A.length):∃j:Nat,aT A i=j/\j<n/\(n:Int)<=aT E j/\∀i',i=i'+1->∃j':Nat,aT A i'=j'/\j'<n/\j<j'/\aT E j'<aT E j:=by subst hA;have hget:∀i,i<(bQ xs E n n).length->aT (bQ xs E n n) i∈bQ xs E n n:=fun i hi=>by{unfold aT;rw[ah,ai hi];exact List.getElem_mem hi};obtain⟨j,e,hj,ho,hE⟩:=jl n _ (hget i hi);refine⟨j,e,hj,hE,fun i' hi'=>?_⟩;subst hi';obtain⟨j',e',hj',ho',hE'⟩:=jl n _ (hget i' (by omega));have hlt:aT (bQ xs E n n) (i'+1)<aT (bQ xs E n n) i':=by{have:=List.pairwise_iff_getElem.1 (oK (xs:=xs) (E:=E) (at':=n) n) i' (i'+1) (by omega) hi (by omega);unfold aT;rw[ah,ah,ai hi,ai (by omega)];exact this};have hjj:j<j':=by{omega};refine⟨j',e',hj',hjj,hF.f4 j j' ho hjj (by omega) ?_⟩;rw[dz]at ho';omega
end aG
namespace aG
theorem Inv.qU {xs:List (Int×Int)}:∀(f k:Nat)(E O:List Int)(S:List Nat){Ef Of:List Int},Inv xs k E O S->go xs f k E O S=(Ef,Of,true)->
   ∀j,j<k->(j∉S\/0<=aT O j)->aT Of j=aT O j
 |0,k,E,O,S,Ef,Of,h,hgo=>by simp[go]at hgo
 | f + 1, k, E,O,S,Ef,Of,h,hgo=>by
   intro j hj hjs
   by_cases hk:xs.length<=k
   · rw[mf hk]at hgo;simp at hgo
   have hk:k<xs.length:=by omega
   rcases ho:St.opens (op xs k)with _|_
   · by_cases h11:op xs k=11
     · rcases S with _|⟨t,S'⟩
       · rw[iA hk ho h11]at hgo;simp at hgo
       · by_cases h2:op xs t=10/\aT O t<0
         · rw[iw hk ho h11 h2]at hgo
           have hjt:j≠t:=by
             rintro rfl
             rcases hjs with q|q
             · exact q (by simp)
             · omega
           have hset:aT (O.set t (k:Int)) j=aT O j:=by
             unfold aT
             rw[ah,List.getElem?_set_ne (by omega),←ah]
           rw[Inv.qU f (k+1) E _ _ (h.F5 hk h11 h2.1 h2.2) hgo j (by omega) (by rw[hset];exact hjs),hset]
         · rw[gI hk ho h11 h2]at hgo;simp at hgo
     · by_cases h12:op xs k=12
       · rcases S with _|⟨t,S'⟩
         · rw[jP hk ho h11 h12]at hgo
           simp only[Prod.mk.injEq]at hgo
           rw[hgo.2.1]
         · rw[iF hk ho h11 h12]at hgo
           refine Inv.qU f (k+1) _ _ _ (h.Ij hk h12) hgo j (by omega) ?_
           rcases hjs with q|q
           · exact .inl (fun h=>q (List.mem_cons_of_mem _ h))
           · exact .inr q
       · rw[iH hk ho h11 h12]at hgo
         exact Inv.qU f (k+1) _ _ _ (h.other hk ho h11) hgo j (by omega) hjs
   · rw[iQ hk ho]at hgo
     refine Inv.qU f (k+1) _ _ _ (h.push hk ho) hgo j (by omega) ?_
     rcases hjs with q|q
     · exact .inl (by rw[List.mem_cons,not_or];exact⟨by omega,q⟩)
     · exact .inr q
theorem Inv.JY {xs:List (Int×Int)}{f k t:Nat}{E O:List Int}{S:List Nat}{Ef Of:List Int}(h:Inv xs k E O (t::S))(hk:k<xs.length)(h12:op xs k=12)(hgo:go xs f (k+1) (close E O t k) O S=(Ef,Of,true)):aT Ef t=k:=by obtain⟨-,b,-⟩:=Inv.gK f (k+1) _ _ _ (h.Ij hk h12) hgo;have htk:=h.st t (by simp);have jV:=List.pairwise_cons.1 h.Ir;have Iu:aT O t<k:=by{by_cases e:0<=aT O t;{exact(h.oo t e).2.2.1};omega};have QV:=h.lE;rw[b t (by omega) htk.2.1 (fun q=>by have:=jV.1 t q;omega),lY (by omega) (by omega),ay (Or.inl rfl)]
end aG
namespace Hg
theorem zq {fs:List Fn}{f:Fn}{o p a h mo:Int}{x:bV}{S:List bV}{r:Int×Int×List bV}(h1:one fs f o p a h mo (x::S)=some r):bad fs f o (S.length+1) p a=false/\((0<=h/\tk fs p a<=h-x.st/\dJ f p a (h-tk fs p a+pt fs p a) (mx mo (h-tk fs p a+pt fs p a)) x S=some r)\/(h<0/\dJ f p a h mo x S=some r)):=by rcases hb:bad fs f o (S.length+1) p a with _|_;{refine⟨rfl,?_⟩;by_cases h0:0<=h;{by_cases h2:h-x.st<tk fs p a;{rw[df hb h0 h2]at h1;cases h1};rw[gM hb h0 h2]at h1;exact .inl ⟨h0,by omega,h1⟩};rw[vH hb (by omega)]at h1;exact .inr ⟨by omega,h1⟩};rw[gT hb]at h1;cases h1
theorem AO {fs:List Fn}{f:Fn}{O:List Int}:∀(n i:Nat)(h mo:Int)(S:List bV)(out:List Int){out':List Int}{eD:Int},go fs f O n i h mo S out=some (out',eD)->
   ∃hs:List Int,out'=out++hs/\hs.length=n/\(0<n->hs.getD 0 0=h)
 | 0,i,h,mo,S,out,out',eD,e=>by
   unfold go at e
   cases e
   exact⟨[],by simp,rfl,fun h=>by omega⟩
 | n +1,i,h,mo,S,out,out',eD,e=>by
   unfold go at e
   rcases e1:one fs f (O.getD i (-1)) (aG.op f.b i) (f.b.getD i (0,0)).2 h mo S with _|⟨h',Cr,S'⟩
   · rw[e1]at e;cases e
   · rw[e1]at e
     obtain⟨hs,r1,r2,r3⟩:=AO n (i+1) h' Cr S' (out++[h]) e
     exact⟨h::hs,by rw[r1,List.append_assoc];rfl,by simp[r2],fun _=>rfl⟩
theorem EK {fs:List Fn}{f:Fn}{O:List Int}{n i:Nat}{h mo:Int}{S:List bV}{out H:List Int}{eD:Int}(e:go fs f O (n+1) i h mo S out=some (H,eD))(hl:out.length=i):H.getD i 0=h:=by obtain⟨hs,rfl,r2,r3⟩:=AO _ _ _ _ _ _ e;rw[ah,List.getElem?_append_right (by omega),hl,Nat.sub_self,←ah];exact r3 (by omega)
def Ms:Int->List bV->Prop
 |_,[]=>True
 |h,x::S=>(0<=h->0<=x.st/\x.st<=h)/\Ms x.st S
theorem Ms.mono {h h':Int}{S:List bV}(H:Ms h S)(hh:0<=h'->0<=h/\h<=h'):Ms h' S:=by
 cases S with
 |nil=>trivial
 |cons x S=>exact⟨fun e=>by have:=hh e;have:=H.1 this.1;omega,H.2⟩
theorem Ms.all:∀{h:Int}{S:List bV},Ms h S->0<=h->∀x∈S,0<=x.st/\x.st<=h
 |h,[],_,_,x,hx=>by cases hx
 | h,y::S,H,h0,x,hx=>by
   have hy:=H.1 h0
   rcases List.mem_cons.1 hx with rfl|hx
   · exact hy
   · have:=Ms.all H.2 hy.1 x hx
     omega
def ji (H:List Int)(b:List (Int×Int))(t:Nat):Int:=if 0<=H.getD t 0 then H.getD t 0-(if aG.op b t=10 then 1 else 0)else H.getD t 0
def arg (b:List (Int×Int))(t:Nat):Int:=(b.getD t (0,0)).2
def tJ (H:List Int)(b:List (Int×Int))(t:Nat):bV:=⟨ji H b t,arg b t,decide (0<=ji H b t)⟩
def E8 (H E:List Int)(b:List (Int×Int))(t:Nat):Prop:=0<=aG.aT E t/\(aG.aT E t).toNat+1<b.length/\H.getD ((aG.aT E t).toNat+1) 0=if 0<=ji H b t then ji H b t+arg b t else -1
def Gd (H O:List Int)(b:List (Int×Int))(t:Nat):Prop:=(aG.aT O t).toNat+1<b.length/\H.getD ((aG.aT O t).toNat+1) 0=if 0<=ji H b t then ji H b t else -1
def nM (f:Fn)(E H:List Int)(j:Nat)(h a:Int):Prop:=
 (a.toNat<(aG.bQ f.b E j j).length->∃t:Nat,(aG.bQ f.b E j j).getD a.toNat (-1)=(t:Int)/\t<j/\St.opens (aG.op f.b t)=true/\0<=H.getD t 0/\0<=ji H f.b t/\ji H f.b t+arg f.b t<=h/\E8 H E f.b t/\(t+1<f.b.length/\H.getD (t+1) 0=ji H f.b t))/\
 (¬a.toNat<(aG.bQ f.b E j j).length->f.g<=h)
structure Typed (fs:List Fn)(f:Fn)(E O H:List Int)(j:Nat):Prop where
 take:tk fs (aG.op f.b j) (arg f.b j)<=H.getD j 0
 next:aG.op f.b j≠11->aG.op f.b j≠12->aG.op f.b j≠13->aG.op f.b j≠15->aG.op f.b j≠19->j+1<f.b.length/\H.getD (j+1) 0=H.getD j 0-tk fs (aG.op f.b j) (arg f.b j)+pt fs (aG.op f.b j) (arg f.b j)
 last:aG.op f.b j=12->(j+1=f.b.length/\H.getD j 0=f.g)\/(j+1<f.b.length/\H.getD (j+1) 0=H.getD j 0)
 F5:aG.op f.b j=11->0<=aG.aT E j/\(aG.aT E j).toNat+1<f.b.length/\H.getD ((aG.aT E j).toNat+1) 0=H.getD j 0
 iff:aG.op f.b j=10->(0<=aG.aT O j/\(aG.aT O j).toNat+1<f.b.length/\H.getD ((aG.aT O j).toNat+1) 0=H.getD j 0-1)\/(aG.aT O j<0/\0<=aG.aT E j/\(aG.aT E j).toNat+1<f.b.length/\H.getD ((aG.aT E j).toNat+1) 0=H.getD j 0-1)
 jump:aG.op f.b j=13->nM f E H j (H.getD j 0) (arg f.b j)
 jif:aG.op f.b j=14->nM f E H j (H.getD j 0-1) (arg f.b j)
 ret:aG.op f.b j=15->f.g<=H.getD j 0
 loc:aG.op f.b j=2\/aG.op f.b j=3\/aG.op f.b j=4->arg f.b j<f.a+f.l
 call:aG.op f.b j=16->arg f.b j<fs.length
 dB:aG.op f.b j=13\/aG.op f.b j=14->(arg f.b j).toNat<=(aG.bQ f.b E j j).length
end Hg
namespace aG
theorem vZ {xs:List (Int×Int)}{f k:Nat}{E O Ef Of:List Int}{S:List Nat}(h:go xs f k E O S=(Ef,Of,true)):k<xs.length:=by
 cases f with
 |zero=>simp[go]at h
 |succ f=>
  by_cases hk:xs.length<=k
  · rw[mf hk]at h;simp at h
  · omega
end aG
namespace Hg
theorem GD {fs:List Fn}(hgs:∀k,0<=(fs.getD k .z).g)(p a:Int):0<=pt fs p a:=by unfold pt;have:=hgs a.toNat;split;{omega};split;{omega};split;{omega};split;{exact this};omega
theorem sU {H:List Int}{b:List (Int×Int)}{P:List Nat}{z:bV}{a:Int}{t:Nat}(h:P[a.toNat]?=some t):dN (P.map (tJ H b)++[z]) a=arg b t:=by unfold dN;have hlt:a.toNat<(P.map (tJ H b)).length:=by{rw[List.length_map];exact(List.getElem?_eq_some_iff.1 h).1};rw[ah,List.getElem?_append_left hlt,List.getElem?_map,h];rfl
theorem DY {H:List Int}{b:List (Int×Int)}{P:List Nat}{z:bV}{a:Int}(h:a.toNat=P.length):dN (P.map (tJ H b)++[z]) a=z.wd:=by unfold dN;rw[ah,List.getElem?_append_right (by rw[List.length_map];omega),List.length_map,h,Nat.sub_self];rfl
theorem Cg {fs:List Fn} {f:Fn} {E O H:List Int} {eD:Int} (Ed:∀t,t<f.b.length->St.ok (aG.op f.b t) (arg f.b t)=true) (hgs:∀k,0<=(fs.getD k .z).g) (hfg:0<=f.g):∀(n i fuel:Nat)(h mo:Int)(S:List bV)(out Ei Oi:List Int)(P:List Nat),i+n=f.b.length->go fs f O n i h mo S out=some (H,eD)->out.length=i->aG.go f.b fuel i Ei Oi P=(E,O,true)->aG.Inv f.b i Ei Oi P->S=P.map (tJ H f.b)++[⟨0,f.g,true⟩]->Ms h S->(∀t∈P,t+1<f.b.length/\H.getD (t+1) 0=ji H f.b t)->(∀t∈P,E8 H E f.b t)/\(∀t∈P,aG.aT Oi t<0->0<=aG.aT O t->Gd H O f.b t)/\∀j,i<=j->j<f.b.length->0<=H.getD j 0->Typed fs f E O H j:=by
 intro n
 induction n with
 |zero=>
  intro i fuel h mo S out Ei Oi P hi _ _ hn _ _ _
  exact absurd (aG.vZ hn) (by omega)
 | succ n ih=>
  intro i fuel h mo S out Ei Oi P hi e hl hn inv hS hM hB
  have hlt:i<f.b.length:=by omega
  have hHi:=EK e hl
  have hok:=Ed i hlt
  have ha0:0<=arg f.b i:=by simp only[St.ok,au,Wd.bT]at hok;(have:0<=St.least (aG.op f.b i):=by unfold St.least;split<;>omega);omega
  have har:=aG.Inv.AA inv hn
  have Vg:S.length=P.length+1:=by rw[hS];simp
  unfold go at e
  rcases e1:one fs f (O.getD i (-1)) (aG.op f.b i) (f.b.getD i (0,0)).2 h mo S with _|⟨h',Cr,S'⟩
  · rw[e1]at e;cases e
  rw[e1]at e
  simp only at e
  have hl':(out++[h]).length=i+1:=by simp[hl]
  have hnext:i+1<f.b.length->H.getD (i+1) 0=h':=fun hh=>by obtain⟨m,rfl⟩:∃m,n=m+1:=⟨n-1,by omega⟩;exact EK e hl'
  obtain⟨x,S0,jX⟩:∃x S0,S=x::S0:=by
   cases S with
   |nil=>simp at Vg
   |cons x S0=>exact⟨x,S0,rfl⟩
  have e1':=e1
  rw[jX]at e1
  obtain⟨hbad,hcase⟩:=zq e1
  have hS0:S0.length=P.length:=by rw[jX]at Vg;simpa using Vg
  have hM':=hM
  rw[jX]at hM'
  have aaf:0<=x.wd:=by
   cases P with
   |nil=>
    rw[hS]at jX
    simp at jX
    rw[←jX.1]
    exact hfg
   |cons t P'=>
    rw[hS]at jX
    simp at jX
    rw[←jX.1]
    have htl:t<f.b.length:=by have:=(inv.st t (by simp)).1;omega
    have:=Ed t htl
    simp only[St.ok,au,Wd.bT]at this
    have h0:0<=St.least (aG.op f.b t):=by unfold St.least;split<;>omega
    show 0<=arg f.b t
    omega
  have Vh:=GD hgs (aG.op f.b i) (f.b.getD i (0,0)).2
  have ND:(f.b.getD i (0,0)).2=arg f.b i:=rfl
  rw[ND]at hcase hbad Vh e1 e1'
  have hloc:aG.op f.b i=2\/aG.op f.b i=3\/aG.op f.b i=4->arg f.b i<f.a+f.l:=fun hp=>by simp only[bad,Bool.or_eq_false_iff,decide_eq_false_iff_not]at hbad;have:=hbad.1.1.1;omega
  have Cs:aG.op f.b i=16->arg f.b i<fs.length:=fun hp=>by simp only[bad,Bool.or_eq_false_iff,decide_eq_false_iff_not]at hbad;have:=hbad.1.1.2;omega
  have hjl:aG.op f.b i=13\/aG.op f.b i=14->(arg f.b i).toNat<=P.length:=fun hp=>by simp only[bad,Bool.or_eq_false_iff,decide_eq_false_iff_not]at hbad;have:=hbad.1.2;omega
  have Ct:aG.op f.b i=13\/aG.op f.b i=14->(arg f.b i).toNat<=(aG.bQ f.b E i i).length:=fun hp=>by rw[har];simpa[ig]using hjl hp
  have htk:0<=h->tk fs (aG.op f.b i) (arg f.b i)<=h:=fun h0=>by rcases hcase with⟨_,h2,_⟩|⟨h2,_⟩;{have:=hM'.1 h0;omega};omega
  cases fuel with
  |zero=>simp[aG.go]at hn
  |succ fu=>
  rcases ho:St.opens (aG.op f.b i)with _|_
  · by_cases h11:aG.op f.b i=11
    ·
      rcases P with _|⟨t,P'⟩
      · rw[aG.iA hlt ho h11]at hn;simp at hn
      by_cases XH:¬(aG.op f.b t=10/\aG.aT Oi t<0)
      · rw[aG.gI hlt ho h11 XH]at hn;simp at hn
      have h2:=Classical.not_not.1 XH
      rw[aG.iw hlt ho h11 h2]at hn
      have hlt1:=aG.vZ hn
      have wD:=inv.F5 hlt h11 h2.1 h2.2
      have hx:x=tJ H f.b t:=by rw[hS]at jX;simp at jX;exact jX.1.symm
      obtain⟨k1,k2⟩:=oV (fs:=fs) (a:=arg f.b i) (show aG.op f.b i=13\/aG.op f.b i=15\/aG.op f.b i=19\/aG.op f.b i=11\/aG.op f.b i=12 by omega)
      have wE:∀hh mm,dJ f (aG.op f.b i) (arg f.b i) hh mm x S0=some (h',Cr,S')->(0<=hh->hh-x.st=x.wd)/\h'=(if x.cm=true then x.st else -1)/\S'=S:=by
        intro hh mm h3
        unfold dJ at h3
        rw[ax (by omega),ax (by omega),ax (by omega),ax (by omega),ay h11]at h3
        split at h3
        · cases h3
        · rename_i hc
          simp only[af,Prod.mk.injEq]at h3
          obtain⟨q1,-,q3⟩:=h3
          refine⟨fun h0=>?_,q1.symm,by rw[←q3,jX]⟩
          by_cases hq:hh-x.st=x.wd
          · exact hq
          · exact absurd ⟨h0,hq⟩ hc
      obtain⟨q1,q2,q3⟩:(0<=h->h-x.st=x.wd)/\h'=(if x.cm=true then x.st else -1)/\S'=S:=by
        rcases hcase with⟨h0,_,h3⟩|⟨h0,h3⟩
        · have:=wE _ _ h3
          rw[k1,k2]at this
          exact⟨fun h=>by have:=this.1 (by omega);omega,this.2⟩
        · have:=wE _ _ h3
          exact⟨fun h=>by omega,this.2⟩
      have hcm:x.cm=decide (0<=x.st):=by rw[hx];rfl
      have hxs:x.st=ji H f.b t:=by rw[hx];rfl
      have hh':h'=if 0<=ji H f.b t then ji H f.b t else -1:=by
        rw[q2,hcm,hxs]
        by_cases hz:0<=ji H f.b t
        · rw[ay (decide_eq_true hz),ay hz]
        · rw[ax (by simpa using hz),ax hz]
      have hMs:Ms h' S':=by
        rw[q3,jX]
        refine⟨fun h0=>?_,hM'.2⟩
        rw[hxs]
        by_cases hz:0<=ji H f.b t
        · rw[ay hz]at hh';omega
        · rw[ax hz]at hh';omega
      obtain⟨i1,i2,i3⟩:=ih (i+1) fu h' Cr S' (out++[h]) Ei (Oi.set t (i:Int)) (t::P') (by omega) e hl' hn wD (by rw[q3,hS]) hMs hB
      have hOl:=inv.lO
      have htl:t<i:=(inv.st t (by simp)).1
      have Fj:aG.aT (Oi.set t (i:Int)) t=i:=by
        unfold aG.aT
        rw[ah,List.getElem?_set_self (by omega)]
        rfl
      have Iu:aG.aT O t=i:=by
        have:=aG.Inv.qU fu (i+1) Ei _ _ wD hn t (by omega) (.inr (by rw[Fj];omega))
        rw[this,Fj]
      have hnx:=hnext hlt1
      refine⟨i1,fun t' ht' hneg hpos=>?_,fun j hj wG h0=>?_⟩
      · by_cases et:t'=t
        · subst et
          refine⟨by rw[Iu];simpa using hlt1,?_⟩
          rw[Iu,az,hnx,hh']
        · refine i2 t' ht' ?_ hpos
          unfold aG.aT at hneg ⊢
          rw[ah,List.getElem?_set_ne (by omega),←ah]
          exact hneg
      · by_cases ej:j=i
        · subst ej
          rw[hHi]at h0
          obtain⟨m,hm1,hm2,NE⟩:=(aG.Inv.gK fu (j+1) Ei _ _ wD hn).1
          have hjm:j<m:=by
            rcases Nat.lt_or_ge j m with q|q
            · exact q
            · have:j=m:=by omega
              subst this
              omega
          obtain⟨t2,b1,b2,b3,b4⟩:=NE.el j hjm h11
          have:t2=t:=NE.inj t2 t (by omega) (by omega)
          subst this
          obtain⟨a1,a2,a3⟩:=i1 t2 (by simp)
          have Af:=(hM'.1 h0).1
          have hqq:=q1 h0
          have XI:x.wd=arg f.b t2:=by rw[hx];rfl
          rw[ay (by omega)]at a3
          refine⟨by rw[hHi];exact htk h0,fun h=>absurd h11 h,fun h=>by omega,fun _=>⟨by omega,by rw[b4];exact a2,by rw[b4,a3,hHi];omega⟩,fun h=>by omega,fun h=>by omega,fun h=>by omega,fun h=>by omega,hloc,Cs,Ct⟩
        · exact i3 j (by omega) wG h0
    · by_cases h12:aG.op f.b i=12
      ·
        obtain⟨k1,k2⟩:=oV (fs:=fs) (a:=arg f.b i) (show aG.op f.b i=13\/aG.op f.b i=15\/aG.op f.b i=19\/aG.op f.b i=11\/aG.op f.b i=12 by omega)
        have wE:∀hh mm,dJ f (aG.op f.b i) (arg f.b i) hh mm x S0=some (h',Cr,S')->(0<=hh->hh-x.st=x.wd)/\h'=(if x.cm=true then x.st+x.wd else -1)/\S'=S0:=by
          intro hh mm h3
          unfold dJ at h3
          rw[ax (by omega),ax (by omega),ax (by omega),ax (by omega),ax h11,ay h12]at h3
          split at h3
          · cases h3
          · rename_i hc
            simp only[af,Prod.mk.injEq]at h3
            obtain⟨q1,-,q3⟩:=h3
            refine⟨fun h0=>?_,q1.symm,q3.symm⟩
            by_cases hq:hh-x.st=x.wd
            · exact hq
            · exact absurd ⟨h0,hq⟩ hc
        obtain⟨q1,q2,q3⟩:(0<=h->h-x.st=x.wd)/\h'=(if x.cm=true then x.st+x.wd else -1)/\S'=S0:=by
          rcases hcase with⟨h0,_,h3⟩|⟨h0,h3⟩
          · have:=wE _ _ h3
            rw[k1,k2]at this
            exact⟨fun h=>by have:=this.1 (by omega);omega,this.2⟩
          · have:=wE _ _ h3
            exact⟨fun h=>by omega,this.2⟩
        rcases P with _|⟨t,P'⟩
        · rw[aG.jP hlt ho h11 h12]at hn
          simp only[Prod.mk.injEq,decide_eq_true_eq]at hn
          have hx:x=⟨0,f.g,true⟩:=by rw[hS]at jX;simp at jX;exact jX.1.symm
          refine⟨by simp,by simp,fun j hj wG h0=>?_⟩
          obtain rfl:j=i:=by omega
          rw[hHi]at h0
          have hqq:=q1 h0
          rw[hx]at hqq
          simp only at hqq
          exact⟨by rw[hHi];exact htk h0,fun _ h=>absurd h12 h,fun _=> .inl ⟨hn.2.2,by rw[hHi];omega⟩,fun h=>by omega,fun h=>by omega,fun h=>by omega,fun h=>by omega,fun h=>by omega,hloc,Cs,Ct⟩
        · rw[aG.iF hlt ho h11 h12]at hn
          have hlt1:=aG.vZ hn
          have wD:=inv.Ij hlt h12
          have hx:x=tJ H f.b t:=by rw[hS]at jX;simp at jX;exact jX.1.symm
          have Vi:S0=P'.map (tJ H f.b)++[⟨0,f.g,true⟩]:=by rw[hS]at jX;simp at jX;exact jX.2.symm
          have hcm:x.cm=decide (0<=x.st):=by rw[hx];rfl
          have hxs:x.st=ji H f.b t:=by rw[hx];rfl
          have XI:x.wd=arg f.b t:=by rw[hx];rfl
          have hh':h'=if 0<=ji H f.b t then ji H f.b t+arg f.b t else -1:=by
            rw[q2,hcm,hxs,XI]
            by_cases hz:0<=ji H f.b t
            · rw[ay (decide_eq_true hz),ay hz]
            · rw[ax (by simpa using hz),ax hz]
          have hMs:Ms h' S':=by
            rw[q3]
            refine hM'.2.mono fun h0=>?_
            by_cases hz:0<=ji H f.b t
            · rw[ay hz]at hh';omega
            · rw[ax hz]at hh';omega
          obtain⟨i1,i2,i3⟩:=ih (i+1) fu h' Cr S' (out++[h]) (aG.close Ei Oi t i) Oi P' (by omega) e hl' hn wD (by rw[q3,Vi]) hMs (fun t' ht'=>hB t' (List.mem_cons_of_mem _ ht'))
          have hnx:=hnext hlt1
          have PM:=aG.Inv.JY inv hlt h12 hn
          have htl:t<i:=(inv.st t (by simp)).1
          have Vj:t∉P':=fun q=>by have:=(List.pairwise_cons.1 inv.Ir).1 t q;omega
          refine⟨fun t' ht'=>?_,fun t' ht' hneg hpos=>?_,fun j hj wG h0=>?_⟩
          · rcases List.mem_cons.1 ht' with rfl|ht'
            · refine⟨by omega,by rw[PM];simpa using hlt1,?_⟩
              rw[PM,az,hnx,hh']
            · exact i1 t' ht'
          · rcases List.mem_cons.1 ht' with rfl|ht'
            · have:=aG.Inv.qU fu (i+1) _ _ _ wD hn t' (by omega) (.inl Vj)
              omega
            · exact i2 t' ht' hneg hpos
          · by_cases ej:j=i
            · subst ej
              rw[hHi]at h0
              have hqq:=q1 h0
              have Af:=(hM'.1 h0).1
              rw[ay (by omega)]at hh'
              exact⟨by rw[hHi];exact htk h0,fun _ h=>absurd h12 h,fun _=> .inr ⟨hlt1,by rw[hnx,hHi];omega⟩,fun h=>by omega,fun h=>by omega,fun h=>by omega,fun h=>by omega,fun h=>by omega,hloc,Cs,Ct⟩
            · exact i3 j (by omega) wG h0
      ·
        have hop:¬(aG.op f.b i=8\/aG.op f.b i=9\/aG.op f.b i=10):=fun h=>by rw[aG.dz.2 h]at ho;cases ho
        rw[aG.iH hlt ho h11 h12]at hn
        have hlt1:=aG.vZ hn
        have wD:=inv.other hlt ho h11
        have wE:∀hh mm,dJ f (aG.op f.b i) (arg f.b i) hh mm x S0=some (h',Cr,S')->S'=S/\(aG.op f.b i=13\/aG.op f.b i=15\/aG.op f.b i=19->h'=-1)/\(¬(aG.op f.b i=13\/aG.op f.b i=15\/aG.op f.b i=19)->h'=hh)/\
            (aG.op f.b i=13\/aG.op f.b i=14->0<=hh->dN S (arg f.b i)<=hh-x.st)/\(aG.op f.b i=15->0<=hh->f.g<=hh-x.st):=by
          intro hh mm h3
          unfold dJ at h3
          rw[ax hop]at h3
          split at h3
          · rename_i hj
            split at h3
            · cases h3
            · rename_i hc
              simp only[af,Prod.mk.injEq]at h3
              obtain⟨q1,-,q3⟩:=h3
              refine⟨by rw[←q3,jX],fun hp=>?_,fun hp=>?_,fun _ h0=>?_,fun h=>by omega⟩
              · rw[←q1,ay (by omega)]
              · rw[←q1,ax (by omega)]
              · rw[jX]
                by_cases hq:hh-x.st<dN (x::S0) (arg f.b i)
                · exact absurd ⟨h0,hq⟩ hc
                · omega
          · rename_i hj
            split at h3
            · rename_i GM
              split at h3
              · cases h3
              · rename_i hc
                simp only[af,Prod.mk.injEq]at h3
                obtain⟨q1,-,q3⟩:=h3
                refine⟨by rw[←q3,jX],fun hp=>q1.symm,fun hp=>by omega,fun h=>absurd h hj,fun _ h0=>?_⟩
                by_cases hq:hh-x.st<f.g
                · exact absurd ⟨h0,hq⟩ hc
                · omega
            · rename_i GM
              split at h3
              · rename_i h19
                simp only[af,Prod.mk.injEq]at h3
                obtain⟨q1,-,q3⟩:=h3
                exact⟨by rw[←q3,jX],fun hp=>q1.symm,fun hp=>by omega,fun h=>absurd h hj,fun h=>absurd h GM⟩
              · rename_i h19
                simp only[af,Prod.mk.injEq]at h3
                obtain⟨q1,-,q3⟩:=h3
                exact⟨by rw[←q3,jX],fun hp=>by omega,fun _=>q1.symm,fun h=>absurd h hj,fun h=>absurd h GM⟩
        obtain⟨q1,q2,q3,q4⟩:S'=S/\(aG.op f.b i=13\/aG.op f.b i=15\/aG.op f.b i=19->h'=-1)/\(¬(aG.op f.b i=13\/aG.op f.b i=15\/aG.op f.b i=19)->h'=if 0<=h then h-tk fs (aG.op f.b i) (arg f.b i)+pt fs (aG.op f.b i) (arg f.b i)else h)/\
            (0<=h->tk fs (aG.op f.b i) (arg f.b i)<=h-x.st/\(aG.op f.b i=13\/aG.op f.b i=14->dN S (arg f.b i)<=h-tk fs (aG.op f.b i) (arg f.b i)+pt fs (aG.op f.b i) (arg f.b i)-x.st)/\(aG.op f.b i=15->f.g<=h-tk fs (aG.op f.b i) (arg f.b i)+pt fs (aG.op f.b i) (arg f.b i)-x.st)):=by
          rcases hcase with⟨h0,h2,h3⟩|⟨h0,h3⟩
          · obtain⟨r1,r2,r3,r4,r5⟩:=wE _ _ h3
            have hx0:=hM'.1 h0
            exact⟨r1,r2,fun h=>by rw[ay h0];exact r3 h,fun _=>⟨h2,fun hp=>r4 hp (by omega),fun hp=>r5 hp (by omega)⟩⟩
          · obtain⟨r1,r2,r3,r4,r5⟩:=wE _ _ h3
            exact⟨r1,r2,fun h=>by rw[ax (by omega)];exact r3 h,fun h=>by omega⟩
        have hMs:Ms h' S':=by
          rw[q1,jX]
          refine⟨fun h0=>?_,hM'.2⟩
          by_cases hp:aG.op f.b i=13\/aG.op f.b i=15\/aG.op f.b i=19
          · have:=q2 hp;omega
          · have hq:=q3 hp
            by_cases hz:0<=h
            · rw[ay hz]at hq
              have:=q4 hz
              have:=hM'.1 hz
              omega
            · rw[ax hz]at hq;omega
        obtain⟨i1,i2,i3⟩:=ih (i+1) fu h' Cr S' (out++[h]) Ei Oi P (by omega) e hl' hn wD (by rw[q1,hS]) hMs hB
        have hnx:=hnext hlt1
        refine⟨i1,i2,fun j hj wG h0=>?_⟩
        by_cases ejn:¬j=i
        · exact i3 j (by omega) wG h0
        have ej:=Classical.not_not.1 ejn
        subst ej
        rw[hHi]at h0
        obtain⟨c1,c2,c3⟩:=q4 h0
        have hx0:=hM'.1 h0
        have Fp:∀hh,0<=hh->x.st<=hh->dN S (arg f.b j)<=hh-x.st->(arg f.b j).toNat<=P.length->nM f E H j hh (arg f.b j):=by
          intro hh hh0 hhx hlab hal
          unfold nM
          rw[har]
          have hnl:(ig P).length=P.length:=by simp[ig]
          rw[hnl]
          refine⟨fun hlt2=>?_,fun hge=>?_⟩
          · obtain⟨t,ht⟩:∃t,P[(arg f.b j).toNat]?=some t:=⟨_,ai hlt2⟩
            have hmem:t∈P:=List.mem_of_getElem? ht
            have NF:dN S (arg f.b j)=arg f.b t:=by rw[hS];exact sU ht
            have NG:tJ H f.b t∈S:=by rw[hS];exact List.mem_append_left _ (List.mem_map_of_mem hmem)
            rw[jX]at NG
            have NH:=Ms.all (h:=x.st) (S:=x::S0) ⟨fun h=>⟨h,Int.le_refl _⟩,hM'.2⟩ hx0.1 _ NG
            have hs1:0<=ji H f.b t:=NH.1
            have hs2:ji H f.b t<=x.st:=NH.2
            refine⟨t,?_,(inv.st t hmem).1,(inv.st t hmem).2.1,?_,hs1,by rw[NF]at hlab;omega,i1 t hmem,hB t hmem⟩
            · unfold ig
              rw[ah,List.getElem?_map,ht]
              rfl
            · by_cases hz:0<=H.getD t 0
              · exact hz
              · unfold ji at hs1
                rw[ax hz]at hs1
                exact hs1
          · have:dN S (arg f.b j)=f.g:=by rw[hS];exact DY (by omega)
            omega
        refine⟨by rw[hHi];exact htk h0,fun _ _ GL GM h19=>⟨hlt1,?_⟩,fun h=>absurd h h12,fun h=>absurd h h11,fun h=>by omega,fun GL=>?_,fun PD=>?_,fun GM=>?_,hloc,Cs,Ct⟩
        · rw[hnx,hHi,q3 (by omega),ay h0]
        · obtain⟨k1,k2⟩:=oV (fs:=fs) (a:=arg f.b j) (show aG.op f.b j=13\/aG.op f.b j=15\/aG.op f.b j=19\/aG.op f.b j=11\/aG.op f.b j=12 by omega)
          have:=c2 (by omega)
          rw[hHi]
          exact Fp h h0 hx0.2 (by omega) (hjl (by omega))
        · have k1:tk fs (aG.op f.b j) (arg f.b j)=1:=by unfold tk;rw[ay (by omega)]
          have k2:pt fs (aG.op f.b j) (arg f.b j)=0:=by
            unfold pt
            rw[ax (by omega),ax (by omega),ax (by omega),ax (by omega)]
          have:=c2 (by omega)
          rw[hHi]
          exact Fp (h-1) (by omega) (by omega) (by omega) (hjl (by omega))
        · obtain⟨k1,k2⟩:=oV (fs:=fs) (a:=arg f.b j) (show aG.op f.b j=13\/aG.op f.b j=15\/aG.op f.b j=19\/aG.op f.b j=11\/aG.op f.b j=12 by omega)
          have:=c3 GM
          rw[hHi]
          omega
  ·
    have hop:=aG.dz.1 ho
    rw[aG.iQ hlt ho]at hn
    have NJ:pt fs (aG.op f.b i) (arg f.b i)=0:=by
      unfold pt
      rw[ax (by omega),ax (by omega),ax (by omega),ax (by omega)]
    have NK:tk fs (aG.op f.b i) (arg f.b i)=if aG.op f.b i=10 then 1 else 0:=by
      unfold tk
      by_cases h10:aG.op f.b i=10
      · rw[ay (by omega),ay h10]
      · rw[ax (by omega),ax (by omega),ax (by omega),ax (by omega),ax (by omega),ax h10]
    have hst:ji H f.b i=h'/\S'=tJ H f.b i::S/\(0<=h->0<=h'/\x.st<=h')/\(0<=h'->0<=h/\x.st<=h'):=by
      rcases hcase with⟨h0,h2,h3⟩|⟨h2,h3⟩
      · have hx:=hM'.1 h0
        unfold dJ at h3
        rw[ay hop]at h3
        simp only[af,Prod.mk.injEq]at h3
        obtain⟨q1,-,q3⟩:=h3
        have es:ji H f.b i=h':=by
          unfold ji
          rw[hHi,ay h0,←q1,NJ,NK]
          omega
        refine⟨es,?_,fun _=>⟨by omega,by omega⟩,fun _=>⟨h0,by omega⟩⟩
        rw[←q3,jX]
        unfold tJ
        rw[es,q1]
      · unfold dJ at h3
        rw[ay hop]at h3
        simp only[af,Prod.mk.injEq]at h3
        obtain⟨q1,-,q3⟩:=h3
        have es:ji H f.b i=h':=by
          unfold ji
          rw[hHi,ax (by omega),q1]
        refine⟨es,?_,fun h=>by omega,fun h=>by omega⟩
        rw[←q3,jX]
        unfold tJ
        rw[es,q1]
    obtain⟨es,eS,NM,Vf⟩:=hst
    have hlt1:=aG.vZ hn
    have hMs:Ms h' S':=by
      rw[eS]
      refine⟨fun h0=>?_,?_⟩
      · show 0<=ji H f.b i/\ji H f.b i<=h'
        omega
      · show Ms (ji H f.b i) S
        rw[es,jX]
        refine⟨fun h0=>?_,hM'.2⟩
        have:=Vf h0
        have:=hM'.1 this.1
        omega
    obtain⟨i1,i2,i3⟩:=ih (i+1) fu h' Cr S' (out++[h]) Ei Oi (i::P) (by omega) e hl' hn (inv.push hlt ho) (by rw[eS,hS];rfl) hMs (by
      intro t ht
      rcases List.mem_cons.1 ht with rfl|ht
      · exact⟨hlt1,by rw[hnext hlt1,es]⟩
      · exact hB t ht)
    refine⟨fun t ht=>i1 t (List.mem_cons_of_mem _ ht),fun t ht=>i2 t (List.mem_cons_of_mem _ ht),fun j hj wG h0=>?_⟩
    by_cases ej:j=i
    · subst ej
      rw[hHi]at h0
      have hnx:=hnext hlt1
      have hE:=i1 j (by simp)
      refine⟨by rw[hHi];exact htk h0,fun _ _ _ _ _=>⟨hlt1,?_⟩,fun h=>by omega,fun h=>by omega,fun h10=>?_,fun h=>by omega,fun h=>by omega,fun h=>by omega,hloc,Cs,Ct⟩
      · rw[hnx,hHi,NJ,NK,←es]
        unfold ji
        rw[hHi,ay h0]
        omega
      · have e10:ji H f.b j=h-1:=by
          unfold ji
          rw[hHi,ay h0,ay h10]
        have h0':=(NM h0).1
        by_cases hO:0<=aG.aT O j
        · left
          have:=i2 j (by simp) ((inv.out j (Nat.le_refl _)).2▸(by omega)) hO
          obtain⟨a1,a2⟩:=this
          rw[ay (by omega)]at a2
          exact⟨hO,a1,by rw[a2,e10,hHi]⟩
        · right
          obtain⟨a1,a2,a3⟩:=hE
          rw[ay (by omega)]at a3
          have ha:arg f.b j=0:=by
            simp only[bad,Bool.or_eq_false_iff,decide_eq_false_iff_not]at hbad
            have hb4:=hbad.2
            have hg1:arg f.b j<=1:=by
              simp only[St.ok,au,Wd.bT]at hok
              have:St.bW (aG.op f.b j)=1:=by rw[h10];rfl
              omega
            have:aG.aT O j=O.getD j (-1):=rfl
            omega
          exact⟨by omega,a1,a2,by rw[a3,e10,ha,hHi];omega⟩
    · exact i3 j (by omega) wG h0
structure Acc (fs:List Fn)(f:Fn)(E O H:List Int):Prop where
 pos:0<f.b.length
 lH:H.length=f.b.length
 fst:H.getD 0 0=0
 qC:∀j,j<f.b.length->H.getD j 0<=20
 typ:∀j,j<f.b.length->0<=H.getD j 0->Typed fs f E O H j
 NN:aG.Fin f.b E O
theorem zB {fs:List Fn}{f:Fn}{H:List Int}{mo:Int}(hf:Md.qA f=true)(hfs:Md.bi fs=true)(h:fP fs f=some (H,mo)):Acc fs f (aG.ends f.b) (aG.aS f.b) H:=by simp only[Md.qA,au,decide_eq_true_eq,Wd.bT]at hf;obtain⟨-,-,⟨hg0,-⟩,-,hst⟩:=hf;obtain⟨n1,n2,n3,n4,n5⟩:=Bf hg0 h;have kK:aG.isOk f.b=true:=by{unfold fP at h;split at h;{assumption};cases h};have hall:∃eD,all fs f=some (H,eD):=by{unfold fP at h;rw[ay kK]at h;rcases e:all fs f with _|⟨o',eD⟩;{rw[e]at h;cases h};rw[e]at h;simp only at h;split at h;{cases h;exact⟨_,rfl⟩};cases h};obtain⟨eD,hall⟩:=hall;have Ed:∀t,t<f.b.length->St.ok (aG.op f.b t) (arg f.b t)=true:=fun t ht=>by{have:=St.bf hst ht;exact this};have hgs:∀k,0<=(fs.getD k .z).g:=fun k=>by{by_cases hk:k<fs.length;{have:=Md.bf hfs hk;simp only[Md.qA,au,Wd.bT]at this;exact this.2.2.1.1};rw[ah,List.getElem?_eq_none (by omega)];exact Int.le_refl _};have hE:aG.all f.b=(aG.ends f.b,aG.aS f.b,true):=by{have h2:(aG.all f.b).2.2=true:=by{rw[aG.isOk,au]at kK;exact kK.2};rw[aG.ends,ay kK,aG.aS,ay kK,←h2]};obtain⟨-,-,hT⟩:=Cg Ed hgs hg0 f.b.length 0 (f.b.length+1) 0 f.g [⟨0,f.g,true⟩] [] (aG.dP f.b.length) (aG.dP f.b.length) [] (by omega) hall rfl hE (aG.Inv.first f.b) rfl ⟨fun _=>⟨Int.le_refl _,Int.le_refl _⟩,trivial⟩ (by simp);exact⟨n2,n1,n3,fun j hj=>by have:=(n5 j (by omega)).1;omega,fun j hj h0=>hT j (Nat.zero_le _) hj h0,aG.FK kK⟩
end Hg
namespace Mn
open Hg
abbrev Sr:Type:=(Nat×List Int×List Int×List Int) ⊕ List Int ⊕ Int ⊕ (Nat×List Int×List Int)
abbrev Sr.next (at':Nat)(pile loc mem:List Int):Sr:= .inl (at',pile,loc,mem)
abbrev Sr.fin (pile:List Int):Sr:= .inr (.inl pile)
abbrev Sr.halt (c:Int):Sr:= .inr (.inr (.inl c))
abbrev Sr.call (g:Nat)(args rest:List Int):Sr:= .inr (.inr (.inr (g,args,rest)))
def qC (pile:List Int):Int:=pile.getD (pile.length-1) 0
def under (pile:List Int):Int:=pile.getD (pile.length-2) 0
def upper (pile:List Int)(w:Nat):List Int:=pile.drop (pile.length-w)
def less (pile:List Int)(w:Nat):List Int:=pile.take (pile.length-w)
def jump (f:Fn)(E H:List Int)(at':Nat)(a:Int)(pile loc mem:List Int):Sr:=
 if a.toNat<(aG.bQ f.b E at' at').length then
   let t:=((aG.bQ f.b E at' at').getD a.toNat (-1)).toNat
   if aG.op f.b t=9 then .next (t+1) (pile.take (ji H f.b t).toNat) loc mem
   else .next ((aG.aT E t).toNat+1) (pile.take (ji H f.b t).toNat++upper pile (arg f.b t).toNat) loc mem
 else .fin (upper pile f.g.toNat)
def step (fs:List Fn)(f:Fn)(E O H:List Int)(at':Nat)(pile loc mem:List Int):Sr:=
 let p:=aG.op f.b at'
 let a:=arg f.b at'
 if p=1 then .next (at'+1) (pile++[a]) loc mem
 else if p=2 then .next (at'+1) (pile++[loc.getD a.toNat 0]) loc mem
 else if p=3 then .next (at'+1) (less pile 1) (loc.set a.toNat (qC pile)) mem
 else if p=4 then .next (at'+1) pile (loc.set a.toNat (qC pile)) mem
 else if p=5 then(if Wd.dc a (under pile) (qC pile)=0 then .next (at'+1) (less pile 2++[Wd.dv a (under pile) (qC pile)]) loc mem else .halt (Wd.dc a (under pile) (qC pile)))
 else if p=6 then .next (at'+1) (less pile 1++[if qC pile=0 then 1 else 0]) loc mem
 else if p=7 then .next (at'+1) (less pile 1) loc mem
 else if p=10 then(if qC pile=0 then .next ((if 0<=aG.aT O at' then aG.aT O at' else aG.aT E at').toNat+1) (less pile 1) loc mem else .next (at'+1) (less pile 1) loc mem)
 else if p=11 then .next ((aG.aT E at').toNat+1) pile loc mem
 else if p=12 then(if at'+1=f.b.length then .fin pile else .next (at'+1) pile loc mem)
 else if p=13 then jump f E H at' a pile loc mem
 else if p=14 then(if qC pile=0 then .next (at'+1) (less pile 1) loc mem else jump f E H at' a (less pile 1) loc mem)
 else if p=15 then .fin (upper pile f.g.toNat)
 else if p=16 then .call a.toNat (upper pile (fs.getD a.toNat .z).a.toNat) (less pile (fs.getD a.toNat .z).a.toNat)
 else if p=17 then(if Mm.there (qC pile) a=true then .next (at'+1) (less pile 1++[Mm.Jd mem (qC pile+a).toNat 4]) loc mem else .halt 3)
 else if p=18 then(if Mm.there (under pile) a=true then .next (at'+1) (less pile 2) loc (Mm.JH mem (under pile+a).toNat (qC pile) 4)else .halt 3)
 else if p=19 then .halt 4
 else .next (at'+1) pile loc mem
end Mn
namespace Mn
open Hg
abbrev Rs:Type:=(Int×List Int×Nat) ⊕ (Int×List Int×Nat)
abbrev Rs.done (v:Int)(mem:List Int)(left:Nat):Rs:= .inl (v,mem,left)
abbrev Rs.stop (c:Int)(mem:List Int)(left:Nat):Rs:= .inr (c,mem,left)
def fn (fs:List Fn)(k:Nat):Fn:=fs.getD k .z
def wP (fs:List Fn)(k:Nat):List Int:=((fP fs (fn fs k)).map (·.1)).getD []
def IV (fs:List Fn)(k at':Nat)(pile loc mem:List Int):Sr:=step fs (fn fs k) (aG.ends (fn fs k).b) (aG.aS (fn fs k).b) (wP fs k) at' pile loc mem
def gives (f:Fn)(pile:List Int):Int:=if f.g=0 then 0 else qC pile
def dK (f:Fn)(v:Int):List Int:=if f.g=1 then[v]else[]
def Jl (f:Fn)(args:List Int):List Int:=args++List.replicate f.l.toNat 0
def run (fs:List Fn):Nat->Nat->Nat->Nat->Nat->List Int->List Int->List Int->Rs
 |0,fuel,_,_,_,_,_,mem=> .stop 5 mem fuel
 |_+1,0,_,_,_,_,_,mem=> .stop 5 mem 0
 | g +1,n+1,d,k,at',pile,loc,mem=>
   match IV fs k at' pile loc mem with
   | .inl (a,p,l,m)=>run fs g n d k a p l m
   | .inr (.inl p)=> .done (gives (fn fs k) p) mem n
   | .inr (.inr (.inl c))=> .stop c mem n
   | .inr (.inr (.inr (q,args,rest)))=>
     if 12<=d+1 then .stop 6 mem n else
     match run fs g n (d+1) q 0 [] (Jl (fn fs q) args) mem with
     | .inr (c,m,l)=> .stop c m l
     | .inl (v,m,l)=>run fs g l d k (at'+1) (rest++dK (fn fs q) v) loc m
def Rs.left:Rs->Nat
 | .inl (_,_,l)=>l
 | .inr (_,_,l)=>l
def Rs.more (e:Nat):Rs->Rs
 | .inl (v,m,l)=> .done v m (l+e)
 | .inr (c,m,l)=> .stop c m (l+e)
def Rs.ends:Rs->Prop
 | .inl _=>True
 | .inr (c,_,_)=>c≠5
variable {fs : List Fn} {g n d k at' : Nat} {pile loc mem : List Int}
def nf:Sr->Prop
 | .inr (.inr (.inl c))=>c≠5
 |_=>True
end Mn
namespace Mn
open Hg
structure QE (fs:List Fn):Prop where
 len:1<=fs.length/\fs.length<=4
 all:Md.bi fs=true
 acc:∀k,k<fs.length->Acc fs (fn fs k) (aG.ends (fn fs k).b) (aG.aS (fn fs k).b) (wP fs k)
theorem GG {fs:List Fn}{d:ByteArray}(h:Hg.valid fs d=true):QE fs:=by unfold Hg.valid at h;rw[au]at h;obtain⟨hok,hall⟩:=h;have Cu:Md.bi fs=true:=by{unfold Md.ok at hok;rw[au]at hok;exact hok.2};have hlen:1<=fs.length/\fs.length<=4:=by{unfold Md.ok at hok;simp only[au,Wd.bT]at hok;have:=hok.1.1;omega};refine⟨hlen,Cu,fun k hk=>?_⟩;rw[List.all_eq_true]at hall;have hs:=hall k (List.mem_range.2 hk);unfold fQ at hs;rw[ay ⟨hok,by omega,by omega⟩,az]at hs;obtain⟨⟨H,mo⟩,hr⟩:=Option.isSome_iff_exists.1 hs;have hr':fP fs (fn fs k)=some (H,mo):=hr;have hh:wP fs k=H:=by{unfold wP;rw[hr'];rfl};rw[hh];exact zB (Md.bf Cu hk) Cu hr'
theorem EO {fs:List Fn}(V:QE fs){k:Nat}(hk:k<fs.length):0<=(fn fs k).a/\(fn fs k).a<=3/\0<=(fn fs k).l/\(fn fs k).l<=3/\((fn fs k).g=0\/(fn fs k).g=1)/\(fn fs k).b.length<=80:=by have:=Md.bf V.all hk;simp only[Md.qA,au,decide_eq_true_eq,Wd.bT]at this;obtain⟨⟨a1,a2⟩,⟨a3,a4⟩,⟨a5,a6⟩,a7,-⟩:=this;exact⟨a1,a2,a3,a4,by show(fs.getD k .z).g=0\/(fs.getD k .z).g=1;omega,a7⟩
theorem oh {f:Fn}(hg:f.g=0\/f.g=1)(v:Int):((dK f v).length:Int)=f.g:=by unfold dK;rcases hg with h|h;{rw[ax (by omega),h];rfl};rw[ay h,h];rfl
def Rs.mem:Rs->List Int
 | .inl (_,m,_)=>m
 | .inr (_,m,_)=>m
def isOk (fs:List Fn)(d:ByteArray)(k:Int)(args:List Int)(fuel:Int):Bool:=
 Hg.valid fs d&&(decide (0<=k/\k<fs.length)&&(decide ((args.length:Int)=(fn fs k.toNat).a)&&(args.all Wd.ok&&decide (0<=fuel/\fuel<=3000))))
def out (fs:List Fn)(d:ByteArray)(k:Int)(args:List Int)(n:Nat):Rs:=run fs (n+1) n 0 k.toNat 0 [] (Jl (fn fs k.toNat) args) (Mm.new d)
end Mn
end Go.Proofs.YtlbkdlnalgkjeaaGreat
