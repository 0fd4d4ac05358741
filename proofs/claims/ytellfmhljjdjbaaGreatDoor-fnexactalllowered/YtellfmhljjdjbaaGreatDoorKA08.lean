/-
  Own texts for a law: Arr0 Mem1 Lin3 LinR BoxL Pile1 Low1 Low2 QTail
-/
import Derived.Test.YtellfmhljjdjbaaGreatDoorKA07
import Derived.Deep.WholeRow
import Derived.Stop.BytesEq
import Derived.Laws.CopyOwn
import Derived.Laws.ResultCell
import Derived.Deep.RegionLaw
import Derived.StillTail
namespace Go.Proofs.YtellfmhljjdjbaaGreatDoor
open Go.RowKit Go.Shelf
set_option linter.all false
set_option maxRecDepth 100000
set_option maxHeartbeats 16000000
def ny (W:World)(g:Nat)(t:TypeId)(vs:List Value):Prop:=W.heap[g]?=some (.cells vs.toArray t (0,0))
theorem ny.lt {W:World}{g:Nat}{t:TypeId}{vs:List Value}(h:ny W g t vs):g<W.heap.size:=(Array.getElem?_eq_some_iff.1 h).1
theorem ny.cell {W:World}{g:Nat}{t:TypeId}{vs:List Value}(h:ny W g t vs){j:Nat}{v:Value}(hj:vs[j]?=some v):W.cell? ⟨g,j,none⟩=some v:=by rw[cell_of_row W g j _ t _ h];simpa using hj
theorem ny.frozen {W:World}{g:Nat}{t:TypeId}{vs:List Value}(h:ny W g t vs)(j:Nat):W.frozen? ⟨g,j,none⟩=false:=frozen_of_row W g j _ t h
theorem ny.kept {W W':World}{g:Nat}{t:TypeId}{vs:List Value}(h:ny W g t vs)(hB:Below W.heap.size W W'):ny W' g t vs:=(hB.block g h.lt).trans h
theorem ny.eP {W W':World}{g:Nat}{t:TypeId}{vs:List Value}{row:Option Nat}(h:ny W g t vs)(hg:W.grownBy W' row)(hne:some g≠row):ny W' g t vs:=(hg.block g h.lt hne).trans h
theorem ny.set {W:World}{g:Nat}{t:TypeId}{vs:List Value}(h:ny W g t vs)(j:Nat)(v:Value):ny (W.setCell ⟨g,j,none⟩ v) g t (vs.set j v):=by have:=heap_setCell_same W g j vs.toArray t v h;unfold ny;rw[this];simp
theorem ny.row {W:World}{g:Nat}{t:TypeId}{vs:List Value}(h:ny W g t vs)(ws:List Value):ny (W.setRow g ws.toArray) g t ws:=setRow_heap W g _ _ t _ h
theorem gy {w w1 w2:World}{r:Nat}(h:Below w.heap.size w w1)(hg:w1.grownBy w2 (some r))(hr:w.heap.size<=r):Below w.heap.size w w2:=
 ⟨hg.os.trans h.os,hg.tape.trans h.tape,hg.output.trans h.output,Nat.le_trans h.size hg.size,fun k hk=>(hg.block k (ak hk h.size) (by simp only[ne_eq,ah];omega)).trans (h.block k hk)⟩
section
variable {P : Program}
variable {C : World → Prop}
end
theorem MM {bs:List Int}:∀v∈bs.map iv,v.oneCell'=true:=by intro v hv;obtain⟨b,_,rfl⟩:=List.mem_map.1 hv;rfl
theorem Jv {f:Int->Value}{bs:List Int}{k:Nat}(h:k<bs.length):(bs.map f)[k]?=some (f (bs.getD k 0)):=by rw[List.getElem?_map,aj h,ai,aj h];rfl
def OG (W:World)(n₀ g n c:Nat)(xs:List Int):Prop:=xs.length=n/\W.ownsRow n₀ 2 1 (.slice (some ⟨g,0,none⟩) n c) n (xs.map iv)
theorem OG.oi {W:World}{n₀ g n c:Nat}{xs:List Int}(h:OG W n₀ g n c xs):OI W n₀ (.slice (some ⟨g,0,none⟩) n c) xs:=by unfold OI;rw[h.1];exact h.2
theorem OG.lt {W:World}{n₀ g n c:Nat}{xs:List Int}(h:OG W n₀ g n c xs):n₀<=g/\g<W.heap.size:=World.ownsRow.lt h.2 g rfl
theorem OG.cap {W:World}{n₀ g n c:Nat}{xs:List Int}(h:OG W n₀ g n c xs):n<=c/\c<=maxLen:=by rcases h.2.2 with⟨e,-⟩|⟨g',cap,cur,e,hb,hc,hn,hm,-⟩;{cases e};cases e;exact⟨hn,hm⟩
theorem OG.cell {W:World}{n₀ g n c:Nat}{xs:List Int}(h:OG W n₀ g n c xs){j:Nat}(hj:j<n):W.cell? ⟨g,j,none⟩=some (.int .i64 (xs.getD j 0)):=by have hi:=(OI.il h.oi).2;obtain⟨-,-,h0|⟨b,o,e,hb,hx⟩⟩:=hi;{omega};simp only[ah,Addr.mk.injEq,and_true]at e;obtain⟨rfl,rfl⟩:=e;have:=hx j hj;rwa [Nat.zero_add]at this
theorem OG.kept {W W':World}{n₀ g n c:Nat}{xs:List Int}(h:OG W n₀ g n c xs)(hB:Below W.heap.size W W'):OG W' n₀ g n c xs:=⟨h.1,aG h.2 hB⟩
theorem OG.eP {W W':World}{n₀ g n c b:Nat}{xs:List Int}(h:OG W n₀ g n c xs)(hg:W.grownBy W' (some b))(hne:g≠b):OG W' n₀ g n c xs:=by refine⟨h.1,World.ownsRow.kept h.2 hg (.inr ?_)⟩;simp only[Value.ownBlock,ne_eq,ah];omega
theorem OG.mono {W:World}{n₀ n₁ g n c:Nat}{xs:List Int}(h:OG W n₁ g n c xs)(hn:n₀<=n₁):OG W n₀ g n c xs:=by have:=OI.mono h.oi hn;unfold OI at this;rw[h.1]at this;exact⟨h.1,this⟩
theorem OG.empty (W:World)(n₀:Nat)(hn:n₀<=W.heap.size):OG (W.alloc (.cells #[] 2)) n₀ W.heap.size 0 0 []:=⟨rfl,by simpa[OI]using OI.mono (OI.empty W) hn⟩
theorem OG.one (W:World)(n₀:Nat)(hn:n₀<=W.heap.size)(y:Int):OG (W.alloc (.cells #[.int .i64 y] 2)) n₀ W.heap.size 1 1 [y]:=
 ⟨rfl,rfl, .inr ⟨W.heap.size,1,#[.int .i64 y],rfl,hn,World.alloc_heap_new W _,Nat.le_refl _,by simp[maxLen],rfl,rfl⟩⟩
theorem mM {ops:Array Oper}{rest:List Oper}{o:Oper}{a:Act}{Q:Exit->Act->World->Prop}(W:World)(hgd:o.guard=none)(s x:Operand)(ho:o.op= .call {callee:= .builtin .append,args:=#[s,x],argTypes:=#[39,39]})(n₀ g n c:Nat)(xs:List Int)(hs:a.eval s= .slice (some ⟨g,0,none⟩) n c)(hown:OG W n₀ g n c xs)(sb so m sc:Nat)(ys:List Int)(hx:a.eval x= .slice (some ⟨sb,so,none⟩) m sc)(hym:ys.length=m)(hy:∀j,j<m->W.cell? ⟨sb,so+j,none⟩=some (.int .i64 (ys.getD j 0)))(hsz:n+m<=1048576)(hbase:n₀<=W.heap.size)(h:∀g' c' N W',Hid (N=n+m)->OG W' n₀ g' N c' (xs++ys)->W.grownBy W' (some g)->wpList Tryz.prog ops Q rest (a.put o.dst (.slice (some ⟨g',0,none⟩) N c')) W'):wpList Tryz.prog ops Q (o::rest) a W:=by obtain⟨i0,hi,hz0,hz1,hz2⟩:=info_parts dA;refine wpList_append_own W hgd s x 39 ho n₀ 2 i0 (.int .i64 0) 1 8 Tryz.underlying39 hi hz0 hz1 hz2 rfl (by decide) _ n (xs.map iv) hs hown.2 ⟨sb,so,none⟩ m sc (ys.map iv) hx (by rw[List.length_map,hym,Nat.mul_one]) (fun j u hu=>?_) MM (by simp only[maxLen];omega) (by omega) hbase (fun v' W' hown' hgrow hnn=>?_);{have hj:j<m:=by{have:=(List.getElem?_eq_some_iff.1 hu).1;rwa [List.length_map,hym]at this};rw[Jv (by rw[hym];exact hj)]at hu;cases hu;(have hadd:(⟨sb,so,none⟩:Addr).add j=⟨sb,so+j,none⟩:=by unfold Addr.add;split<;>simp_all);rw[hadd];exact hy j hj};rcases hown'.2 with⟨rfl,h0⟩|⟨g',cap',cur,rfl,r⟩;{exact absurd (hnn.1 rfl).1 (fun e=>by cases e)};refine h g' cap' (n+m) W' rfl ⟨by rw[List.length_append,hown.1,hym],?_⟩ hgrow;rw[List.map_append];exact hown'
theorem sw (n₀ g m c:Nat)(xs:List Int)(n:Int)(hm:m<=1000)(w:World)(hn:n₀<=w.heap.size)(ho:OG w n₀ g m c xs):Calls Tryz.prog 73 #[.slice (some ⟨g,0,none⟩) m c, .int .i64 n] w fun e w'=>∃g' m' c',e= .returned (.slice (some ⟨g',0,none⟩) m' c')/\OG w' n₀ g' m' c' (Ln.put xs n)/\Below w.heap.size w w':=by
 have hcap:=ho.cap
 have H5:=ho.lt
 have HX:=af ho.1
 have HC:Hid (∀j,j<m->w.cell? ⟨g,j,none⟩=some (.int .i64 (xs.getD j 0))):=fun j hj=>ho.cell hj
 have HO:=af ho
 clear ho
 go_enter Tryz.func73,Tryz.ntmps73
 go_wp2
 go_loopw [5] (fun i wr=>∃k:Nat,i= .int .i64 k/\k<=m/\Hid (∀j,j<k->xs.getD j 0<n)/\w=wr) (fun i _=>m-(intOf i).toNat)
 case atStart=>exact⟨0,rfl,Nat.zero_le _,(fun j hj=>by omega),rfl⟩
 case round=>
  obtain⟨k,rfl,hk,HL,aR⟩:=hrel
  subst aR
  have fin:Hid (∀(hge:k<m->n<=xs.getD k 0),Ln.put xs n=if k<m/\xs.getD k 0=n then xs else xs.take k++(n::xs.drop k)):=fun hge=>by have:=Ln.F7 n xs k (by rw[HX.out];exact hk) HL.out (fun h=>hge (by rw[HX.out]at h;exact h));rw[HX.out]at this;exact this
  have Ce:(k:Int)<=(m:Int):=by omega
  have hkc:(k:Int)<=(c:Int):=by omega
  have agr:(m:Int)<=(c:Int):=by omega
  have hqq:(k<m/\xs.getD k 0<n)\/(k<m/\xs.getD k 0=n)\/(k<m->n<=xs.getD k 0)/\¬(k<m/\xs.getD k 0=n):=by by_cases h1:k<m;{by_cases h2:xs.getD k 0<n;{exact .inl ⟨h1,h2⟩};by_cases h3:xs.getD k 0=n;{exact .inr (.inl ⟨h1,h3⟩)};exact .inr (.inr ⟨fun _=>by omega,fun h=>h3 h.2⟩)};exact .inr (.inr ⟨fun h=>absurd h h1,fun h=>h1 h.1⟩)
  rcases hqq with⟨hlt,hy⟩|⟨hlt,hy⟩|⟨hge,hno⟩
  · have ja:(k:Int)<(m:Int):=by{omega};have HL2:Hid (∀j,j<k+1->xs.getD j 0<n):=fun j hj=>by{by_cases e:j<k;{exact HL.out j e};obtain rfl:j=k:=by{omega};exact hy};have hc:=HC.out k hlt;obtain⟨y,UA⟩:∃y,xs.getD k 0=y:=⟨_,rfl⟩;rw[UA]at hc hy;clear UA;go_wp2;go_roundw;(case rel=>exact⟨k+1,by simp,hlt,HL2,by simp⟩);case measure=>simp[intOf];omega
  · have ja:(k:Int)<(m:Int):=by{omega};have hc:=HC.out k hlt;have HP:Hid (Ln.put xs n=xs):=by{show _=_;rw[fin.out (fun _=>by omega),az ⟨hlt,hy⟩]};rw[hy]at hc;clear hy fin HL;have hnn:¬(n<n):=by{omega};have hqn:(n==n)=true:=by{simp};go_wp2;go_ret;exact⟨g,m,c,rfl,by rw[HP.out];exact HO.out,Below.refl _ _⟩
  · have HP:Hid (Ln.put xs n=xs.take k++(n::xs.drop k)):=by show _=_;rw[fin.out hge,ay hno]
    clear fin HL
    have hB1:=aB w (.cells #[] 2)
    have yu:=af (OG.empty w w.heap.size (Nat.le_refl _))
    have HB1:=af hB1
    have hc1:Hid (∀j,j<m-k->(w.alloc (.cells #[] 2)).cell? ⟨g,k+j,none⟩=some (.int .i64 ((xs.drop k).getD j 0))):=fun j hj=>by rw[(hB1.cell (p:=⟨g,k+j,none⟩) H5.2).trans (HC.out (k+j) (by omega)),ai,ai,List.getElem?_drop]
    have hct:Hid (∀j,j<k->xs.getD j 0=(xs.take k).getD j 0):=fun j hj=>by rw[ai,ai,List.getElem?_take_of_lt hj]
    have HD:Hid ((xs.drop k).length=m-k/\(xs.take k).length=k):=⟨by rw[List.length_drop,HX.out],by rw[List.length_take,HX.out];omega⟩
    clear hB1
    have UB:(¬(k:Int)<(m:Int)/\c<=k)\/(¬(k:Int)<(m:Int)/\¬(k=c))\/((k:Int)<(m:Int)/\∃y,w.cell? ⟨g,k,none⟩=some (.int .i64 y)/\¬(y<n)/\(y==n)=false):=by by_cases hlt:k<m;{refine .inr (.inr ⟨by omega,xs.getD k 0,HC.out k hlt,?_,?_⟩);{have:=hge hlt;omega};have:¬(xs.getD k 0=n):=fun e=>hno ⟨hlt,e⟩;simpa using this};by_cases hkc:c<=k;{exact .inl ⟨by omega,hkc⟩};exact .inr (.inl ⟨by omega,by omega⟩)
    clear hge hno
    rcases UB with⟨hlt,hck⟩|⟨hlt,hne⟩|⟨hlt,y,hc,hyn,hyq⟩
    all_goals
     go_wp2_with(first
       |(at_builtin;refine mM _ rfl _ _ rfl w.heap.size _ _ _ [] rfl yu.out g k (m-k) (c-k) (xs.drop k) rfl HD.out.1 hc1.out (by omega) (by simp) ?_;intro g1 c1 N1 w1 hN1 ho1 iQ;have hB2:=gy HB1.out iQ (Nat.le_refl _);have hal:=aB w1 (.cells #[] 2);have HB3:=af (hB2.trans (hal.mono hB2.size));have HE2:=af (OG.empty w1 w1.heap.size (Nat.le_refl _));have HR1:=af (ho1.kept hal);have hsz1:=hB2.size;have hg1:=ho1.lt;have hc2:Hid (∀j,j<k->(w1.alloc (.cells #[] 2)).cell? ⟨g,0+j,none⟩=some (.int .i64 ((xs.take k).getD j 0))):=(fun j hj=>by rw[Nat.zero_add,(HB3.out.cell (p:=⟨g,j,none⟩) H5.2).trans (HC.out j (by omega)),hct.out j hj]);clear hB2 hal ho1 iQ)
       |(at_builtin;refine mM _ rfl _ _ rfl w.heap.size _ _ _ [] rfl yu.out g _ _ _ _ rfl HD.out.1 (fun j hj=>absurd hj (by omega)) (by omega) (by simp) ?_;intro g1 c1 N1 w1 hN1 ho1 iQ;have hB2:=gy HB1.out iQ (Nat.le_refl _);have hal:=aB w1 (.cells #[] 2);have HB3:=af (hB2.trans (hal.mono hB2.size));have HE2:=af (OG.empty w1 w1.heap.size (Nat.le_refl _));have HR1:=af (ho1.kept hal);have hsz1:=hB2.size;have hg1:=ho1.lt;have hc2:Hid (∀j,j<k->(w1.alloc (.cells #[] 2)).cell? ⟨g,0+j,none⟩=some (.int .i64 ((xs.take k).getD j 0))):=(fun j hj=>by rw[Nat.zero_add,(HB3.out.cell (p:=⟨g,j,none⟩) H5.2).trans (HC.out j (by omega)),hct.out j hj]);clear hB2 hal ho1 iQ)
       |(at_builtin;refine mM _ rfl _ _ rfl w1.heap.size _ _ _ [] rfl HE2.out g 0 _ _ (xs.take _) rfl HD.out.2 hc2.out (by omega) (by simp) ?_;intro g2 c2 N2 w2 EF ho2 NE;have hB4:=gy HB3.out NE hsz1;have hal:=aB w2 (.cells #[.int .i64 n] 2);have HB5:=af (hB4.trans (hal.mono hB4.size));have HR2:=af ((HR1.out.eP NE (by omega)).kept hal);have HO2:=af (ho2.kept hal);have hg2:=ho2.lt;have hc3:Hid (∀j,j<1->(w2.alloc (.cells #[.int .i64 n] 2)).cell? ⟨w2.heap.size,0+j,none⟩=some (.int .i64 (([n]:List Int).getD j 0))):=(fun j hj=>by obtain rfl:j=0:=(by omega);exact(OG.one w2 w2.heap.size (Nat.le_refl _) n).cell (j:=0) (by omega));clear hB4 hal ho2 NE HB3 HE2 HR1 hc2)
       |(at_builtin;refine mM _ rfl _ _ rfl w1.heap.size _ _ _ _ rfl HO2.out w2.heap.size 0 1 1 [n] rfl rfl hc3.out (by have:=EF.out;omega) (by simp;omega) ?_;intro g3 c3 N3 w3 Pk ho3 Kb;have UC:=af (gy HB5.out Kb (by omega));have HR3:=af (HR2.out.eP Kb (by omega));have HO3:=af ho3;have pF:=Kb.size;have hg3:=ho3.lt;have hc4:Hid (∀j,j<N1->w3.cell? ⟨g1,0+j,none⟩=some (.int .i64 (([]++xs.drop k).getD j 0))):=(fun j hj=>by rw[Nat.zero_add];exact HR3.out.cell hj);clear ho3 Kb HR2 HO2 hc3)
       |(at_builtin;refine mM _ rfl _ _ rfl w1.heap.size _ _ _ _ rfl HO3.out g1 0 N1 c1 ([]++xs.drop k) rfl HR3.out.1 hc4.out (by have:=EF.out;have:=Pk.out;have:=hN1.out;omega) (by simp at pF;omega) ?_;intro g4 c4 N4 w4 hN4 zW UD;have HB7:=af (gy UC.out UD (by omega));have HO4:=af zW;clear zW UD UC HR3 HO3 hc4))
     go_ret
     exact⟨g4,N4,c4,rfl,by rw[HP.out];simpa using HO4.out.mono (by omega),HB7.out⟩
abbrev Lv:=Int×Int×Int×Int×Int×Value
def fM:Lv:=(0,0,0,0,0, .slice none 0 0)
def dG (xs:List Lv):List Value:=xs.flatMap fun x=>[.int .i64 x.1, .int .i64 x.2.1, .int .i64 x.2.2.1, .int .i64 x.2.2.2.1, .int .i64 x.2.2.2.2.1,x.2.2.2.2.2]
theorem ic (x:Lv)(xs:List Lv):dG (x::xs)= .int .i64 x.1:: .int .i64 x.2.1:: .int .i64 x.2.2.1:: .int .i64 x.2.2.2.1:: .int .i64 x.2.2.2.2.1::x.2.2.2.2.2::dG xs:=rfl
theorem oV (xs:List Lv):(dG xs).length=xs.length*6:=by
 induction xs with
 |nil=>rfl
 |cons x xs ih=>rw[ic];simp only[List.length_cons,ih];omega
theorem kC:∀(xs:List Lv)(j:Nat),j<xs.length->(dG xs)[j*6]?=some (.int .i64 (xs.getD j fM).1)/\(dG xs)[j*6+1]?=some (.int .i64 (xs.getD j fM).2.1)/\(dG xs)[j*6+2]?=some (.int .i64 (xs.getD j fM).2.2.1)/\(dG xs)[j*6+3]?=some (.int .i64 (xs.getD j fM).2.2.2.1)/\(dG xs)[j*6+4]?=some (.int .i64 (xs.getD j fM).2.2.2.2.1)/\(dG xs)[j*6+5]?=some (xs.getD j fM).2.2.2.2.2
 |[],j,h=>by simp at h
 |x::xs,0,h=>⟨rfl,rfl,rfl,rfl,rfl,rfl⟩
 | x::xs,j+1,h=>by
   have ih:=kC xs j (by simpa using h)
   have e:(x::xs).getD (j+1) fM=xs.getD j fM:=rfl
   rw[e,ic]
   refine⟨?_,?_,?_,?_,?_,?_⟩
   · rw[show(j+1)*6=j*6+1+1+1+1+1+1 by omega];simp only[List.getElem?_cons_succ];exact ih.1
   · rw[show(j+1)*6+1=j*6+1+1+1+1+1+1+1 by omega];simp only[List.getElem?_cons_succ];exact ih.2.1
   · rw[show(j+1)*6+2=j*6+2+1+1+1+1+1+1 by omega];simp only[List.getElem?_cons_succ];exact ih.2.2.1
   · rw[show(j+1)*6+3=j*6+3+1+1+1+1+1+1 by omega];simp only[List.getElem?_cons_succ];exact ih.2.2.2.1
   · rw[show(j+1)*6+4=j*6+4+1+1+1+1+1+1 by omega];simp only[List.getElem?_cons_succ];exact ih.2.2.2.2.1
   · rw[show(j+1)*6+5=j*6+5+1+1+1+1+1+1 by omega];simp only[List.getElem?_cons_succ];exact ih.2.2.2.2.2
theorem vS:∀(xs:List Lv)(k:Nat)(x:Lv),dG (xs.set k x)=((((((dG xs).set (k*6) (.int .i64 x.1)).set (k*6+1) (.int .i64 x.2.1)).set (k*6+2) (.int .i64 x.2.2.1)).set (k*6+3) (.int .i64 x.2.2.2.1)).set (k*6+4) (.int .i64 x.2.2.2.2.1)).set (k*6+5) x.2.2.2.2.2
 |[],k,x=>rfl
 |y::xs,0,x=>rfl
 | y::xs,k+1,x=>by
   rw[List.set_cons_succ,ic,vS xs k x,ic]
   rw[show(k+1)*6=k*6+1+1+1+1+1+1 by omega]
   simp only[List.set_cons_succ]
def jL (W:World)(n₀ k:Nat)(vs:List Lv)(fs:List Ln):Prop:=
 ∀j,j<k->(vs.getD j fM).1=(fs.getD j .z).k/\(vs.getD j fM).2.1=(fs.getD j .z).d/\(vs.getD j fM).2.2.1=(fs.getD j .z).a/\(vs.getD j fM).2.2.2.1=(fs.getD j .z).b/\(vs.getD j fM).2.2.2.2.1=(fs.getD j .z).n/\OI W n₀ (vs.getD j fM).2.2.2.2.2 (fs.getD j .z).l
theorem jL.kept {W W':World}{n₀ k:Nat}{vs:List Lv}{fs:List Ln}(h:jL W n₀ k vs fs)(hB:Below W.heap.size W W'):jL W' n₀ k vs fs:=fun j hj=>by
 obtain⟨h0,h1,h2,h3,h4,h5⟩:=h j hj
 exact⟨h0,h1,h2,h3,h4,h5.kept hB⟩
theorem jL.other {W W':World}{n₀ k b:Nat}{vs:List Lv}{fs:List Ln}(h:jL W n₀ k vs fs)(hg:W.grownBy W' (some b))(hne:b<n₀):jL W' n₀ k vs fs:=fun j hj=>by
 obtain⟨h0,h1,h2,h3,h4,h5⟩:=h j hj
 exact⟨h0,h1,h2,h3,h4,h5.eP hg (fun g hgg=>by have:=(World.ownsRow.lt h5 g hgg).1;omega)⟩
theorem jL.mono {W:World}{n₀ n₁ k:Nat}{vs:List Lv}{fs:List Ln}(h:jL W n₁ k vs fs)(hn:n₀<=n₁):jL W n₀ k vs fs:=fun j hj=>by
 obtain⟨h0,h1,h2,h3,h4,h5⟩:=h j hj
 exact⟨h0,h1,h2,h3,h4,h5.mono hn⟩
theorem vK {W:World}{n₀ n₁ g n cap:Nat}{vs:List Lv}{fs:List Ln}(h:W.ownsRow n₀ 41 6 (.slice (some ⟨g,0,none⟩) n cap) n (dG vs))(hn:fs.length=n)(ht:jL W n₁ n vs fs):LL W (some ⟨g,0,none⟩) n fs:=by have hv:n=vs.length:=by{have:=h.1;rw[oV]at this;omega};have hlt:=World.ownsRow.lt h g rfl;have hmx:n<=maxLen:=by{rcases h.2 with⟨h',_⟩|⟨g',cap',cur,h',_,_,hc,hm,_⟩;{cases h'};cases h';exact Nat.le_trans hc hm};refine⟨hn,hmx, .inr ⟨g,0,rfl,hlt.2,fun j hj=>?_⟩⟩;obtain⟨g0,g1,g2,g3,g4,g5⟩:=kC vs j (by omega);obtain⟨t0,t1,t2,t3,t4,t5⟩:=ht j hj;rw[Nat.zero_add];refine⟨(World.ownsRow.cellAt h (j*6) (by omega)).trans (by rw[g0,t0]),(World.ownsRow.cellAt h (j*6+1) (by omega)).trans (by rw[g1,t1]),(World.ownsRow.cellAt h (j*6+2) (by omega)).trans (by rw[g2,t2]),(World.ownsRow.cellAt h (j*6+3) (by omega)).trans (by rw[g3,t3]),(World.ownsRow.cellAt h (j*6+4) (by omega)).trans (by rw[g4,t4]),?_⟩;obtain⟨sa,sc,e,hs⟩:=t5.slice;exact⟨sa,_,sc,(World.ownsRow.cellAt h (j*6+5) (by omega)).trans (by rw[g5,e]),hs⟩
def tK (W:World)(n₀:Nat)(v:Value)(fs:List Ln):Prop:=
 ∃g cap vs,v= .slice (some ⟨g,0,none⟩) fs.length cap/\W.ownsRow n₀ 41 6 (.slice (some ⟨g,0,none⟩) fs.length cap) fs.length (dG vs)/\jL W n₀ fs.length vs fs
theorem tK.LL {W:World}{n₀:Nat}{v:Value}{fs:List Ln}(h:tK W n₀ v fs):∃g cap,v= .slice (some ⟨g,0,none⟩) fs.length cap/\n₀<=g/\g<W.heap.size/\Go.Proofs.YtellfmhljjdjbaaGreatDoor.LL W (some ⟨g,0,none⟩) fs.length fs:=by obtain⟨g,cap,vs,rfl,hrow,ht⟩:=h;exact⟨g,cap,rfl,(World.ownsRow.lt hrow g rfl).1,(World.ownsRow.lt hrow g rfl).2,vK hrow rfl ht⟩
theorem vz:(Tryz.prog.info? 41).map (fun i=>(i.zero,i.size,i.bytes))=some (some (.agg #[.int .i64 0, .int .i64 0, .int .i64 0, .int .i64 0, .int .i64 0, .slice none 0 0]),6,64):=by kernel_rfl
def bG (W:World)(b:Nat)(vs:List Value):Prop:=b<W.heap.size/\∀i x,vs[i]?=some x->W.cell? ⟨b,i,none⟩=some x/\W.frozen? ⟨b,i,none⟩=false
theorem bG.eP {W W':World}{b:Nat}{row:Option Nat}{vs:List Value}(h:bG W b vs)(hg:W.grownBy W' row)(hne:row≠some b):bG W' b vs:=by have hb:=hg.block b h.1 (fun e=>hne e.symm);refine⟨ak h.1 hg.size,fun i x hx=>?_⟩;obtain⟨h1,h2⟩:=h.2 i x hx;exact⟨(World.cell?_of_block hb).trans h1,by unfold World.frozen?;rw[hb];exact h2⟩
theorem bG.kept {W W':World}{b:Nat}{vs:List Value}(h:bG W b vs)(hB:Below W.heap.size W W'):bG W' b vs:=h.eP (row:=none) ⟨hB.os,hB.tape,hB.output,hB.size,fun k hk _=>hB.block k hk⟩ (by simp)
theorem bG.new (W:World)(vs:List Value)(t:TypeId):bG (W.alloc (.cells vs.toArray t)) W.heap.size vs:=by refine⟨by simp,fun i x hx=>⟨?_,by simp⟩⟩;rw[World.cell?_alloc_at _ _ _ _ rfl];simpa using hx
theorem bG.set {W:World}{b:Nat}{vs:List Value}(h:bG W b vs)(i:Nat)(x:Value):bG (W.setCell ⟨b,i,none⟩ x) b (vs.set i x):=by refine⟨by simpa[World.setCell]using h.1,fun j y hy=>?_⟩;by_cases e:i=j;{subst e;have hi:i<vs.length:=by{rcases Nat.lt_or_ge i vs.length with h'|h';{exact h'};rw[List.getElem?_eq_none (by simpa using h')]at hy;cases hy};rw[List.getElem?_set_self hi]at hy;cases hy;obtain⟨h1,h2⟩:=h.2 i vs[i] (aj hi);exact⟨World.cell?_setCell_same _ _ _ h1,by simpa using h2⟩};rw[List.getElem?_set_ne e]at hy;obtain⟨h1,h2⟩:=h.2 j y hy;exact⟨(World.cell?_setCell_other _ _ _ _ (fun q=>e (by cases q;rfl))).trans h1,by simpa using h2⟩
theorem Hq {ops:Array Oper}{o:Oper}{a:Act}{K:Act->World->Prop}{Q:Exit->Act->World->Prop}{E:Prop}(w:World)(hgd:o.guard=none)(s x:Operand)(t:TypeId)(ho:o.op= .call {callee:= .builtin .append,args:=#[s,x],argTypes:=#[t,t]})(base:Nat)(e:TypeId)(i:TypeInfo)(z:Value)(size bytes:Nat)(ht:Tryz.prog.underlying t=some (.slice e))(hi:Tryz.prog.info? e=some i)(hz:i.zero=some z)(hsize:i.size=size)(hby:i.bytes=bytes)(hzs:z.cells.size=size)(hsz:0<size)(v:Value)(n:Nat)(xs:List Value)(hs:a.eval s=v)(hown:w.ownsRow base e size v n xs)(ad:Addr)(m c:Nat)(news:List Value)(hx:a.eval x= .slice (some ad) m c)(hl:news.length=m*size)(hnews:∀j u,news[j]?=some u->w.cell? (ad.add j)=some u)(h1:∀u∈news,u.oneCell'=true)(h63:n+m<=maxLen)(hbytes:(n+m)*bytes<=140737488355328)(hbase:base<=w.heap.size)(h:∀v' w',w'.ownsRow base e size v' (n+m) (xs++news)->w.grownBy w' v.ownBlock->(v'= .slice none 0 0↔v= .slice none 0 0/\m=0)->K (a.put o.dst v') w'):if Region.wanted o (yielded ops a.tmps)=true then Oper.wp Tryz.prog o a w K Q else E:=by have hw:Region.wanted o (yielded ops a.tmps)=true:=by{simp[Region.wanted,hgd]};rw[az hw];exact wp_append_own w s x t ho base e i z size bytes ht hi hz hsize hby hzs hsz v n xs hs hown ad m c news hx hl hnews h1 h63 hbytes hbase h
section
def kN (W:World)(b:Nat)(v0 v1 v2 v3 v4:Value):Prop:=
 b <W.heap.size/\(W.cell? ⟨b,0,none⟩=some v0/\W.cell? ⟨b,1,none⟩=some v1/\W.cell? ⟨b,2,none⟩=some v2/\W.cell? ⟨b,3,none⟩=some v3/\W.cell? ⟨b,4,none⟩=some v4)/\
   W.frozen? ⟨b,0,none⟩=false/\W.frozen? ⟨b,1,none⟩=false/\W.frozen? ⟨b,2,none⟩=false/\W.frozen? ⟨b,3,none⟩=false/\W.frozen? ⟨b,4,none⟩=false
theorem kN.eP {W W':World}{b:Nat}{row:Option Nat}{v0 v1 v2 v3 v4:Value}(h:kN W b v0 v1 v2 v3 v4)(hg:W.grownBy W' row)(hne:row≠some b):kN W' b v0 v1 v2 v3 v4:=by obtain⟨h0,⟨c0,c1,c2,c3,c4⟩,f0,f1,f2,f3,f4⟩:=h;have hb:=hg.block b h0 (fun e=>hne e.symm);have hc:∀i,W'.cell? ⟨b,i,none⟩=W.cell? ⟨b,i,none⟩:=fun i=>World.cell?_of_block hb;have hf:∀i,W'.frozen? ⟨b,i,none⟩=W.frozen? ⟨b,i,none⟩:=fun i=>by{unfold World.frozen?;rw[hb]};exact⟨ak h0 hg.size,⟨(hc _).trans c0,(hc _).trans c1,(hc _).trans c2,(hc _).trans c3,(hc _).trans c4⟩,(hf _).trans f0,(hf _).trans f1,(hf _).trans f2,(hf _).trans f3,(hf _).trans f4⟩
theorem kN.new (W:World)(v0 v1 v2 v3 v4:Value)(t:TypeId):kN (W.alloc (.cells #[v0,v1,v2,v3,v4] t)) W.heap.size v0 v1 v2 v3 v4:=by refine⟨by simp,⟨?_,?_,?_,?_,?_⟩,?_,?_,?_,?_,?_⟩<;>go_simp
theorem kN.QA {W:World}{b:Nat}{v0 v1 v2 v3 v4:Value}(h:kN W b v0 v1 v2 v3 v4)(x:Value):kN (W.setCell ⟨b,1,none⟩ x) b v0 x v2 v3 v4:=by obtain⟨h0,⟨c0,c1,c2,c3,c4⟩,f0,f1,f2,f3,f4⟩:=h;refine⟨by simpa[World.setCell]using h0,⟨?_,?_,?_,?_,?_⟩,?_,?_,?_,?_,?_⟩<;>go_simp
theorem kN.XD {W:World}{b:Nat}{v0 v1 v2 v3 v4:Value}(h:kN W b v0 v1 v2 v3 v4)(x:Value):kN (W.setCell ⟨b,4,none⟩ x) b v0 v1 v2 v3 x:=by obtain⟨h0,⟨c0,c1,c2,c3,c4⟩,f0,f1,f2,f3,f4⟩:=h;refine⟨by simpa[World.setCell]using h0,⟨?_,?_,?_,?_,?_⟩,?_,?_,?_,?_,?_⟩<;>go_simp
structure PS (w:World)(m0 N gE gO:Nat)(a:Option Addr)(len cap:Nat)(E O:List Int)(S:List Nat)(b:Bool)(W:World):Prop where
 bQ:Below w.heap.size w W
 hm:m0<=W.heap.size
 iN:w.heap.size<=N/\N<m0
 iE:w.heap.size<=gE/\gE<m0
 iO:w.heap.size<=gO/\gO<m0
 ne:N≠gE/\N≠gO/\gE≠gO
 rE:W.ownsRow w.heap.size 2 1 (.slice (some ⟨gE,0,none⟩) len len) len (E.map iv)
 rO:W.ownsRow w.heap.size 2 1 (.slice (some ⟨gO,0,none⟩) len len) len (O.map iv)
 st:∃v,kN W N (.slice a len cap) v (.slice (some ⟨gE,0,none⟩) len len) (.slice (some ⟨gO,0,none⟩) len len) (.bool b)/\W.ownsRow m0 2 1 v S.length ((eG S.reverse).map iv)
variable {w : World} {m0 N gE gO : Nat} {a : Option Addr} {len cap : Nat} {E O : List Int} {S : List Nat} {b : Bool} {W : World}
theorem PS.kept {W':World}(h:PS w m0 N gE gO a len cap E O S b W)(hB:Below W.heap.size W W'):PS w m0 N gE gO a len cap E O S b W':=by obtain⟨v,hb,hr⟩:=h.st;exact{h with bQ:=h.bQ.trans (hB.mono h.bQ.size),hm:=Nat.le_trans h.hm hB.size,rE:=aG h.rE hB,rO:=aG h.rO hB,st:=⟨v,hb.eP (row:=none) ⟨hB.os,hB.tape,hB.output,hB.size,fun k hk _=>hB.block k hk⟩ (by simp),aG hr hB⟩}
theorem bf {W:World}{n₀ e k n:Nat}{v:Value}{xs:List Value}(h:W.ownsRow n₀ e k v n xs):∃a cap,v= .slice a n cap:=by rcases h.2 with⟨rfl,h0⟩|⟨g,cap,cur,rfl,_⟩;{exact⟨none,0,by rw[h0]⟩};exact⟨_,cap,rfl⟩
theorem PS.apart (h:PS w m0 N gE gO a len cap E O S b W){v:Value}{n:Nat}{xs:List Value}(hr:W.ownsRow m0 2 1 v n xs):∀g,v.ownBlock=some g->g≠N/\g≠gE/\g≠gO:=by intro g hg;have h1:=(hr.lt g hg).1;have:=h.iN;have:=h.iE;have:=h.iO;omega
theorem wX {W W':World}{row:Option Nat}(h:Below W.heap.size W W'):W.grownBy W' row:=⟨h.os,h.tape,h.output,h.size,fun k hk _=>h.block k hk⟩
theorem PS.row {wA:World}{v:Value}{n:Nat}{xs:List Value}(hs:PS w m0 N gE gO a len cap E O S b W)(hr:W.ownsRow m0 2 1 v n xs)(hg:W.grownBy wA v.ownBlock){v':Value}{S':List Nat}(hown:wA.ownsRow m0 2 1 v' S'.length ((eG S'.reverse).map iv)):PS w m0 N gE gO a len cap E O S' b (wA.setCell ⟨N,1,none⟩ v'):=by have hap:=hs.apart hr;have hN:=hs.iN;have hEi:=hs.iE;have hOi:=hs.iO;obtain⟨n1,n2,n3⟩:=hs.ne;obtain⟨vv,hb,-⟩:=hs.st;have jU:=hb.eP hg (fun e=>by have:=hap N e;omega);have hg2:=aP wA ⟨N,1,none⟩ v';have off:∀{g:Nat}{ys:List Value},W.ownsRow w.heap.size 2 1 (.slice (some ⟨g,0,none⟩) len len) len ys->(∀x,v.ownBlock=some x->x≠g)->g≠N->(wA.setCell ⟨N,1,none⟩ v').ownsRow w.heap.size 2 1 (.slice (some ⟨g,0,none⟩) len len) len ys:=by{intro g ys hrg h1 h2;have e1:wA.ownsRow w.heap.size 2 1 (.slice (some ⟨g,0,none⟩) len len) len ys:=hrg.kept hg (.inr (fun e=>h1 g e.symm rfl));exact dJ e1 hg2 h2};have hB1:=hs.bQ.grown hg hs.bQ.size (fun j ej=>by have:=(hr.lt j ej).1;omega);refine⟨hB1.setCell (p:=⟨N,1,none⟩) hN.1 _,?_,hN,hEi,hOi,hs.ne,off hs.rE (fun x hx=>(hap x hx).2.1) (by omega),off hs.rO (fun x hx=>(hap x hx).2.2) (by omega),v',jU.QA v',?_⟩;{have h1:=hs.hm;have h2:=hg.size;simp[World.setCell];omega};refine hown.kept hg2 ?_;rcases hv:v'.ownBlock with _|x;{exact .inl rfl};refine .inr ?_;have:=(hown.lt x hv).1;simp only[ne_eq,ah];omega
theorem Gj (k:Nat)(hS:S.length<=80)(hs:PS w m0 N gE gO a len cap E O S b W):Calls Tryz.prog 155 #[.pointer (some ⟨N,1,none⟩), .int .i64 k] W fun e w'=>e= .returned (.tuple #[])/\PS w m0 N gE gO a len cap E O (k::S) b w':=by
 obtain⟨i0,hi,hz0,hz1,hz2⟩:=info_parts dA
 obtain⟨v,hb,hr⟩:=id hs.st
 obtain⟨av,cv,rfl⟩:=bf hr
 obtain⟨h0,⟨c0,c1,c2,c3,c4⟩,f0,f1,f2,f3,f4⟩:=id hb
 have HRW:=af (hr.alloc (.cells #[.int .i64 (k:Int)] 2))
 have HS:=af (hs.kept (aB W (.cells #[.int .i64 (k:Int)] 2)))
 have HB:=af (hb.eP (row:=none) (wX (aB W (.cells #[.int .i64 (k:Int)] 2))) (by simp))
 have hap:=hs.apart hr
 have hsz:=hs.hm
 clear hr hb hs c0 c2 c3 c4 f0 f2 f3 f4
 go_enter Tryz.func155,Tryz.ntmps155
 go_wp2_with(at_builtin;refine wpList_append_own _ rfl _ _ 39 rfl m0 2 i0 (.int .i64 0) 1 8 Tryz.underlying39 hi hz0 hz1 hz2 rfl (by decide) _ _ _ rfl HRW.out ⟨W.heap.size,0,none⟩ 1 1 [.int .i64 (k:Int)] rfl rfl (fZ _ _ _ _ rfl) (by simp[Value.oneCell']) (by simp only[maxLen];omega) (by omega) (by simp;omega) ?_;intro v' wA hown' hgrow _;obtain⟨g',cap',rfl⟩:=ownsRow_succ hown';have jU:=HB.out.eP hgrow (fun e=>(hap N e).1 rfl);have cA:=jU.2.1.2.1;have fA:=jU.2.2.2.1;have fE:=af (au hown' hgrow);clear hown' hgrow jU)
 (try simp only[Exit.inBlock,Exit.then])
 refine bodyPost_end (results_none rfl _ _ _) rfl ⟨rfl,?_⟩
 have h2:=HS.out.row (S':=k::S) HRW.out fE.out.2 (v':= .slice (some ⟨g',0,none⟩) (S.length+1) cap') (by
  have e:(eG (k::S).reverse).map iv=(eG S.reverse).map iv++[.int .i64 (k:Int)]:=by simp[eG,iv]
  rw[e,List.length_cons]
  exact fE.out.1)
 exact h2
theorem PS.dH {t:Nat}(hs:PS w m0 N gE gO a len cap E O (t::S) b W):∃g c,kN W N (.slice a len cap) (.slice (some ⟨g,0,none⟩) (S.length+1) c) (.slice (some ⟨gE,0,none⟩) len len) (.slice (some ⟨gO,0,none⟩) len len) (.bool b)/\W.ownsRow m0 2 1 (.slice (some ⟨g,0,none⟩) (S.length+1) c) (S.length+1) ((eG (t::S).reverse).map iv)/\W.cell? ⟨g,S.length,none⟩=some (.int .i64 (t:Int)):=by obtain⟨v,hb,hr⟩:=hs.st;rw[List.length_cons]at hr;obtain⟨g,c,rfl⟩:=ownsRow_succ hr;refine⟨g,c,hb,hr,?_⟩;have:=dR (xs:=eG (t::S).reverse) hr (k:=S.length) (by simp) 0;rw[this];simp[eG]
theorem vo (hs:PS w m0 N gE gO a len cap E O [] b W):Calls Tryz.prog 165 #[.pointer (some ⟨N,1,none⟩)] W fun e w'=>e= .returned (.tuple #[.int .i64 0, .bool false])/\w'=W:=by obtain⟨v,hb,hr⟩:=id hs.st;obtain⟨av,cv,rfl⟩:=bf hr;obtain⟨h0,⟨c0,c1,c2,c3,c4⟩,f0,f1,f2,f3,f4⟩:=id hb;clear hr hb hs;simp only[List.length_nil]at c1;go_enter Tryz.func165,Tryz.ntmps165;go_wp2;go_ret2;exact⟨rfl,rfl⟩
theorem tH (t:Nat)(hS:S.length<=80)(hs:PS w m0 N gE gO a len cap E O (t::S) b W):Calls Tryz.prog 165 #[.pointer (some ⟨N,1,none⟩)] W fun e w'=>e= .returned (.tuple #[.int .i64 t, .bool true])/\Below W.heap.size W w':=by obtain⟨g,c,hb,hr,hc⟩:=hs.dH;obtain⟨h0,⟨c0,c1,c2,c3,c4⟩,f0,f1,f2,f3,f4⟩:=id hb;clear hr hb hs c0 c2 c3 c4 f0 f1 f2 f3 f4;go_enter Tryz.func165,Tryz.ntmps165;go_wp2;go_region;go_wp2;go_ret2;exact⟨rfl,(Below.refl W.heap.size W).drew⟩
theorem Bg (hs:PS w m0 N gE gO a len cap E O [] b W):Calls Tryz.prog 166 #[.pointer (some ⟨N,1,none⟩)] W fun e w'=>e= .returned (.tuple #[.int .i64 0, .bool false])/\w'=W:=by have hcon:=vo hs;clear hs;go_enter Tryz.func166,Tryz.ntmps166;go_wp2_with fail;refine hcon.mono ?_;rintro e w1 ⟨rfl,rfl⟩;clear hcon;go_wp2;go_ret2;exact⟨rfl,rfl⟩
theorem DD (t:Nat)(hS:S.length<=80)(hs:PS w m0 N gE gO a len cap E O (t::S) b W):Calls Tryz.prog 166 #[.pointer (some ⟨N,1,none⟩)] W fun e w'=>e= .returned (.tuple #[.int .i64 t, .bool true])/\PS w m0 N gE gO a len cap E O S b w':=by go_enter Tryz.func166,Tryz.ntmps166;go_wp2_with fail;refine(tH t hS hs).mono ?_;rintro e w1 ⟨rfl,hB1⟩;replace hs:=hs.kept (hB1.trans ((Below.refl w1.heap.size w1).drew.mono hB1.size));clear hB1;obtain⟨g,c,hb,hr,hc⟩:=hs.dH;obtain⟨h0,⟨c0,c1,c2,c3,c4⟩,f0,f1,f2,f3,f4⟩:=id hb;have HS:=af hs;have HR:=af hr;have hcap:S.length+1<=c:=by{rcases hr.2 with⟨h',_⟩|⟨g',cap',cur,h',_,_,hc,_⟩;{cases h'};cases h';exact hc};clear hr hb hs c0 c2 c3 c4 f0 f2 f3 f4 hc;go_wp2;go_region;go_wp2;go_ret2;refine⟨rfl,?_⟩;have hcut:=ry HR.out S.length (by omega);have e:((eG (t::S).reverse).map iv).take S.length=(eG S.reverse).map iv:=by{simp[eG]};rw[e]at hcut;exact HS.out.row HR.out (World.grownBy.refl _ _) hcut
end
structure LX where
 B:Nat
 ha:Option Addr
 hc:Nat
 ea:Option Addr
 ec:Nat
 ba:Option Addr
 bc:Nat
 fs:List Fn
 f:Fn
 E:List Int
 O:List Int
 H:List Int
def LX.jK (c:LX)(v vg:Value):List Value:=
 [v,vg, .int .i64 (Lw.wd c.f), .slice c.ha c.f.b.length c.hc, .slice c.ea c.f.b.length c.ec, .slice c.ba c.f.b.length c.bc, .int .i64 c.f.g]
structure TX (c:LX)(W0:World):Prop where
 lt:W0.heap.size<=c.B
 hH:IL W0 c.ha c.f.b.length c.H
 hE:IL W0 c.ea c.f.b.length c.E
 hS:SL W0 c.ba c.f.b.length c.f.b
 acc:Hg.Acc c.fs c.f c.E c.O c.H
 ok:0<=c.f.a/\c.f.a<=3/\0<=c.f.l/\c.f.l<=3/\(c.f.g=0\/c.f.g=1)/\c.f.b.length<=80
 all:St.bi c.f.b=true
 val:Mn.O7 c.fs
structure MK (c:LX)(W0 W:World)(v vg:Value)(out:List (Ln×Int))(P:Nat->Prop):Prop where
 bQ:Below W0.heap.size W0 W
 box:bG W c.B (c.jK v vg)
 sz:c.B+1<=W.heap.size
 row:∃vs:List Lv,W.ownsRow (c.B+1) 41 6 v out.length (dG vs)/\vs.length=out.length/\jL W (c.B+1) out.length vs (out.map (·.1))/\∀j,j<out.length->∀g,(vs.getD j fM).2.2.2.2.2.ownBlock=some g->vg.ownBlock≠some g/\P g
 zX:OI W (c.B+1) vg (out.map (·.2))
structure FX (c:LX)(v vg v' jI:Value)(W W':World):Prop where
 os:W'.os=W.os
 tape:W'.tape=W.tape
 out:W'.output=W.output
 size:W.heap.size<=W'.heap.size
 Aq:∀i,i<W.heap.size->i≠c.B->v.ownBlock≠some i->vg.ownBlock≠some i->W'.heap[i]?=W.heap[i]?
 v1:v'.ownBlock=v.ownBlock\/∃g,v'.ownBlock=some g/\W.heap.size<=g
 g1:jI.ownBlock=vg.ownBlock\/∃g,jI.ownBlock=some g/\W.heap.size<=g
theorem FX.refl (c:LX)(v vg:Value)(W:World):FX c v vg v vg W W:=⟨rfl,rfl,rfl,Nat.le_refl _,fun _ _ _ _ _=>rfl, .inl rfl, .inl rfl⟩
theorem FX.trans {c:LX}{v vg v' jI v2 wI:Value}{W W' W2:World}(h:FX c v vg v' jI W W')(k:FX c v' jI v2 wI W' W2):FX c v vg v2 wI W W2:=by refine⟨k.os.trans h.os,k.tape.trans h.tape,k.out.trans h.out,Nat.le_trans h.size k.size,fun i hi hB hv hg=>?_,?_,?_⟩;{refine(k.Aq i (ak hi h.size) hB ?_ ?_).trans (h.Aq i hi hB hv hg);{rcases h.v1 with e|⟨g,e,hge⟩;{rw[e];exact hv};rw[e];simp only[ne_eq,ah];omega};rcases h.g1 with e|⟨g,e,hge⟩;{rw[e];exact hg};rw[e];simp only[ne_eq,ah];omega};{rcases k.v1 with e|⟨g,e,hge⟩;{rw[e];exact h.v1};exact .inr ⟨g,e,Nat.le_trans h.size hge⟩};rcases k.g1 with e|⟨g,e,hge⟩;{rw[e];exact h.g1};exact .inr ⟨g,e,Nat.le_trans h.size hge⟩
theorem FX.below {c:LX}{v vg:Value}{W W':World}(h:Below W.heap.size W W'):FX c v vg v vg W W':=⟨h.os,h.tape,h.output,h.size,fun i hi _ _ _=>h.block i hi, .inl rfl, .inl rfl⟩
theorem FX.rows {c:LX}{v vg v' jI:Value}{W W':World}(h:FX c v vg v' jI W W'){n₀ e k n:Nat}{u:Value}{xs:List Value}(hr:W.ownsRow n₀ e k u n xs)(hn:∀g,u.ownBlock=some g->g≠c.B/\v.ownBlock≠some g/\vg.ownBlock≠some g):W'.ownsRow n₀ e k u n xs:=by refine⟨hr.1,?_⟩;rcases hr.2 with h'|⟨g',cap',cur,h',h1,h2,r⟩;{exact .inl h'};have hg:=hn g' (by rw[h'];rfl);exact .inr ⟨g',cap',cur,h',h1,(h.Aq g' (Array.getElem?_eq_some_iff.1 h2).1 hg.1 hg.2.1 hg.2.2).trans h2,r⟩
theorem MK.kept {c:LX}{W0 W W':World}{v vg:Value}{out:List (Ln×Int)}{P:Nat->Prop}(h:MK c W0 W v vg out P)(hB:Below W.heap.size W W'):MK c W0 W' v vg out P:=by obtain⟨vs,h1,h2,h3,h4⟩:=h.row;exact⟨h.bQ.trans (hB.mono h.bQ.size),h.box.kept hB,Nat.le_trans h.sz hB.size,⟨vs,aG h1 hB,h2,h3.kept hB,h4⟩,h.zX.kept hB⟩
theorem MK.gL {c:LX}{W0 W:World}{v vg:Value}{out:List (Ln×Int)}{P P':Nat->Prop}(h:MK c W0 W v vg out P)(hP:∀g,P g->P' g):MK c W0 W v vg out P':=by obtain⟨vs,h1,h2,h3,h4⟩:=h.row;exact⟨h.bQ,h.box,h.sz,⟨vs,h1,h2,h3,fun j hj g e=>⟨(h4 j hj g e).1,hP g (h4 j hj g e).2⟩⟩,h.zX⟩
theorem aV {W:World}{n₀ e k n:Nat}{v:Value}{xs:List Value}(h:W.ownsRow n₀ e k v n xs){g:Nat}(hg:v.ownBlock=some g):n₀<=g/\g<W.heap.size:=World.ownsRow.lt h g hg
theorem dD {W:World}{b0 b1 e0 e1 k0 k1 n0 n1:Nat}{u v:Value}{xs ys:List Value}(h0:W.ownsRow b0 e0 k0 u n0 xs)(h1:W.ownsRow b1 e1 k1 v n1 ys)(he:e0≠e1){g:Nat}(hg:u.ownBlock=some g):v.ownBlock≠some g:=by intro hv;rcases h0.2 with⟨rfl,-⟩|⟨g0,c0,agv,rfl,-,hb0,-⟩;{cases hg};rcases h1.2 with⟨rfl,-⟩|⟨g1,c1,Kc,rfl,-,hb1,-⟩;{cases hv};simp only[Value.ownBlock,ah]at hg hv;subst hg;subst hv;rw[hb0]at hb1;cases hb1;exact he rfl
theorem cZ {W W':World}{n₀ e k n:Nat}{u:Value}{xs:List Value}{row:Option Nat}(h:W.ownsRow n₀ e k u n xs)(hg:W.grownBy W' row)(hne:∀g,u.ownBlock=some g->row≠some g):W'.ownsRow n₀ e k u n xs:=by refine⟨h.1,?_⟩;rcases h.2 with h'|⟨g',cap',cur,h',h1,h2,r⟩;{exact .inl h'};exact .inr ⟨g',cap',cur,h',h1,(hg.block g' (Array.getElem?_eq_some_iff.1 h2).1 (fun e=>hne g' (by rw[h'];rfl) e.symm)).trans h2,r⟩
theorem jL.eP {W W':World}{n₀ k:Nat}{vs:List Lv}{fs:List Ln}{row:Option Nat}(h:jL W n₀ k vs fs)(hg:W.grownBy W' row)(hne:∀j,j<k->∀g,(vs.getD j fM).2.2.2.2.2.ownBlock=some g->row≠some g):jL W' n₀ k vs fs:=fun j hj=>by
 obtain⟨h0,h1,h2,h3,h4,h5⟩:=h j hj
 exact⟨h0,h1,h2,h3,h4,cZ h5 hg (hne j hj)⟩
theorem bq {w w1 w2:World}{row:Option Nat}(h:Below w.heap.size w w1)(hg:w1.grownBy w2 row)(hr:∀g,row=some g->w.heap.size<=g):Below w.heap.size w w2:=
 ⟨hg.os.trans h.os,hg.tape.trans h.tape,hg.output.trans h.output,Nat.le_trans h.size hg.size,fun k hk=>(hg.block k (ak hk h.size) (fun e=>by have:=hr k e.symm;omega)).trans (h.block k hk)⟩
theorem pu (xs ys:List Lv):dG (xs++ys)=dG xs++dG ys:=by simp[dG]
theorem qK {ops:Array Oper}{o:Oper}{a:Act}{K:Act->World->Prop}{Q:Exit->Act->World->Prop}{E:Prop}(w:World)(hgd:o.guard=none)(s x:Operand)(t:TypeId)(ho:o.op= .call {callee:= .builtin .append,args:=#[s,x],argTypes:=#[t,t]})(base:Nat)(e:TypeId)(i:TypeInfo)(z:Value)(size bytes:Nat)(ht:Tryz.prog.underlying t=some (.slice e))(hi:Tryz.prog.info? e=some i)(hz:i.zero=some z)(hsize:i.size=size)(hby:i.bytes=bytes)(hzs:z.cells.size=size)(hsz:0<size)(v:Value)(n:Nat)(xs:List Value)(hs:a.eval s=v)(hown:w.ownsRow base e size v n xs)(ad:Addr)(m c:Nat)(news:List Value)(hx:a.eval x= .slice (some ad) m c)(hl:news.length=m*size)(hnews:∀j u,news[j]?=some u->w.cell? (ad.add j)=some u)(h1:∀u∈news,u.oneCell'=true)(h63:n+m<=maxLen)(hbytes:(n+m)*bytes<=140737488355328)(hbase:base<=w.heap.size)(h:∀v' w',w'.ownsRow base e size v' (n+m) (xs++news)->w.grownBy w' v.ownBlock->(v'= .slice none 0 0↔v= .slice none 0 0/\m=0)->(v'.ownBlock=v.ownBlock\/v'.ownBlock=some w.heap.size)->K (a.put o.dst v') w'):if Region.wanted o (yielded ops a.tmps)=true then Oper.wp Tryz.prog o a w K Q else E:=by have hw:Region.wanted o (yielded ops a.tmps)=true:=by{simp[Region.wanted,hgd]};rw[az hw];obtain⟨v',w',hr,h2,h3,h4,h5⟩:=run_append_own_at (P:=Tryz.prog) w base t o.type e i z size bytes ht hi hz hsize hby hzs hsz v n xs hown ad m c news hl hnews h1 h63 hbytes hbase;unfold Oper.wp execOp;simp only[ho,resolve,invoke,builtin,Sem.run_bind,Sem.run_pure,Result.andThen_ok,List.map_toArray,List.map_cons,List.map_nil,hs,hx,hr];exact h v' w' h2 h3 h4 h5
theorem nz (W W':World)(p q r s t u:Value)(ty:TypeId)(H:Nat)(hH:W.heap.size=H)(hc:∀i,W'.cell? ⟨H,i,none⟩=(W.alloc (.cells #[p,q,r,s,t,u] ty)).cell? ⟨H,i,none⟩):∀j y,[p,q,r,s,t,u][j]?=some y->W'.cell? ((⟨H,0,none⟩:Addr).add j)=some y:=by subst hH;intro j y hy;(have hadd:(⟨W.heap.size,0,none⟩:Addr).add j=⟨W.heap.size,j,none⟩:=by unfold Addr.add;split<;>simp_all);rw[hadd,hc,World.cell?_alloc_at _ _ _ _ rfl];simpa using hy
theorem TX.il {c:LX}{W0 W:World}(T:TX c W0){v vg:Value}{out:List (Ln×Int)}{P:Nat->Prop}(K:MK c W0 W v vg out P):IL W c.ha c.f.b.length c.H/\IL W c.ea c.f.b.length c.E/\SL W c.ba c.f.b.length c.f.b:=
 ⟨T.hH.kept K.bQ,T.hE.kept K.bQ,T.hS.kept K.bQ⟩
theorem MK.line {c:LX}{W0 W W1 W2:World}{v vg v':Value}{out:List (Ln×Int)}{P:Nat->Prop}(K:MK c W0 W v vg out P)(hW:W0.heap.size<=c.B)(hB1:Below W.heap.size W W1)(x:Ln)(la:Option Addr)(ln lc:Nat)(hx:OI W (c.B+1) (.slice la ln lc) x.l)(hap:∀g,(Value.slice la ln lc).ownBlock=some g->vg.ownBlock≠some g/\P g)(vs:List Lv)(hvs:W.ownsRow (c.B+1) 41 6 v out.length (dG vs)/\vs.length=out.length/\jL W (c.B+1) out.length vs (out.map (·.1))/\∀j,j<out.length->∀g,(vs.getD j fM).2.2.2.2.2.ownBlock=some g->vg.ownBlock≠some g/\P g)(hrow:W2.ownsRow (c.B+1) 41 6 v' (out.length+1) (dG vs++[.int .i64 x.k, .int .i64 x.d, .int .i64 x.a, .int .i64 x.b, .int .i64 x.n, .slice la ln lc]))(hg:W1.grownBy W2 v.ownBlock)(hat:v'.ownBlock=v.ownBlock\/v'.ownBlock=some W1.heap.size)(tg:Int):Below W0.heap.size W0 (W2.setCell ⟨c.B,0,none⟩ v')/\bG (W2.setCell ⟨c.B,0,none⟩ v') c.B (c.jK v' vg)/\c.B+1<=(W2.setCell ⟨c.B,0,none⟩ v').heap.size/\(∃vs:List Lv,(W2.setCell ⟨c.B,0,none⟩ v').ownsRow (c.B+1) 41 6 v' (out++[(x,tg)]).length (dG vs)/\vs.length=(out++[(x,tg)]).length/\jL (W2.setCell ⟨c.B,0,none⟩ v') (c.B+1) (out++[(x,tg)]).length vs ((out++[(x,tg)]).map (·.1))/\∀j,j<(out++[(x,tg)]).length->∀g,(vs.getD j fM).2.2.2.2.2.ownBlock=some g->vg.ownBlock≠some g/\P g)/\OI (W2.setCell ⟨c.B,0,none⟩ v') (c.B+1) vg (out.map (·.2))/\FX c v vg v' vg W (W2.setCell ⟨c.B,0,none⟩ v'):=by obtain⟨r1,r2,r3,r4⟩:=hvs;have vB:∀g,v.ownBlock=some g->c.B+1<=g:=fun g hg=>(aV r1 hg).1;have gs:=aP W2 ⟨c.B,0,none⟩ v';have bx1:=K.box.kept hB1;have jJ:=bx1.eP hg (fun e=>by have:=vB c.B e;omega);have NF:=jJ.set 0 v';have hint:2≠41:=by{decide};have gB:∀g,vg.ownBlock=some g->c.B+1<=g:=fun g hg=>(aV K.zX hg).1;have Ke:OI W1 (c.B+1) vg (out.map (·.2)):=K.zX.kept hB1;have r1':=aG r1 hB1;have og2:OI W2 (c.B+1) vg (out.map (·.2)):=cZ Ke hg (fun g e=>dD Ke r1' hint e);have og3:OI (W2.setCell ⟨c.B,0,none⟩ v') (c.B+1) vg (out.map (·.2)):=cZ og2 gs (fun g e=>by have:=gB g e;simp only[ne_eq,ah];omega);have t1:=r3.kept hB1;have t2:jL W2 (c.B+1) out.length vs (out.map (·.1)):=t1.eP hg (fun j hj g e=>dD (t1 j hj).2.2.2.2.2 r1' hint e);have t3:jL (W2.setCell ⟨c.B,0,none⟩ v') (c.B+1) out.length vs (out.map (·.1)):=t2.eP gs (fun j hj g e=>by have:=(aV (t2 j hj).2.2.2.2.2 e).1;simp only[ne_eq,ah];omega);have x1:=hx.kept hB1;have x2:OI W2 (c.B+1) (.slice la ln lc) x.l:=cZ x1 hg (fun g e=>dD x1 r1' hint e);have x3:OI (W2.setCell ⟨c.B,0,none⟩ v') (c.B+1) (.slice la ln lc) x.l:=cZ x2 gs (fun g e=>by have:=(aV x2 e).1;simp only[ne_eq,ah];omega);have hr3:=cZ hrow gs (fun g e=>by have:=(aV hrow e).1;simp only[ne_eq,ah];omega);have b1:=K.bQ.trans (hB1.mono K.bQ.size);have b2:=bq b1 hg (fun g e=>by have:=vB g e;omega);have b3:=bq b2 gs (fun g e=>by cases e;exact hW);refine⟨b3,NF,?_,⟨vs++[(x.k,x.d,x.a,x.b,x.n, .slice la ln lc)],?_,?_,fun j hj=>?_,fun j hj g e=>?_⟩,og3,⟨(gs.os.trans hg.os).trans hB1.os,(gs.tape.trans hg.tape).trans hB1.tape,(gs.output.trans hg.output).trans hB1.output,Nat.le_trans hB1.size (Nat.le_trans hg.size gs.size),fun i hi hb hv hv2=>?_,?_, .inl rfl⟩⟩;{exact Nat.le_trans K.sz (Nat.le_trans hB1.size (Nat.le_trans hg.size gs.size))};{rw[pu,List.length_append,List.length_singleton];exact hr3};{rw[List.length_append,List.length_append,r2];rfl};{rw[List.length_append,List.length_singleton]at hj;by_cases hjl:j<out.length;{have e1:(vs++[(x.k,x.d,x.a,x.b,x.n,Value.slice la ln lc)]).getD j fM=vs.getD j fM:=by{rw[ai,List.getElem?_append_left (by omega),←ai]};have e2:((out++[(x,tg)]).map (·.1)).getD j .z=(out.map (·.1)).getD j .z:=by{rw[List.map_append,ai,List.getElem?_append_left (by simpa using hjl),←ai]};rw[e1,e2];exact t3 j hjl};have ej:j=out.length:=by{omega};have e1:(vs++[(x.k,x.d,x.a,x.b,x.n,Value.slice la ln lc)]).getD j fM=(x.k,x.d,x.a,x.b,x.n,Value.slice la ln lc):=by{rw[ai,List.getElem?_append_right (by omega),r2,ej];simp};have e2:((out++[(x,tg)]).map (·.1)).getD j .z=x:=by{rw[List.map_append,ai,List.getElem?_append_right (by simp;omega)];simp[ej]};rw[e1,e2];exact⟨rfl,rfl,rfl,rfl,rfl,x3⟩};{rw[List.length_append,List.length_singleton]at hj;by_cases hjl:j<out.length;{have e1:(vs++[(x.k,x.d,x.a,x.b,x.n,Value.slice la ln lc)]).getD j fM=vs.getD j fM:=by{rw[ai,List.getElem?_append_left (by omega),←ai]};rw[e1]at e;exact r4 j hjl g e};have ej:j=out.length:=by{omega};have e1:(vs++[(x.k,x.d,x.a,x.b,x.n,Value.slice la ln lc)]).getD j fM=(x.k,x.d,x.a,x.b,x.n,Value.slice la ln lc):=by{rw[ai,List.getElem?_append_right (by omega),r2,ej];simp};rw[e1]at e;exact hap g e};{exact(gs.block i (ak hi (Nat.le_trans hB1.size hg.size)) (by simpa using hb)).trans ((hg.block i (ak hi hB1.size) (fun e=>hv e.symm)).trans (hB1.block i hi))};rcases hat with e|e;{exact .inl e};exact .inr ⟨_,e,hB1.size⟩
theorem MK.goal {c:LX}{W0 W W1 W2:World}{v vg jI:Value}{out:List (Ln×Int)}{P:Nat->Prop}{x:Ln}{tg:Int}(hW:W0.heap.size<=c.B)(hb:Below W0.heap.size W0 W)(hbx:bG W c.B (c.jK v vg))(hsz:c.B+1<=W.heap.size)(hvs:∃vs:List Lv,W.ownsRow (c.B+1) 41 6 v (out++[(x,tg)]).length (dG vs)/\vs.length=(out++[(x,tg)]).length/\jL W (c.B+1) (out++[(x,tg)]).length vs ((out++[(x,tg)]).map (·.1))/\∀j,j<(out++[(x,tg)]).length->∀g,(vs.getD j fM).2.2.2.2.2.ownBlock=some g->vg.ownBlock≠some g/\P g)(hgo:OI W (c.B+1) vg (out.map (·.2)))(hB1:Below W.heap.size W W1)(hrow:W2.ownsRow (c.B+1) 2 1 jI (out.length+1) ((out.map (·.2)).map iv++[.int .i64 tg]))(hg:W1.grownBy W2 vg.ownBlock)(hat:jI.ownBlock=vg.ownBlock\/jI.ownBlock=some W1.heap.size):MK c W0 (W2.setCell ⟨c.B,1,none⟩ jI) v jI (out++[(x,tg)]) P/\FX c v vg v jI W (W2.setCell ⟨c.B,1,none⟩ jI):=by obtain⟨vs,r1,r2,r3,r4⟩:=hvs;have gB:∀g,vg.ownBlock=some g->c.B+1<=g:=fun g hg=>(aV hgo hg).1;have gs:=aP W2 ⟨c.B,1,none⟩ jI;have NF:=((hbx.kept hB1).eP hg (fun e=>by have:=gB c.B e;omega)).set 1 jI;have hint:41≠2:=by{decide};have Ke:OI W1 (c.B+1) vg (out.map (·.2)):=hgo.kept hB1;have s1:=aG r1 hB1;have s2:=cZ s1 hg (fun g e=>dD s1 Ke hint e);have s3:=cZ s2 gs (fun g e=>by have:=(aV s2 e).1;simp only[ne_eq,ah];omega);have t1:=r3.kept hB1;have t2:=t1.eP hg (fun j hj g e=>(r4 j hj g e).1);have t3:=t2.eP gs (fun j hj g e=>by have:=(aV (t2 j hj).2.2.2.2.2 e).1;simp only[ne_eq,ah];omega);have hr3:=cZ hrow gs (fun g e=>by have:=(aV hrow e).1;simp only[ne_eq,ah];omega);have b1:=hb.trans (hB1.mono hb.size);have b2:=bq b1 hg (fun g e=>by have:=gB g e;omega);have b3:=bq b2 gs (fun g e=>by cases e;exact hW);refine⟨⟨b3,NF,Nat.le_trans hsz (Nat.le_trans hB1.size (Nat.le_trans hg.size gs.size)),⟨vs,s3,r2,t3,fun j hj g e=>?_⟩,?_⟩,⟨(gs.os.trans hg.os).trans hB1.os,(gs.tape.trans hg.tape).trans hB1.tape,(gs.output.trans hg.output).trans hB1.output,Nat.le_trans hB1.size (Nat.le_trans hg.size gs.size),fun i hi hb hv hv2=>?_, .inl rfl,?_⟩⟩;{rcases hat with e'|e';{rw[e'];exact r4 j hj g e};rw[e'];have:=(aV (t1 j hj).2.2.2.2.2 e).2;refine⟨?_,(r4 j hj g e).2⟩;simp only[ne_eq,ah];omega};{show World.ownsRow _ _ _ _ _ _ _;rw[List.map_append,List.length_append,List.map_append,List.length_map];exact hr3};{exact(gs.block i (ak hi (Nat.le_trans hB1.size hg.size)) (by simpa using hb)).trans ((hg.block i (ak hi hB1.size) (fun e=>hv2 e.symm)).trans (hB1.block i hi))};rcases hat with e|e;{exact .inl e};exact .inr ⟨_,e,hB1.size⟩
theorem aQ (c:LX)(W0 W:World)(v vg:Value)(out:List (Ln×Int))(P:Nat->Prop)(hW:W0.heap.size<=c.B)(K:MK c W0 W v vg out P)(x:Ln)(la:Option Addr)(ln lc:Nat)(hx:OI W (c.B+1) (.slice la ln lc) x.l)(hap:∀g,(Value.slice la ln lc).ownBlock=some g->vg.ownBlock≠some g/\P g)(tg:Int)(hlen:out.length<=1000):Calls Tryz.prog 65 #[.pointer (some ⟨c.B,0,none⟩), .agg #[.int .i64 x.k, .int .i64 x.d, .int .i64 x.a, .int .i64 x.b, .int .i64 x.n, .slice la ln lc], .int .i64 tg] W fun e w'=>∃v' jI,e= .returned (.tuple #[])/\MK c W0 w' v' jI (out++[(x,tg)]) P/\FX c v vg v' jI W w':=by obtain⟨i0,hi,hz0,hz1,hz2⟩:=info_parts vz;obtain⟨j0,hj,hy0,hy1,hy2⟩:=info_parts dA;have hB1:=aB W (.cells #[.int .i64 x.k, .int .i64 x.d, .int .i64 x.a, .int .i64 x.b, .int .i64 x.n, .slice la ln lc] 41);have hB2:=hB1.trans ((aB _ (.cells #[.int .i64 x.k, .int .i64 x.d, .int .i64 x.a, .int .i64 x.b, .int .i64 x.n, .slice la ln lc] 41)).mono hB1.size);have hB3:=hB2.trans ((Below.refl _ _).drew.mono hB2.size);obtain⟨vs,hvs⟩:=K.row;obtain⟨av,cv,rfl⟩:=bf hvs.1;have hgo:W.ownsRow (c.B+1) 2 1 vg out.length ((out.map (·.2)).map iv):=by{have:=K.zX;unfold OI at this;rwa [List.length_map]at this};obtain⟨ag,cg,rfl⟩:=bf hgo;have hr2:=aG (aG hvs.1 hB2) (Below.refl _ _).drew;have hb0:=K.box;have hb2:=(K.box.kept hB2).kept (Below.refl _ _).drew;have d0:=(hb0.2 0 _ rfl).1;have hvB:∀g,(Value.slice av out.length cv).ownBlock=some g->c.B+1<=g:=fun g hg=>(aV hvs.1 hg).1;have HRW:=af hr2;have HB:=af hb2;have HK:=af (au K (au hvs (au hx (au hap hB3))));have hsz:c.B<W.heap.size:=K.sz;clear hb0 hb2 hr2 hB1 hB2 hB3 hvs K hx hap hgo;go_enter Tryz.func65,Tryz.ntmps65;go_wp2;go_region_law (refine qK _ rfl (.tmp 10) (.tmp 12) 29 rfl (c.B+1) 41 i0 (.agg #[.int .i64 0, .int .i64 0, .int .i64 0, .int .i64 0, .int .i64 0, .slice none 0 0]) 6 64 Tryz.underlying29 hi hz0 hz1 hz2 rfl (by decide) (.slice av out.length cv) out.length (dG vs) (by simp[Act.eval]) HRW.out ⟨W.heap.size+1,0,none⟩ 1 1 [.int .i64 x.k, .int .i64 x.d, .int .i64 x.a, .int .i64 x.b, .int .i64 x.n, .slice la ln lc] (by simp[Act.eval]) rfl (nz (W.alloc (.cells #[.int .i64 x.k, .int .i64 x.d, .int .i64 x.a, .int .i64 x.b, .int .i64 x.n, .slice la ln lc] 41)) _ _ _ _ _ _ _ 41 _ (by simp) (fun i=>rfl)) (by simp[Value.oneCell']) (by simp only[maxLen];omega) (by omega) (by simp;omega) ?_;intro v' wA hown' hgrow _ hat;obtain⟨g',cap',rfl⟩:=ownsRow_succ hown';have jU:=HB.out.eP hgrow (fun e=>by have:=hvB c.B e;omega);have cA:=(jU.2 0 _ rfl).1;have fA:=(jU.2 0 _ rfl).2;have fE:=af (au hown' (au hgrow hat));have lA:=jU.1;clear hown' hgrow jU hat);all_goals have hM:=MK.line HK.out.1 hW HK.out.2.2.2.2 x la ln lc HK.out.2.2.1 HK.out.2.2.2.1 vs HK.out.2.1 fE.out.1 fE.out.2.1 fE.out.2.2 tg;clear fE HRW HB cA fA lA;generalize hW3:wA.setCell ⟨c.B,0,none⟩ (.slice (some ⟨g',0,none⟩) (out.length+1) cap')=W3 at hM;obtain⟨m1,m2,m3,m4,m5,m6⟩:=hM;have c1:=(m2.2 1 _ rfl).1;have f1:=(m2.2 1 _ rfl).2;have l3:c.B<W3.heap.size:=m3;have tT:=aB W3 (.cells #[.int .i64 tg] 2);have o4:(W3.alloc (.cells #[.int .i64 tg] 2)).ownsRow (c.B+1) 2 1 (.slice ag out.length cg) out.length ((out.map (·.2)).map iv):=by{have:=m5.kept tT;unfold OI at this;rwa [List.length_map]at this};have hgB:∀g,(Value.slice ag out.length cg).ownBlock=some g->c.B+1<=g:=fun g hg=>(aV o4 hg).1;have b4:=m2.kept tT;have HO4:=af o4;have HB4:=af b4;have HM:=af (au m1 (au m2 (au m3 (au m4 (au m5 (au m6 tT))))));clear m1 m2 m3 m4 m5 m6 o4 b4 tT;go_wp2_with(at_builtin;refine wpList_append_own_at _ rfl _ _ 39 rfl (c.B+1) 2 j0 (.int .i64 0) 1 8 Tryz.underlying39 hj hy0 hy1 hy2 rfl (by decide) (.slice ag out.length cg) out.length _ rfl HO4.out ⟨W3.heap.size,0,none⟩ 1 1 [.int .i64 tg] rfl rfl (cell_one_new _ _ _) (by simp[Value.oneCell']) (by simp only[maxLen];omega) (by omega) (by simp;omega) ?_;intro v2 wB hown2 hgrow2 _ mO;obtain⟨g2,cap2,rfl⟩:=ownsRow_succ hown2;have WC:=HB4.out.eP hgrow2 (fun e=>by have:=hgB c.B e;omega);have cB:=(WC.2 1 _ rfl).1;have fB:=(WC.2 1 _ rfl).2;have fK:=af (au hown2 (au hgrow2 mO));have lB:=WC.1;clear hown2 hgrow2 WC mO);(try simp only[Exit.inBlock,Exit.then]);obtain⟨m1,m2,m3,m4,m5,m6,tT⟩:=HM.out;have hF:=MK.goal hW m1 m2 m3 m4 m5 tT fK.out.1 fK.out.2.1 fK.out.2.2;refine bodyPost_end (results_none rfl _ _ _) rfl ⟨_,_,rfl,hF.1,m6.trans hF.2⟩
section
open Go.RowKit
variable {P : Program} {ops : Array Oper} {md : Region.Mode} {C : World → Prop} {n : Nat}
def lN (P:Program)(md:Region.Mode)(ops:Array Oper)(C:World->Prop)(n:Nat)(L:Array Bool->Act->Prop):Nat->Array Bool->Act->Prop
 |0,l,a=>L l a
 |f+1,l,a=>Region.ready md ops l≠[]/\∀i,i∈Region.ready md ops l->i<n/\qOp P ops C i (lN P md ops C n L f (l.setIfInBounds i true)) a
theorem lN.any {L:Array Bool->Act->Prop}{Q:Exit->Act->World->Prop}{g:Nat}(hL:∀l a w,C w->L l a->wpAny P md ops Q g l a w)(f:Nat):∀(l:Array Bool)(a:Act)(w:World),C w->lN P md ops C n L f l a->wpAny P md ops Q (f+g) l a w:=by
 induction f with
 |zero=>intro l a w hw h;rw[Nat.zero_add];exact hL l a w hw h
 |succ f ih=>
  intro l a w hw h
  rw[show f+1+g=(f+g)+1 by omega]
  refine⟨fun e=>absurd e h.1,fun i hi=>?_⟩
  exact wpOp_of_qOp hw (fun a' w' hw' h'=>ih _ a' w' hw' h') (h.2 i hi).2
theorem ku {l:Array Bool}(hs:Region.sinkB md ops n=true)(hc:Region.chainB md ops n=true)(hn:n<ops.size)(inv:HeadInv md ops n l){i:Nat}(hi:i<n)(hun:l.getD i true=false){j:Nat}(hj:j∈Region.ready md ops l):j<n:=by refine Nat.lt_of_not_le fun h=>?_;exact tail_waits hs hc hn inv (n-i) i rfl hi hun j h hj
theorem lN.first {L:Array Bool->Act->Prop}{i:Nat}{o:Oper}{v:Value}(fG:ops[i]?=some o)(hsel:∀(j:Nat)(o:Oper) cs b,ops[j]?=some o->o.op≠ .select cs b)(hs:Region.sinkB md ops n=true)(hc:Region.chainB md ops n=true)(hn:n<ops.size)(hin:i<n)(hdone:∀l a,L l a->∀j,j∈Region.ready md ops l->n<=j)(f:Nat):∀(l:Array Bool)(a:Act),HeadInv md ops n l->(∀j oj,ops[j]?=some oj->j≠i->l.getD j true=false->(∀e∈oj.after,Region.binds md e=true->e.on≠i)->o.apart ops oj=true)->i∈Region.ready md ops l->YieldsIn P ops C o v a->lN P md ops C n L f (l.setIfInBounds i true) (a.put o.dst v)->lN P md ops C n L (f+1) l a:=by
 induction f with
 |zero=>
  intro l a inv hfree hr hy hH
  refine⟨fun e=>by rw[e]at hr;exact absurd hr List.not_mem_nil,fun j hj=>⟨ku hs hc hn inv hin (mem_ready.1 hr).1 hj,?_⟩⟩
  rcases Nat.decEq j i with hne|he
  · have h1:=hdone _ _ hH j (ready_mono hj hne);have h2:=ku hs hc hn inv hin (mem_ready.1 hr).1 hj;omega
  · subst he;exact hy.qOp fG hH
 |succ f ih=>
  intro l a inv hfree hr hy hH
  have hun:=(mem_ready.1 hr).1
  refine⟨fun e=>by rw[e]at hr;exact absurd hr List.not_mem_nil,fun j hj=>⟨ku hs hc hn inv hin hun hj,?_⟩⟩
  rcases Nat.decEq j i with hne|he
  · obtain⟨hjun,oj,hoj,hall⟩:=mem_ready.1 hj;have hno:∀e∈oj.after,Region.binds md e=true->e.on≠i:=by{intro e he hb heq;have h1:=hall e he hb;rw[heq,getD_both hun]at h1;cases h1};have hstep:=qOp_put hoj (hfree j oj hoj hne hjun hno) (fun cs b=>hsel i o cs b fG) (fun cs b=>hsel j oj cs b hoj) hy (hH.2 j (ready_mono hj hne)).2;refine qOp_mono (fun a' h'=>?_) hstep;refine ih _ a' (inv.set hj (ku hs hc hn inv hin hun hj)) (fun k ok hk hki aaX aaY=>hfree k ok hk hki ?_ aaY) (ready_mono hr (Ne.symm hne)) h'.1 ?_;{by_cases hjk:j=k;{rw[←hjk];exact hjun};rwa [getD_set_ne true hjk]at aaX};rw[Array.setIfInBounds_comm _ _ hne];exact h'.2
  · subst he;exact hy.qOp fG hH
theorem lN.lex {g:Nat}{Lq:Act->Prop}(hsel:Region.noSelect ops=true)(hs:Region.sinkB md ops n=true)(hc:Region.chainB md ops n=true)(hn:n<ops.size):
   ∀ (hd:List Oper) (k:Nat) (l:Array Bool) (a:Act),k+hd.length=n->(∀j,j<hd.length->hd[j]?=ops[k+j]?)->HeadInv md ops n l->Region.lexHead md ops g hd.length k l=true->
     wpQuiet P ops C Lq hd a->lN P md ops C n (fun l' a'=>Region.seqB md ops g n l'=true/\Lq a') hd.length l a
 | [],k,l,a,hk,_,_,hB,h=>by
   have e:k=n:=hk
   rw[←e]
   exact⟨hB,h⟩
 | o::hd,k,l,a,hk,hl,inv,hB,h=>by
   rw[List.length_cons]at hk
   have h0:ops[k]?=some o:=(hl 0 (by simp)).symm
   simp only[List.length_cons,Region.lexHead,ax]at hB
   have hr:k∈Region.ready md ops l:=by simpa using hB.1.1
   have hq:qOp P ops C k (wpQuiet P ops C Lq hd) a:=by unfold qOp;simp only[h0];exact h
   obtain⟨v,hy,hrest⟩:=yieldsIn_of_qOp h0 hq
   refine lN.first h0 (Region.noSelect_spec hsel) hs hc hn (by omega) (fun l' a' hL=>seqB_ready hL.1) hd.length l a inv (Region.free_spec h0 hB.1.2) hr hy ?_
   refine lN.lex hsel hs hc hn hd (k+1) _ _ (by omega) (fun j hj=>?_) (inv.set hr (by omega)) hB.2 hrest
   have:=hl (j+1) (by simp;omega)
   rw[show k+1+j=k+(j+1)by omega,←this]
   rfl
theorem dV {id:Nat}{Q:Exit->Act->World->Prop}{a:Act}{w:World}{l:List Oper}(n:Nat)(hm:P.follows .mixedOrders=true)(hB:Region.lexTailB .any l.toArray n=true)(h:wpQuiet P l.toArray (fun w'=>∃p:dB w,w'=p.to) (fun a'=>∀w',(∃p:dB w,w'=p.to)->wpList P l.toArray Q (l.drop n) a' w') (l.take n) a):(Code.region id l.toArray true).wp P Q a w:=by
 simp only[Region.lexTailB,ax,decide_eq_true_eq]at hB
 obtain⟨⟨⟨⟨hsel,hn⟩,hs⟩,hc⟩,hlex⟩:=hB
 have hnl:n<l.length:=by simpa using hn
 have e1:(l.take n).length=n:=by rw[List.length_take];omega
 have e2:(l.drop n).length=l.toArray.size-n:=by rw[List.length_drop];simp
 have inv:HeadInv .any l.toArray n (Array.replicate l.toArray.size false):=by refine⟨by simp,fun j oj _ hl=>?_,fun t _ ht=>getD_in (by simpa using ht) (getD_replicate_false _ _)⟩;rw[getD_replicate_false]at hl;cases hl
 have H:=lN.lex (md:= .any) (g:=l.toArray.size-n) hsel hs hc hn (l.take n) 0 _ a (by rw[e1];omega) (fun j hj=>by rw[e1]at hj;simp[hj]) inv (by rw[e1];exact hlex) h
 have R:=lN.any (Q:=Q) (g:=l.toArray.size-n) (fun l' a' w' hw' hL=>by
  have:=wpAny_of_seq (md:= .any) (Q':=Q) (l.drop n) n l' a' w' (fun j=>by simp[List.getElem?_drop]) (by rw[e2];exact hL.1) (hL.2 w' hw')
  rwa [e2]at this) (l.take n).length _ a {w with drawn:=w.drawn+1} ⟨⟨w.drew,(Below.refl _ w).drew⟩,rfl⟩ H
 rw[e1,show n+(l.toArray.size-n)=l.toArray.size by omega]at R
 exact wp_region_any hm R
end
end Go.Proofs.YtellfmhljjdjbaaGreatDoor
