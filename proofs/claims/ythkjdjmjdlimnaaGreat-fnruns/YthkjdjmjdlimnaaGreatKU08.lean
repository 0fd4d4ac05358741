/-
  Own texts for a law: Mem1 Lin3 LinR BoxL Pile1 Low1 Low2 QTail Low3
-/
import Derived.Test.YthkjdjmjdlimnaaGreatKU07
import Derived.Deep.RegionLaw
import Derived.StillTail
namespace Go.Proofs.YthkjdjmjdlimnaaGreat
open Go.RowKit Go.Shelf
set_option linter.all false
set_option maxRecDepth 100000
set_option maxHeartbeats 16000000
theorem Cw:(Tryz.prog.info? 168).map (fun i=>(i.zero,i.size))=some (some (.agg ((List.replicate 64 0).map iv).toArray),64):=by kernel_rfl
theorem BR:(Tryz.prog.info? 115).map (fun i=>(i.zero,i.size))=some (some (.agg ((List.replicate 64 0).map bv).toArray),64):=by kernel_rfl
theorem pJ:(Tryz.prog.info? 168).map (·.size)=some 64:=by kernel_rfl
theorem iw:(Tryz.prog.info? 115).map (·.size)=some 64:=by kernel_rfl
theorem qw {bs:List Int}:∀v∈bs.map bv,v.oneCell'=true:=by intro v hv;obtain⟨b,_,rfl⟩:=List.mem_map.1 hv;rfl
theorem sV {bs:List Int}:∀v∈bs.map iv,v.oneCell'=true:=by intro v hv;obtain⟨b,_,rfl⟩:=List.mem_map.1 hv;rfl
theorem gK {f:Int->Value}{bs:List Int}{k:Nat}(h:k<bs.length):(bs.map f)[k]?=some (f (bs.getD k 0)):=by rw[List.getElem?_map,ai h,ah,ai h];rfl
theorem z8 {n:Nat}{ys:List Int}{f:Nat->Int}{k:Nat}{p:Int}(h:ys.length=n/\∀j,j<k->ys.getD j 0=f j)(hk:k<n)(hp:f k=p):(ys.set k p).length=n/\∀j,j<k+1->(ys.set k p).getD j 0=f j:=by refine⟨by rw[List.length_set];exact h.1,fun j hj=>?_⟩;by_cases e:j=k;{subst e;rw[ah,List.getElem?_set_self (by omega),hp];rfl};rw[←h.2 j (by omega),ah,List.getElem?_set_ne (by omega),←ah]
theorem zC {n:Nat}{ys bs:List Int}(h:ys.length=n/\∀j,j<n->ys.getD j 0=bs.getD j 0)(hb:bs.length=n):ys=bs:=by apply List.ext_getElem;{rw[h.1,hb]};intro j h1 h2;have:=h.2 j (by omega);simpa[ah,ai h1,ai h2]using this
theorem zJ (bs:List Int)(hl:bs.length=64)(hb:∀j,0<=bs.getD j 0/\bs.getD j 0<=255)(w:World):Calls Tryz.prog 100 #[.agg (bs.map bv).toArray] w fun e w'=>e= .returned (.agg (bs.map iv).toArray)/\Below w.heap.size w w':=by have HL:=ae hl;obtain⟨cs,hcs⟩:∃cs,bs.map bv=cs:=⟨_,rfl⟩;obtain⟨zs,hzs⟩:∃zs,(List.replicate 64 (0:Int)).map iv=zs:=⟨_,rfl⟩;have HZ:=Cw;rw[hcs];rw[hzs]at HZ;clear hl;go_enter Tryz.func100,Tryz.ntmps100;go_wp2_with(refine mH 115 _ rfl ?_);refine⟨?_⟩;refine jl rfl _ _ rfl cs rfl ?_;intro g1 w1 hg1 hA1 hB1;go_wp2_with(refine fG 168 rfl ?_);refine⟨?_⟩;refine dP rfl _ rfl zs 64 HZ ?_;intro g2 w2 hg2 hA2 hB2;go_wp2_with(refine fG 168 rfl ?_);refine⟨?_⟩;refine dP rfl _ rfl zs 64 HZ ?_;intro g3 w3 hg3 hA3 hB3;go_wp2_with(refine iI 115 _ rfl ?_);refine⟨?_⟩;have yJ:=(hA1.kept hB2).kept hB3;have Yn:cs.length=64:=by{rw[←hcs,List.length_map];exact HL.out};refine fF rfl _ _ rfl g1 rfl _ cs yJ 64 5 Tryz.underlying115 (by rw[Yn];exact iw) ?_;have qY:=hA2.kept hB3;have hBw:=hB1.trans ((hB2.trans (hB3.mono hB2.size)).mono hB1.size);have HW:=ae hBw;have HG:Hid (w.heap.size<=g1/\w.heap.size<=g2/\w.heap.size<=g3/\g2≠g3):=by{have e1:=hg1.out;have e2:=hg2.out;have e3:=hg3.out;have s1:=hB1.size;have s2:=hB2.size;have s3:=hA2.lt;exact⟨by omega,by omega,by omega,by omega⟩};have HA2:=ae qY;clear hA1 hA2 yJ hB1 hB2 hB3 hBw qY hg1 hg2 hg3;go_wp2;go_loopw [4,5,7,8,9,10,11,12,13,14,15] (fun _ _ i _ _ _ _ _ _ _ _ wr=>∃(k:Nat)(ys:List Int),i= .int .i64 k/\k<=64/\ys.length=64/\(∀j,j<k->ys.getD j 0=bs.getD j 0)/\dS wr g3 168 (ys.map iv)/\dS wr g2 168 zs/\Below w.heap.size w wr) (fun _ _ i _ _ _ _ _ _ _ _ _=>64-(intOf i).toNat);(case atStart=>exact⟨0,List.replicate 64 0,rfl,by omega,by simp,by simp,by rw[hzs];exact hA3,HA2.out,HW.out⟩);case round=>obtain⟨k,ys,rfl,hk,hyl,hys,qy,qY,hB⟩:=hrel;have HY:=ae (ak hyl hys);have HA:=ae qY;clear hA3 qY Yn;by_cases hlt:k<64;{have hget:cs[k]?=some (.int .u8 (bs.getD k 0)):=by{rw[←hcs];exact gK (by rw[HL.out];exact hlt)};have fI:(k:Int)<64:=by{omega};have hc:=qy.cell (gK (f:=iv) (k:=k) (by omega));have hf:=qy.frozen k;have hset:=qy.set k (iv (bs.getD k 0));rw[←List.map_set]at hset;obtain⟨p,hp⟩:∃p,bs.getD k 0=p:=⟨_,rfl⟩;have hp0:=(hb k).1;have hp1:=(hb k).2;rw[hp]at hp0 hp1;obtain⟨q,hq⟩:∃q,ys.getD k 0=q:=⟨_,rfl⟩;rw[hp]at hset hget;rw[hq]at hc;have HP:=ae hp;have HS:=ae hset;have HB:=ae hB;clear hyl hys hp hq hset qy hB hb;unfold iv at hc;go_wp2_with(refine rJ 115 _ _ rfl ?_);refine⟨?_⟩;refine nI rfl _ _ _ rfl cs k rfl rfl 64 5 Tryz.underlying115 hlt (fun _=>Tryz.sizeOf5 _) (fun _=>Tryz.isAgg5 _) _ hget ?_;go_wp2;go_roundw;(case rel=>obtain⟨y1,y2⟩:=z8 HY.out hlt HP.out;obtain⟨-,-,o3,o4⟩:=HG.out;exact⟨k+1,ys.set k p,by simp,by omega,y1,y2,HS.out,HA.out.dJ (aC _ ⟨g3,k,none⟩ _) (by simpa using o4),HB.out.setCell (p:=⟨g3,k,none⟩) o3 _⟩);case measure=>simp[intOf];omega};obtain rfl:k=64:=by{omega};have e:ys=bs:=zC HY.out HL.out;subst e;have HB:=ae hB;have hlY:(ys.map iv).length=64:=by{rw[List.length_map];exact hyl};clear hyl hys HY hb;go_wp2_with(refine iI 168 _ rfl ?_);refine⟨?_⟩;refine fF rfl _ _ rfl g3 rfl _ _ qy 64 2 Tryz.underlying168 (by rw[hlY];exact pJ) ?_;go_wp2_with(refine iy 168 _ _ rfl ?_);refine⟨?_⟩;refine eU rfl _ _ _ rfl g2 (ys.map iv) rfl rfl _ _ HA.out (by rw[hlY];exact pJ) (by rw[hlY,←hzs];simp) sV ?_;intro w5 OW hg5;have Tp:=ae OW;go_wp2;obtain⟨-,o2,-,-⟩:=HG.out;refine bodyPost_ret (v:= .agg (ys.map iv).toArray) ?_ rfl ⟨rfl,aI HB.out hg5 o2⟩;exact results_cell_row rfl _ _ g2 _ _ _ _ rfl Tp.out Tryz.underlying168 rfl (by rw[List.size_toArray,hlY];exact pJ)
def OG (W:World)(n₀ g n c:Nat)(xs:List Int):Prop:=xs.length=n/\W.ownsRow n₀ 2 1 (.slice (some ⟨g,0,none⟩) n c) n (xs.map iv)
theorem OG.oi {W:World}{n₀ g n c:Nat}{xs:List Int}(h:OG W n₀ g n c xs):OI W n₀ (.slice (some ⟨g,0,none⟩) n c) xs:=by unfold OI;rw[h.1];exact h.2
theorem OG.lt {W:World}{n₀ g n c:Nat}{xs:List Int}(h:OG W n₀ g n c xs):n₀<=g/\g<W.heap.size:=World.ownsRow.lt h.2 g rfl
theorem OG.cap {W:World}{n₀ g n c:Nat}{xs:List Int}(h:OG W n₀ g n c xs):n<=c/\c<=maxLen:=by rcases h.2.2 with⟨e,-⟩|⟨g',cap,cur,e,hb,hc,hn,hm,-⟩;{cases e};cases e;exact⟨hn,hm⟩
theorem OG.cell {W:World}{n₀ g n c:Nat}{xs:List Int}(h:OG W n₀ g n c xs){j:Nat}(hj:j<n):W.cell? ⟨g,j,none⟩=some (.int .i64 (xs.getD j 0)):=by have hi:=(OI.il h.oi).2;obtain⟨-,-,h0|⟨b,o,e,hb,hx⟩⟩:=hi;{omega};simp only[af,Addr.mk.injEq,and_true]at e;obtain⟨rfl,rfl⟩:=e;have:=hx j hj;rwa [Nat.zero_add]at this
theorem OG.kept {W W':World}{n₀ g n c:Nat}{xs:List Int}(h:OG W n₀ g n c xs)(hB:Below W.heap.size W W'):OG W' n₀ g n c xs:=⟨h.1,aO h.2 hB⟩
theorem OG.dJ {W W':World}{n₀ g n c b:Nat}{xs:List Int}(h:OG W n₀ g n c xs)(hg:W.grownBy W' (some b))(hne:g≠b):OG W' n₀ g n c xs:=by refine⟨h.1,World.ownsRow.kept h.2 hg (.inr ?_)⟩;simp only[Value.ownBlock,ne_eq,af];omega
theorem OG.mono {W:World}{n₀ n₁ g n c:Nat}{xs:List Int}(h:OG W n₁ g n c xs)(hn:n₀<=n₁):OG W n₀ g n c xs:=by have:=OI.mono h.oi hn;unfold OI at this;rw[h.1]at this;exact⟨h.1,this⟩
theorem OG.empty (W:World)(n₀:Nat)(hn:n₀<=W.heap.size):OG (W.alloc (.cells #[] 2)) n₀ W.heap.size 0 0 []:=⟨rfl,by simpa[OI]using OI.mono (OI.empty W) hn⟩
theorem OG.one (W:World)(n₀:Nat)(hn:n₀<=W.heap.size)(y:Int):OG (W.alloc (.cells #[.int .i64 y] 2)) n₀ W.heap.size 1 1 [y]:=
 ⟨rfl,rfl, .inr ⟨W.heap.size,1,#[.int .i64 y],rfl,hn,World.alloc_heap_new W _,Nat.le_refl _,by simp[maxLen],rfl,rfl⟩⟩
theorem jU {ops:Array Oper}{rest:List Oper}{o:Oper}{a:Act}{Q:Exit->Act->World->Prop}(W:World)(hgd:o.guard=none)(s x:Operand)(ho:o.op= .call {callee:= .builtin .append,args:=#[s,x],argTypes:=#[27,27]})(n₀ g n c:Nat)(xs:List Int)(hs:a.eval s= .slice (some ⟨g,0,none⟩) n c)(hown:OG W n₀ g n c xs)(sb so m sc:Nat)(ys:List Int)(hx:a.eval x= .slice (some ⟨sb,so,none⟩) m sc)(hym:ys.length=m)(hy:∀j,j<m->W.cell? ⟨sb,so+j,none⟩=some (.int .i64 (ys.getD j 0)))(hsz:n+m<=1048576)(hbase:n₀<=W.heap.size)(h:∀g' c' N W',Hid (N=n+m)->OG W' n₀ g' N c' (xs++ys)->W.grownBy W' (some g)->wpList Tryz.prog ops Q rest (a.put o.dst (.slice (some ⟨g',0,none⟩) N c')) W'):wpList Tryz.prog ops Q (o::rest) a W:=by obtain⟨i0,hi,hz0,hz1,hz2⟩:=info_parts dD;refine wpList_append_own W hgd s x 27 ho n₀ 2 i0 (.int .i64 0) 1 8 Tryz.underlying27 hi hz0 hz1 hz2 rfl (by decide) _ n (xs.map iv) hs hown.2 ⟨sb,so,none⟩ m sc (ys.map iv) hx (by rw[List.length_map,hym,Nat.mul_one]) (fun j u hu=>?_) sV (by simp only[maxLen];omega) (by omega) hbase (fun v' W' hown' hgrow hnn=>?_);{have hj:j<m:=by{have:=(List.getElem?_eq_some_iff.1 hu).1;rwa [List.length_map,hym]at this};rw[gK (by rw[hym];exact hj)]at hu;cases hu;(have hadd:(⟨sb,so,none⟩:Addr).add j=⟨sb,so+j,none⟩:=by unfold Addr.add;split<;>simp_all);rw[hadd];exact hy j hj};rcases hown'.2 with⟨rfl,h0⟩|⟨g',cap',cur,rfl,r⟩;{exact absurd (hnn.1 rfl).1 (fun e=>by cases e)};refine h g' cap' (n+m) W' rfl ⟨by rw[List.length_append,hown.1,hym],?_⟩ hgrow;rw[List.map_append];exact hown'
abbrev Lv:=Int×Int×Int×Int×Int×Value
def iA:Lv:=(0,0,0,0,0, .slice none 0 0)
def ek (xs:List Lv):List Value:=xs.flatMap fun x=>[.int .i64 x.1, .int .i64 x.2.1, .int .i64 x.2.2.1, .int .i64 x.2.2.2.1, .int .i64 x.2.2.2.2.1,x.2.2.2.2.2]
theorem je (x:Lv)(xs:List Lv):ek (x::xs)= .int .i64 x.1:: .int .i64 x.2.1:: .int .i64 x.2.2.1:: .int .i64 x.2.2.2.1:: .int .i64 x.2.2.2.2.1::x.2.2.2.2.2::ek xs:=rfl
theorem yB (xs:List Lv):(ek xs).length=xs.length*6:=by
 induction xs with
 |nil=>rfl
 |cons x xs ih=>rw[je];simp only[List.length_cons,ih];omega
theorem mW:∀(xs:List Lv)(j:Nat),j<xs.length->(ek xs)[j*6]?=some (.int .i64 (xs.getD j iA).1)/\(ek xs)[j*6+1]?=some (.int .i64 (xs.getD j iA).2.1)/\(ek xs)[j*6+2]?=some (.int .i64 (xs.getD j iA).2.2.1)/\(ek xs)[j*6+3]?=some (.int .i64 (xs.getD j iA).2.2.2.1)/\(ek xs)[j*6+4]?=some (.int .i64 (xs.getD j iA).2.2.2.2.1)/\(ek xs)[j*6+5]?=some (xs.getD j iA).2.2.2.2.2
 |[],j,h=>by simp at h
 |x::xs,0,h=>⟨rfl,rfl,rfl,rfl,rfl,rfl⟩
 | x::xs,j+1,h=>by
   have ih:=mW xs j (by simpa using h)
   have e:(x::xs).getD (j+1) iA=xs.getD j iA:=rfl
   rw[e,je]
   refine⟨?_,?_,?_,?_,?_,?_⟩
   · rw[show(j+1)*6=j*6+1+1+1+1+1+1 by omega];simp only[List.getElem?_cons_succ];exact ih.1
   · rw[show(j+1)*6+1=j*6+1+1+1+1+1+1+1 by omega];simp only[List.getElem?_cons_succ];exact ih.2.1
   · rw[show(j+1)*6+2=j*6+2+1+1+1+1+1+1 by omega];simp only[List.getElem?_cons_succ];exact ih.2.2.1
   · rw[show(j+1)*6+3=j*6+3+1+1+1+1+1+1 by omega];simp only[List.getElem?_cons_succ];exact ih.2.2.2.1
   · rw[show(j+1)*6+4=j*6+4+1+1+1+1+1+1 by omega];simp only[List.getElem?_cons_succ];exact ih.2.2.2.2.1
   · rw[show(j+1)*6+5=j*6+5+1+1+1+1+1+1 by omega];simp only[List.getElem?_cons_succ];exact ih.2.2.2.2.2
theorem vD:∀(xs:List Lv)(k:Nat)(x:Lv),ek (xs.set k x)=((((((ek xs).set (k*6) (.int .i64 x.1)).set (k*6+1) (.int .i64 x.2.1)).set (k*6+2) (.int .i64 x.2.2.1)).set (k*6+3) (.int .i64 x.2.2.2.1)).set (k*6+4) (.int .i64 x.2.2.2.2.1)).set (k*6+5) x.2.2.2.2.2
 |[],k,x=>rfl
 |y::xs,0,x=>rfl
 | y::xs,k+1,x=>by
   rw[List.set_cons_succ,je,vD xs k x,je]
   rw[show(k+1)*6=k*6+1+1+1+1+1+1 by omega]
   simp only[List.set_cons_succ]
def jo (W:World)(n₀ k:Nat)(vs:List Lv)(fs:List Ln):Prop:=
 ∀j,j<k->(vs.getD j iA).1=(fs.getD j .z).k/\(vs.getD j iA).2.1=(fs.getD j .z).d/\(vs.getD j iA).2.2.1=(fs.getD j .z).a/\(vs.getD j iA).2.2.2.1=(fs.getD j .z).b/\(vs.getD j iA).2.2.2.2.1=(fs.getD j .z).n/\OI W n₀ (vs.getD j iA).2.2.2.2.2 (fs.getD j .z).l
theorem jo.kept {W W':World}{n₀ k:Nat}{vs:List Lv}{fs:List Ln}(h:jo W n₀ k vs fs)(hB:Below W.heap.size W W'):jo W' n₀ k vs fs:=fun j hj=>by
 obtain⟨h0,h1,h2,h3,h4,h5⟩:=h j hj
 exact⟨h0,h1,h2,h3,h4,h5.kept hB⟩
theorem jo.other {W W':World}{n₀ k b:Nat}{vs:List Lv}{fs:List Ln}(h:jo W n₀ k vs fs)(hg:W.grownBy W' (some b))(hne:b<n₀):jo W' n₀ k vs fs:=fun j hj=>by
 obtain⟨h0,h1,h2,h3,h4,h5⟩:=h j hj
 exact⟨h0,h1,h2,h3,h4,h5.dJ hg (fun g hgg=>by have:=(World.ownsRow.lt h5 g hgg).1;omega)⟩
theorem jo.mono {W:World}{n₀ n₁ k:Nat}{vs:List Lv}{fs:List Ln}(h:jo W n₁ k vs fs)(hn:n₀<=n₁):jo W n₀ k vs fs:=fun j hj=>by
 obtain⟨h0,h1,h2,h3,h4,h5⟩:=h j hj
 exact⟨h0,h1,h2,h3,h4,h5.mono hn⟩
theorem vw {W:World}{n₀ n₁ g n cap:Nat}{vs:List Lv}{fs:List Ln}(h:W.ownsRow n₀ 109 6 (.slice (some ⟨g,0,none⟩) n cap) n (ek vs))(hn:fs.length=n)(ht:jo W n₁ n vs fs):LL W (some ⟨g,0,none⟩) n fs:=by have hv:n=vs.length:=by{have:=h.1;rw[yB]at this;omega};have hlt:=World.ownsRow.lt h g rfl;have hmx:n<=maxLen:=by{rcases h.2 with⟨h',_⟩|⟨g',cap',cur,h',_,_,hc,hm,_⟩;{cases h'};cases h';exact Nat.le_trans hc hm};refine⟨hn,hmx, .inr ⟨g,0,rfl,hlt.2,fun j hj=>?_⟩⟩;obtain⟨g0,g1,g2,g3,g4,g5⟩:=mW vs j (by omega);obtain⟨t0,t1,t2,t3,t4,t5⟩:=ht j hj;rw[Nat.zero_add];refine⟨(World.ownsRow.cellAt h (j*6) (by omega)).trans (by rw[g0,t0]),(World.ownsRow.cellAt h (j*6+1) (by omega)).trans (by rw[g1,t1]),(World.ownsRow.cellAt h (j*6+2) (by omega)).trans (by rw[g2,t2]),(World.ownsRow.cellAt h (j*6+3) (by omega)).trans (by rw[g3,t3]),(World.ownsRow.cellAt h (j*6+4) (by omega)).trans (by rw[g4,t4]),?_⟩;obtain⟨sa,sc,e,hs⟩:=t5.slice;exact⟨sa,_,sc,(World.ownsRow.cellAt h (j*6+5) (by omega)).trans (by rw[g5,e]),hs⟩
def ni (W:World)(n₀:Nat)(v:Value)(fs:List Ln):Prop:=
 ∃g cap vs,v= .slice (some ⟨g,0,none⟩) fs.length cap/\W.ownsRow n₀ 109 6 (.slice (some ⟨g,0,none⟩) fs.length cap) fs.length (ek vs)/\jo W n₀ fs.length vs fs
theorem ni.LL {W:World}{n₀:Nat}{v:Value}{fs:List Ln}(h:ni W n₀ v fs):∃g cap,v= .slice (some ⟨g,0,none⟩) fs.length cap/\n₀<=g/\g<W.heap.size/\Go.Proofs.YthkjdjmjdlimnaaGreat.LL W (some ⟨g,0,none⟩) fs.length fs:=by obtain⟨g,cap,vs,rfl,hrow,ht⟩:=h;exact⟨g,cap,rfl,(World.ownsRow.lt hrow g rfl).1,(World.ownsRow.lt hrow g rfl).2,vw hrow rfl ht⟩
theorem vz:(Tryz.prog.info? 109).map (fun i=>(i.zero,i.size,i.bytes))=some (some (.agg #[.int .i64 0, .int .i64 0, .int .i64 0, .int .i64 0, .int .i64 0, .slice none 0 0]),6,64):=by kernel_rfl
def bq (W:World)(b:Nat)(vs:List Value):Prop:=b<W.heap.size/\∀i x,vs[i]?=some x->W.cell? ⟨b,i,none⟩=some x/\W.frozen? ⟨b,i,none⟩=false
theorem bq.dJ {W W':World}{b:Nat}{row:Option Nat}{vs:List Value}(h:bq W b vs)(hg:W.grownBy W' row)(hne:row≠some b):bq W' b vs:=by have hb:=hg.block b h.1 (fun e=>hne e.symm);refine⟨aj h.1 hg.size,fun i x hx=>?_⟩;obtain⟨h1,h2⟩:=h.2 i x hx;exact⟨(World.cell?_of_block hb).trans h1,by unfold World.frozen?;rw[hb];exact h2⟩
theorem bq.kept {W W':World}{b:Nat}{vs:List Value}(h:bq W b vs)(hB:Below W.heap.size W W'):bq W' b vs:=h.dJ (row:=none) ⟨hB.os,hB.tape,hB.output,hB.size,fun k hk _=>hB.block k hk⟩ (by simp)
theorem bq.new (W:World)(vs:List Value)(t:TypeId):bq (W.alloc (.cells vs.toArray t)) W.heap.size vs:=by refine⟨by simp,fun i x hx=>⟨?_,by simp⟩⟩;rw[World.cell?_alloc_at _ _ _ _ rfl];simpa using hx
theorem bq.set {W:World}{b:Nat}{vs:List Value}(h:bq W b vs)(i:Nat)(x:Value):bq (W.setCell ⟨b,i,none⟩ x) b (vs.set i x):=by refine⟨by simpa[World.setCell]using h.1,fun j y hy=>?_⟩;by_cases e:i=j;{subst e;have hi:i<vs.length:=by{rcases Nat.lt_or_ge i vs.length with h'|h';{exact h'};rw[List.getElem?_eq_none (by simpa using h')]at hy;cases hy};rw[List.getElem?_set_self hi]at hy;cases hy;obtain⟨h1,h2⟩:=h.2 i vs[i] (ai hi);exact⟨World.cell?_setCell_same _ _ _ h1,by simpa using h2⟩};rw[List.getElem?_set_ne e]at hy;obtain⟨h1,h2⟩:=h.2 j y hy;exact⟨(World.cell?_setCell_other _ _ _ _ (fun q=>e (by cases q;rfl))).trans h1,by simpa using h2⟩
section
def oU (W:World)(b:Nat)(v0 v1 v2 v3 v4:Value):Prop:=
 b <W.heap.size/\(W.cell? ⟨b,0,none⟩=some v0/\W.cell? ⟨b,1,none⟩=some v1/\W.cell? ⟨b,2,none⟩=some v2/\W.cell? ⟨b,3,none⟩=some v3/\W.cell? ⟨b,4,none⟩=some v4)/\
   W.frozen? ⟨b,0,none⟩=false/\W.frozen? ⟨b,1,none⟩=false/\W.frozen? ⟨b,2,none⟩=false/\W.frozen? ⟨b,3,none⟩=false/\W.frozen? ⟨b,4,none⟩=false
theorem oU.dJ {W W':World}{b:Nat}{row:Option Nat}{v0 v1 v2 v3 v4:Value}(h:oU W b v0 v1 v2 v3 v4)(hg:W.grownBy W' row)(hne:row≠some b):oU W' b v0 v1 v2 v3 v4:=by obtain⟨h0,⟨c0,c1,c2,c3,c4⟩,f0,f1,f2,f3,f4⟩:=h;have hb:=hg.block b h0 (fun e=>hne e.symm);have hc:∀i,W'.cell? ⟨b,i,none⟩=W.cell? ⟨b,i,none⟩:=fun i=>World.cell?_of_block hb;have hf:∀i,W'.frozen? ⟨b,i,none⟩=W.frozen? ⟨b,i,none⟩:=fun i=>by{unfold World.frozen?;rw[hb]};exact⟨aj h0 hg.size,⟨(hc _).trans c0,(hc _).trans c1,(hc _).trans c2,(hc _).trans c3,(hc _).trans c4⟩,(hf _).trans f0,(hf _).trans f1,(hf _).trans f2,(hf _).trans f3,(hf _).trans f4⟩
theorem oU.new (W:World)(v0 v1 v2 v3 v4:Value)(t:TypeId):oU (W.alloc (.cells #[v0,v1,v2,v3,v4] t)) W.heap.size v0 v1 v2 v3 v4:=by refine⟨by simp,⟨?_,?_,?_,?_,?_⟩,?_,?_,?_,?_,?_⟩<;>go_simp
theorem oU.aa5 {W:World}{b:Nat}{v0 v1 v2 v3 v4:Value}(h:oU W b v0 v1 v2 v3 v4)(x:Value):oU (W.setCell ⟨b,1,none⟩ x) b v0 x v2 v3 v4:=by obtain⟨h0,⟨c0,c1,c2,c3,c4⟩,f0,f1,f2,f3,f4⟩:=h;refine⟨by simpa[World.setCell]using h0,⟨?_,?_,?_,?_,?_⟩,?_,?_,?_,?_,?_⟩<;>go_simp
theorem oU.abl {W:World}{b:Nat}{v0 v1 v2 v3 v4:Value}(h:oU W b v0 v1 v2 v3 v4)(x:Value):oU (W.setCell ⟨b,4,none⟩ x) b v0 v1 v2 v3 x:=by obtain⟨h0,⟨c0,c1,c2,c3,c4⟩,f0,f1,f2,f3,f4⟩:=h;refine⟨by simpa[World.setCell]using h0,⟨?_,?_,?_,?_,?_⟩,?_,?_,?_,?_,?_⟩<;>go_simp
structure PS (w:World)(m0 N gE gO:Nat)(a:Option Addr)(len cap:Nat)(E O:List Int)(S:List Nat)(b:Bool)(W:World):Prop where
 gJ:Below w.heap.size w W
 hm:m0<=W.heap.size
 iN:w.heap.size<=N/\N<m0
 iE:w.heap.size<=gE/\gE<m0
 iO:w.heap.size<=gO/\gO<m0
 ne:N≠gE/\N≠gO/\gE≠gO
 rE:W.ownsRow w.heap.size 2 1 (.slice (some ⟨gE,0,none⟩) len len) len (E.map iv)
 rO:W.ownsRow w.heap.size 2 1 (.slice (some ⟨gO,0,none⟩) len len) len (O.map iv)
 st:∃v,oU W N (.slice a len cap) v (.slice (some ⟨gE,0,none⟩) len len) (.slice (some ⟨gO,0,none⟩) len len) (.bool b)/\W.ownsRow m0 2 1 v S.length ((kJ S.reverse).map iv)
variable {w : World} {m0 N gE gO : Nat} {a : Option Addr} {len cap : Nat} {E O : List Int} {S : List Nat} {b : Bool} {W : World}
theorem PS.kept {W':World}(h:PS w m0 N gE gO a len cap E O S b W)(hB:Below W.heap.size W W'):PS w m0 N gE gO a len cap E O S b W':=by obtain⟨v,hb,hr⟩:=h.st;exact{h with gJ:=h.gJ.trans (hB.mono h.gJ.size),hm:=Nat.le_trans h.hm hB.size,rE:=aO h.rE hB,rO:=aO h.rO hB,st:=⟨v,hb.dJ (row:=none) ⟨hB.os,hB.tape,hB.output,hB.size,fun k hk _=>hB.block k hk⟩ (by simp),aO hr hB⟩}
theorem bQ {W:World}{n₀ e k n:Nat}{v:Value}{xs:List Value}(h:W.ownsRow n₀ e k v n xs):∃a cap,v= .slice a n cap:=by rcases h.2 with⟨rfl,h0⟩|⟨g,cap,cur,rfl,_⟩;{exact⟨none,0,by rw[h0]⟩};exact⟨_,cap,rfl⟩
theorem PS.apart (h:PS w m0 N gE gO a len cap E O S b W){v:Value}{n:Nat}{xs:List Value}(hr:W.ownsRow m0 2 1 v n xs):∀g,v.ownBlock=some g->g≠N/\g≠gE/\g≠gO:=by intro g hg;have h1:=(hr.lt g hg).1;have:=h.iN;have:=h.iE;have:=h.iO;omega
theorem PS.row {wA:World}{v:Value}{n:Nat}{xs:List Value}(hs:PS w m0 N gE gO a len cap E O S b W)(hr:W.ownsRow m0 2 1 v n xs)(hg:W.grownBy wA v.ownBlock){v':Value}{S':List Nat}(hown:wA.ownsRow m0 2 1 v' S'.length ((kJ S'.reverse).map iv)):PS w m0 N gE gO a len cap E O S' b (wA.setCell ⟨N,1,none⟩ v'):=by have hap:=hs.apart hr;have hN:=hs.iN;have hEi:=hs.iE;have hOi:=hs.iO;obtain⟨n1,n2,n3⟩:=hs.ne;obtain⟨vv,hb,-⟩:=hs.st;have qI:=hb.dJ hg (fun e=>by have:=hap N e;omega);have hg2:=aC wA ⟨N,1,none⟩ v';have off:∀{g:Nat}{ys:List Value},W.ownsRow w.heap.size 2 1 (.slice (some ⟨g,0,none⟩) len len) len ys->(∀x,v.ownBlock=some x->x≠g)->g≠N->(wA.setCell ⟨N,1,none⟩ v').ownsRow w.heap.size 2 1 (.slice (some ⟨g,0,none⟩) len len) len ys:=by{intro g ys hrg h1 h2;have e1:wA.ownsRow w.heap.size 2 1 (.slice (some ⟨g,0,none⟩) len len) len ys:=hrg.kept hg (.inr (fun e=>h1 g e.symm rfl));exact ji e1 hg2 h2};have hB1:=hs.gJ.grown hg hs.gJ.size (fun j ej=>by have:=(hr.lt j ej).1;omega);refine⟨hB1.setCell (p:=⟨N,1,none⟩) hN.1 _,?_,hN,hEi,hOi,hs.ne,off hs.rE (fun x hx=>(hap x hx).2.1) (by omega),off hs.rO (fun x hx=>(hap x hx).2.2) (by omega),v',qI.aa5 v',?_⟩;{have h1:=hs.hm;have h2:=hg.size;simp[World.setCell];omega};refine hown.kept hg2 ?_;rcases hv:v'.ownBlock with _|x;{exact .inl rfl};refine .inr ?_;have:=(hown.lt x hv).1;simp only[ne_eq,af];omega
theorem PS.oW {t:Nat}(hs:PS w m0 N gE gO a len cap E O (t::S) b W):∃g c,oU W N (.slice a len cap) (.slice (some ⟨g,0,none⟩) (S.length+1) c) (.slice (some ⟨gE,0,none⟩) len len) (.slice (some ⟨gO,0,none⟩) len len) (.bool b)/\W.ownsRow m0 2 1 (.slice (some ⟨g,0,none⟩) (S.length+1) c) (S.length+1) ((kJ (t::S).reverse).map iv)/\W.cell? ⟨g,S.length,none⟩=some (.int .i64 (t:Int)):=by obtain⟨v,hb,hr⟩:=hs.st;rw[List.length_cons]at hr;obtain⟨g,c,rfl⟩:=ownsRow_succ hr;refine⟨g,c,hb,hr,?_⟩;have:=kr (xs:=kJ (t::S).reverse) hr (k:=S.length) (by simp) 0;rw[this];simp[kJ]
end
structure LX where
 B:Nat
 ha:Option Addr
 hc:Nat
 ea:Option Addr
 ec:Nat
 ba:Option Addr
 bc:Nat
 fs:List Fn
 f:Fn
 E:List Int
 O:List Int
 H:List Int
def LX.dI (c:LX)(v vg:Value):List Value:=
 [v,vg, .int .i64 (Lw.wd c.f), .slice c.ha c.f.b.length c.hc, .slice c.ea c.f.b.length c.ec, .slice c.ba c.f.b.length c.bc, .int .i64 c.f.g]
structure TX (c:LX)(W0:World):Prop where
 lt:W0.heap.size<=c.B
 hH:IL W0 c.ha c.f.b.length c.H
 hE:IL W0 c.ea c.f.b.length c.E
 hS:SL W0 c.ba c.f.b.length c.f.b
 acc:Hg.Acc c.fs c.f c.E c.O c.H
 ok:0<=c.f.a/\c.f.a<=3/\0<=c.f.l/\c.f.l<=3/\(c.f.g=0\/c.f.g=1)/\c.f.b.length<=80
 all:St.df c.f.b=true
 val:Mn.E8 c.fs
structure MK (c:LX)(W0 W:World)(v vg:Value)(out:List (Ln×Int))(P:Nat->Prop):Prop where
 gJ:Below W0.heap.size W0 W
 box:bq W c.B (c.dI v vg)
 sz:c.B+1<=W.heap.size
 row:∃vs:List Lv,W.ownsRow (c.B+1) 109 6 v out.length (ek vs)/\vs.length=out.length/\jo W (c.B+1) out.length vs (out.map (·.1))/\∀j,j<out.length->∀g,(vs.getD j iA).2.2.2.2.2.ownBlock=some g->vg.ownBlock≠some g/\P g
 Bc:OI W (c.B+1) vg (out.map (·.2))
structure FX (c:LX)(v vg v' nL:Value)(W W':World):Prop where
 os:W'.os=W.os
 tape:W'.tape=W.tape
 out:W'.output=W.output
 size:W.heap.size<=W'.heap.size
 blk:∀i,i<W.heap.size->i≠c.B->v.ownBlock≠some i->vg.ownBlock≠some i->W'.heap[i]?=W.heap[i]?
 v1:v'.ownBlock=v.ownBlock\/∃g,v'.ownBlock=some g/\W.heap.size<=g
 g1:nL.ownBlock=vg.ownBlock\/∃g,nL.ownBlock=some g/\W.heap.size<=g
theorem FX.refl (c:LX)(v vg:Value)(W:World):FX c v vg v vg W W:=⟨rfl,rfl,rfl,Nat.le_refl _,fun _ _ _ _ _=>rfl, .inl rfl, .inl rfl⟩
theorem FX.trans {c:LX}{v vg v' nL v2 wh:Value}{W W' W2:World}(h:FX c v vg v' nL W W')(k:FX c v' nL v2 wh W' W2):FX c v vg v2 wh W W2:=by refine⟨k.os.trans h.os,k.tape.trans h.tape,k.out.trans h.out,Nat.le_trans h.size k.size,fun i hi hB hv hg=>?_,?_,?_⟩;{refine(k.blk i (aj hi h.size) hB ?_ ?_).trans (h.blk i hi hB hv hg);{rcases h.v1 with e|⟨g,e,hge⟩;{rw[e];exact hv};rw[e];simp only[ne_eq,af];omega};rcases h.g1 with e|⟨g,e,hge⟩;{rw[e];exact hg};rw[e];simp only[ne_eq,af];omega};{rcases k.v1 with e|⟨g,e,hge⟩;{rw[e];exact h.v1};exact .inr ⟨g,e,Nat.le_trans h.size hge⟩};rcases k.g1 with e|⟨g,e,hge⟩;{rw[e];exact h.g1};exact .inr ⟨g,e,Nat.le_trans h.size hge⟩
theorem FX.below {c:LX}{v vg:Value}{W W':World}(h:Below W.heap.size W W'):FX c v vg v vg W W':=⟨h.os,h.tape,h.output,h.size,fun i hi _ _ _=>h.block i hi, .inl rfl, .inl rfl⟩
theorem FX.rows {c:LX}{v vg v' nL:Value}{W W':World}(h:FX c v vg v' nL W W'){n₀ e k n:Nat}{u:Value}{xs:List Value}(hr:W.ownsRow n₀ e k u n xs)(hn:∀g,u.ownBlock=some g->g≠c.B/\v.ownBlock≠some g/\vg.ownBlock≠some g):W'.ownsRow n₀ e k u n xs:=by refine⟨hr.1,?_⟩;rcases hr.2 with h'|⟨g',cap',cur,h',h1,h2,r⟩;{exact .inl h'};have hg:=hn g' (by rw[h'];rfl);exact .inr ⟨g',cap',cur,h',h1,(h.blk g' (Array.getElem?_eq_some_iff.1 h2).1 hg.1 hg.2.1 hg.2.2).trans h2,r⟩
theorem MK.kept {c:LX}{W0 W W':World}{v vg:Value}{out:List (Ln×Int)}{P:Nat->Prop}(h:MK c W0 W v vg out P)(hB:Below W.heap.size W W'):MK c W0 W' v vg out P:=by obtain⟨vs,h1,h2,h3,h4⟩:=h.row;exact⟨h.gJ.trans (hB.mono h.gJ.size),h.box.kept hB,Nat.le_trans h.sz hB.size,⟨vs,aO h1 hB,h2,h3.kept hB,h4⟩,h.Bc.kept hB⟩
theorem MK.iJ {c:LX}{W0 W:World}{v vg:Value}{out:List (Ln×Int)}{P P':Nat->Prop}(h:MK c W0 W v vg out P)(hP:∀g,P g->P' g):MK c W0 W v vg out P':=by obtain⟨vs,h1,h2,h3,h4⟩:=h.row;exact⟨h.gJ,h.box,h.sz,⟨vs,h1,h2,h3,fun j hj g e=>⟨(h4 j hj g e).1,hP g (h4 j hj g e).2⟩⟩,h.Bc⟩
theorem dx {W:World}{n₀ e k n:Nat}{v:Value}{xs:List Value}(h:W.ownsRow n₀ e k v n xs){g:Nat}(hg:v.ownBlock=some g):n₀<=g/\g<W.heap.size:=World.ownsRow.lt h g hg
theorem eZ {W:World}{b0 b1 e0 e1 k0 k1 n0 n1:Nat}{u v:Value}{xs ys:List Value}(h0:W.ownsRow b0 e0 k0 u n0 xs)(h1:W.ownsRow b1 e1 k1 v n1 ys)(he:e0≠e1){g:Nat}(hg:u.ownBlock=some g):v.ownBlock≠some g:=by intro hv;rcases h0.2 with⟨rfl,-⟩|⟨g0,c0,ahc,rfl,-,hb0,-⟩;{cases hg};rcases h1.2 with⟨rfl,-⟩|⟨g1,c1,ahd,rfl,-,hb1,-⟩;{cases hv};simp only[Value.ownBlock,af]at hg hv;subst hg;subst hv;rw[hb0]at hb1;cases hb1;exact he rfl
theorem dO {W W':World}{n₀ e k n:Nat}{u:Value}{xs:List Value}{row:Option Nat}(h:W.ownsRow n₀ e k u n xs)(hg:W.grownBy W' row)(hne:∀g,u.ownBlock=some g->row≠some g):W'.ownsRow n₀ e k u n xs:=by refine⟨h.1,?_⟩;rcases h.2 with h'|⟨g',cap',cur,h',h1,h2,r⟩;{exact .inl h'};exact .inr ⟨g',cap',cur,h',h1,(hg.block g' (Array.getElem?_eq_some_iff.1 h2).1 (fun e=>hne g' (by rw[h'];rfl) e.symm)).trans h2,r⟩
theorem jo.dJ {W W':World}{n₀ k:Nat}{vs:List Lv}{fs:List Ln}{row:Option Nat}(h:jo W n₀ k vs fs)(hg:W.grownBy W' row)(hne:∀j,j<k->∀g,(vs.getD j iA).2.2.2.2.2.ownBlock=some g->row≠some g):jo W' n₀ k vs fs:=fun j hj=>by
 obtain⟨h0,h1,h2,h3,h4,h5⟩:=h j hj
 exact⟨h0,h1,h2,h3,h4,dO h5 hg (hne j hj)⟩
theorem dZ {w w1 w2:World}{row:Option Nat}(h:Below w.heap.size w w1)(hg:w1.grownBy w2 row)(hr:∀g,row=some g->w.heap.size<=g):Below w.heap.size w w2:=
 ⟨hg.os.trans h.os,hg.tape.trans h.tape,hg.output.trans h.output,Nat.le_trans h.size hg.size,fun k hk=>(hg.block k (aj hk h.size) (fun e=>by have:=hr k e.symm;omega)).trans (h.block k hk)⟩
theorem oN (xs ys:List Lv):ek (xs++ys)=ek xs++ek ys:=by simp[ek]
theorem Au {ops:Array Oper}{o:Oper}{a:Act}{K:Act->World->Prop}{Q:Exit->Act->World->Prop}{E:Prop}(w:World)(hgd:o.guard=none)(s x:Operand)(t:TypeId)(ho:o.op= .call {callee:= .builtin .append,args:=#[s,x],argTypes:=#[t,t]})(base:Nat)(e:TypeId)(i:TypeInfo)(z:Value)(size bytes:Nat)(ht:Tryz.prog.underlying t=some (.slice e))(hi:Tryz.prog.info? e=some i)(hz:i.zero=some z)(hsize:i.size=size)(hby:i.bytes=bytes)(hzs:z.cells.size=size)(hsz:0<size)(v:Value)(n:Nat)(xs:List Value)(hs:a.eval s=v)(hown:w.ownsRow base e size v n xs)(ad:Addr)(m c:Nat)(news:List Value)(hx:a.eval x= .slice (some ad) m c)(hl:news.length=m*size)(hnews:∀j u,news[j]?=some u->w.cell? (ad.add j)=some u)(h1:∀u∈news,u.oneCell'=true)(h63:n+m<=maxLen)(hbytes:(n+m)*bytes<=140737488355328)(hbase:base<=w.heap.size)(h:∀v' w',w'.ownsRow base e size v' (n+m) (xs++news)->w.grownBy w' v.ownBlock->(v'= .slice none 0 0↔v= .slice none 0 0/\m=0)->(v'.ownBlock=v.ownBlock\/v'.ownBlock=some w.heap.size)->K (a.put o.dst v') w'):if Region.wanted o (yielded ops a.tmps)=true then Oper.wp Tryz.prog o a w K Q else E:=by have hw:Region.wanted o (yielded ops a.tmps)=true:=by{simp[Region.wanted,hgd]};rw[az hw];obtain⟨v',w',hr,h2,h3,h4,h5⟩:=run_append_own_at (P:=Tryz.prog) w base t o.type e i z size bytes ht hi hz hsize hby hzs hsz v n xs hown ad m c news hl hnews h1 h63 hbytes hbase;unfold Oper.wp execOp;simp only[ho,resolve,invoke,builtin,Sem.run_bind,Sem.run_pure,Result.andThen_ok,List.map_toArray,List.map_cons,List.map_nil,hs,hx,hr];exact h v' w' h2 h3 h4 h5
theorem vX (W W':World)(p q r s t u:Value)(ty:TypeId)(H:Nat)(hH:W.heap.size=H)(hc:∀i,W'.cell? ⟨H,i,none⟩=(W.alloc (.cells #[p,q,r,s,t,u] ty)).cell? ⟨H,i,none⟩):∀j y,[p,q,r,s,t,u][j]?=some y->W'.cell? ((⟨H,0,none⟩:Addr).add j)=some y:=by subst hH;intro j y hy;(have hadd:(⟨W.heap.size,0,none⟩:Addr).add j=⟨W.heap.size,j,none⟩:=by unfold Addr.add;split<;>simp_all);rw[hadd,hc,World.cell?_alloc_at _ _ _ _ rfl];simpa using hy
theorem TX.il {c:LX}{W0 W:World}(T:TX c W0){v vg:Value}{out:List (Ln×Int)}{P:Nat->Prop}(K:MK c W0 W v vg out P):IL W c.ha c.f.b.length c.H/\IL W c.ea c.f.b.length c.E/\SL W c.ba c.f.b.length c.f.b:=
 ⟨T.hH.kept K.gJ,T.hE.kept K.gJ,T.hS.kept K.gJ⟩
theorem MK.line {c:LX}{W0 W W1 W2:World}{v vg v':Value}{out:List (Ln×Int)}{P:Nat->Prop}(K:MK c W0 W v vg out P)(hW:W0.heap.size<=c.B)(hB1:Below W.heap.size W W1)(x:Ln)(la:Option Addr)(ln lc:Nat)(hx:OI W (c.B+1) (.slice la ln lc) x.l)(hap:∀g,(Value.slice la ln lc).ownBlock=some g->vg.ownBlock≠some g/\P g)(vs:List Lv)(hvs:W.ownsRow (c.B+1) 109 6 v out.length (ek vs)/\vs.length=out.length/\jo W (c.B+1) out.length vs (out.map (·.1))/\∀j,j<out.length->∀g,(vs.getD j iA).2.2.2.2.2.ownBlock=some g->vg.ownBlock≠some g/\P g)(hrow:W2.ownsRow (c.B+1) 109 6 v' (out.length+1) (ek vs++[.int .i64 x.k, .int .i64 x.d, .int .i64 x.a, .int .i64 x.b, .int .i64 x.n, .slice la ln lc]))(hg:W1.grownBy W2 v.ownBlock)(hat:v'.ownBlock=v.ownBlock\/v'.ownBlock=some W1.heap.size)(tg:Int):Below W0.heap.size W0 (W2.setCell ⟨c.B,0,none⟩ v')/\bq (W2.setCell ⟨c.B,0,none⟩ v') c.B (c.dI v' vg)/\c.B+1<=(W2.setCell ⟨c.B,0,none⟩ v').heap.size/\(∃vs:List Lv,(W2.setCell ⟨c.B,0,none⟩ v').ownsRow (c.B+1) 109 6 v' (out++[(x,tg)]).length (ek vs)/\vs.length=(out++[(x,tg)]).length/\jo (W2.setCell ⟨c.B,0,none⟩ v') (c.B+1) (out++[(x,tg)]).length vs ((out++[(x,tg)]).map (·.1))/\∀j,j<(out++[(x,tg)]).length->∀g,(vs.getD j iA).2.2.2.2.2.ownBlock=some g->vg.ownBlock≠some g/\P g)/\OI (W2.setCell ⟨c.B,0,none⟩ v') (c.B+1) vg (out.map (·.2))/\FX c v vg v' vg W (W2.setCell ⟨c.B,0,none⟩ v'):=by obtain⟨r1,r2,r3,r4⟩:=hvs;have vB:∀g,v.ownBlock=some g->c.B+1<=g:=fun g hg=>(dx r1 hg).1;have gs:=aC W2 ⟨c.B,0,none⟩ v';have bx1:=K.box.kept hB1;have bx2:=bx1.dJ hg (fun e=>by have:=vB c.B e;omega);have bx3:=bx2.set 0 v';have hint:2≠109:=by{decide};have gB:∀g,vg.ownBlock=some g->c.B+1<=g:=fun g hg=>(dx K.Bc hg).1;have og1:OI W1 (c.B+1) vg (out.map (·.2)):=K.Bc.kept hB1;have r1':=aO r1 hB1;have og2:OI W2 (c.B+1) vg (out.map (·.2)):=dO og1 hg (fun g e=>eZ og1 r1' hint e);have og3:OI (W2.setCell ⟨c.B,0,none⟩ v') (c.B+1) vg (out.map (·.2)):=dO og2 gs (fun g e=>by have:=gB g e;simp only[ne_eq,af];omega);have t1:=r3.kept hB1;have t2:jo W2 (c.B+1) out.length vs (out.map (·.1)):=t1.dJ hg (fun j hj g e=>eZ (t1 j hj).2.2.2.2.2 r1' hint e);have t3:jo (W2.setCell ⟨c.B,0,none⟩ v') (c.B+1) out.length vs (out.map (·.1)):=t2.dJ gs (fun j hj g e=>by have:=(dx (t2 j hj).2.2.2.2.2 e).1;simp only[ne_eq,af];omega);have x1:=hx.kept hB1;have x2:OI W2 (c.B+1) (.slice la ln lc) x.l:=dO x1 hg (fun g e=>eZ x1 r1' hint e);have x3:OI (W2.setCell ⟨c.B,0,none⟩ v') (c.B+1) (.slice la ln lc) x.l:=dO x2 gs (fun g e=>by have:=(dx x2 e).1;simp only[ne_eq,af];omega);have hr3:=dO hrow gs (fun g e=>by have:=(dx hrow e).1;simp only[ne_eq,af];omega);have b1:=K.gJ.trans (hB1.mono K.gJ.size);have b2:=dZ b1 hg (fun g e=>by have:=vB g e;omega);have b3:=dZ b2 gs (fun g e=>by cases e;exact hW);refine⟨b3,bx3,?_,⟨vs++[(x.k,x.d,x.a,x.b,x.n, .slice la ln lc)],?_,?_,fun j hj=>?_,fun j hj g e=>?_⟩,og3,⟨(gs.os.trans hg.os).trans hB1.os,(gs.tape.trans hg.tape).trans hB1.tape,(gs.output.trans hg.output).trans hB1.output,Nat.le_trans hB1.size (Nat.le_trans hg.size gs.size),fun i hi hb hv hv2=>?_,?_, .inl rfl⟩⟩;{exact Nat.le_trans K.sz (Nat.le_trans hB1.size (Nat.le_trans hg.size gs.size))};{rw[oN,List.length_append,List.length_singleton];exact hr3};{rw[List.length_append,List.length_append,r2];rfl};{rw[List.length_append,List.length_singleton]at hj;by_cases hjl:j<out.length;{have e1:(vs++[(x.k,x.d,x.a,x.b,x.n,Value.slice la ln lc)]).getD j iA=vs.getD j iA:=by{rw[ah,List.getElem?_append_left (by omega),←ah]};have e2:((out++[(x,tg)]).map (·.1)).getD j .z=(out.map (·.1)).getD j .z:=by{rw[List.map_append,ah,List.getElem?_append_left (by simpa using hjl),←ah]};rw[e1,e2];exact t3 j hjl};have ej:j=out.length:=by{omega};have e1:(vs++[(x.k,x.d,x.a,x.b,x.n,Value.slice la ln lc)]).getD j iA=(x.k,x.d,x.a,x.b,x.n,Value.slice la ln lc):=by{rw[ah,List.getElem?_append_right (by omega),r2,ej];simp};have e2:((out++[(x,tg)]).map (·.1)).getD j .z=x:=by{rw[List.map_append,ah,List.getElem?_append_right (by simp;omega)];simp[ej]};rw[e1,e2];exact⟨rfl,rfl,rfl,rfl,rfl,x3⟩};{rw[List.length_append,List.length_singleton]at hj;by_cases hjl:j<out.length;{have e1:(vs++[(x.k,x.d,x.a,x.b,x.n,Value.slice la ln lc)]).getD j iA=vs.getD j iA:=by{rw[ah,List.getElem?_append_left (by omega),←ah]};rw[e1]at e;exact r4 j hjl g e};have ej:j=out.length:=by{omega};have e1:(vs++[(x.k,x.d,x.a,x.b,x.n,Value.slice la ln lc)]).getD j iA=(x.k,x.d,x.a,x.b,x.n,Value.slice la ln lc):=by{rw[ah,List.getElem?_append_right (by omega),r2,ej];simp};rw[e1]at e;exact hap g e};{exact(gs.block i (aj hi (Nat.le_trans hB1.size hg.size)) (by simpa using hb)).trans ((hg.block i (aj hi hB1.size) (fun e=>hv e.symm)).trans (hB1.block i hi))};rcases hat with e|e;{exact .inl e};exact .inr ⟨_,e,hB1.size⟩
theorem MK.goal {c:LX}{W0 W W1 W2:World}{v vg nL:Value}{out:List (Ln×Int)}{P:Nat->Prop}{x:Ln}{tg:Int}(hW:W0.heap.size<=c.B)(hb:Below W0.heap.size W0 W)(hbx:bq W c.B (c.dI v vg))(hsz:c.B+1<=W.heap.size)(hvs:∃vs:List Lv,W.ownsRow (c.B+1) 109 6 v (out++[(x,tg)]).length (ek vs)/\vs.length=(out++[(x,tg)]).length/\jo W (c.B+1) (out++[(x,tg)]).length vs ((out++[(x,tg)]).map (·.1))/\∀j,j<(out++[(x,tg)]).length->∀g,(vs.getD j iA).2.2.2.2.2.ownBlock=some g->vg.ownBlock≠some g/\P g)(hgo:OI W (c.B+1) vg (out.map (·.2)))(hB1:Below W.heap.size W W1)(hrow:W2.ownsRow (c.B+1) 2 1 nL (out.length+1) ((out.map (·.2)).map iv++[.int .i64 tg]))(hg:W1.grownBy W2 vg.ownBlock)(hat:nL.ownBlock=vg.ownBlock\/nL.ownBlock=some W1.heap.size):MK c W0 (W2.setCell ⟨c.B,1,none⟩ nL) v nL (out++[(x,tg)]) P/\FX c v vg v nL W (W2.setCell ⟨c.B,1,none⟩ nL):=by obtain⟨vs,r1,r2,r3,r4⟩:=hvs;have gB:∀g,vg.ownBlock=some g->c.B+1<=g:=fun g hg=>(dx hgo hg).1;have gs:=aC W2 ⟨c.B,1,none⟩ nL;have bx3:=((hbx.kept hB1).dJ hg (fun e=>by have:=gB c.B e;omega)).set 1 nL;have hint:109≠2:=by{decide};have og1:OI W1 (c.B+1) vg (out.map (·.2)):=hgo.kept hB1;have s1:=aO r1 hB1;have s2:=dO s1 hg (fun g e=>eZ s1 og1 hint e);have s3:=dO s2 gs (fun g e=>by have:=(dx s2 e).1;simp only[ne_eq,af];omega);have t1:=r3.kept hB1;have t2:=t1.dJ hg (fun j hj g e=>(r4 j hj g e).1);have t3:=t2.dJ gs (fun j hj g e=>by have:=(dx (t2 j hj).2.2.2.2.2 e).1;simp only[ne_eq,af];omega);have hr3:=dO hrow gs (fun g e=>by have:=(dx hrow e).1;simp only[ne_eq,af];omega);have b1:=hb.trans (hB1.mono hb.size);have b2:=dZ b1 hg (fun g e=>by have:=gB g e;omega);have b3:=dZ b2 gs (fun g e=>by cases e;exact hW);refine⟨⟨b3,bx3,Nat.le_trans hsz (Nat.le_trans hB1.size (Nat.le_trans hg.size gs.size)),⟨vs,s3,r2,t3,fun j hj g e=>?_⟩,?_⟩,⟨(gs.os.trans hg.os).trans hB1.os,(gs.tape.trans hg.tape).trans hB1.tape,(gs.output.trans hg.output).trans hB1.output,Nat.le_trans hB1.size (Nat.le_trans hg.size gs.size),fun i hi hb hv hv2=>?_, .inl rfl,?_⟩⟩;{rcases hat with e'|e';{rw[e'];exact r4 j hj g e};rw[e'];have:=(dx (t1 j hj).2.2.2.2.2 e).2;refine⟨?_,(r4 j hj g e).2⟩;simp only[ne_eq,af];omega};{show World.ownsRow _ _ _ _ _ _ _;rw[List.map_append,List.length_append,List.map_append,List.length_map];exact hr3};{exact(gs.block i (aj hi (Nat.le_trans hB1.size hg.size)) (by simpa using hb)).trans ((hg.block i (aj hi hB1.size) (fun e=>hv2 e.symm)).trans (hB1.block i hi))};rcases hat with e|e;{exact .inl e};exact .inr ⟨_,e,hB1.size⟩
theorem aV (c:LX)(W0 W:World)(v vg:Value)(out:List (Ln×Int))(P:Nat->Prop)(hW:W0.heap.size<=c.B)(K:MK c W0 W v vg out P)(x:Ln)(la:Option Addr)(ln lc:Nat)(hx:OI W (c.B+1) (.slice la ln lc) x.l)(hap:∀g,(Value.slice la ln lc).ownBlock=some g->vg.ownBlock≠some g/\P g)(tg:Int)(hlen:out.length<=1000):Calls Tryz.prog 62 #[.pointer (some ⟨c.B,0,none⟩), .agg #[.int .i64 x.k, .int .i64 x.d, .int .i64 x.a, .int .i64 x.b, .int .i64 x.n, .slice la ln lc], .int .i64 tg] W fun e w'=>∃v' nL,e= .returned (.tuple #[])/\MK c W0 w' v' nL (out++[(x,tg)]) P/\FX c v vg v' nL W w':=by obtain⟨i0,hi,hz0,hz1,hz2⟩:=info_parts vz;obtain⟨j0,hj,hy0,hy1,hy2⟩:=info_parts dD;have hB1:=aB W (.cells #[.int .i64 x.k, .int .i64 x.d, .int .i64 x.a, .int .i64 x.b, .int .i64 x.n, .slice la ln lc] 109);have hB2:=hB1.trans ((aB _ (.cells #[.int .i64 x.k, .int .i64 x.d, .int .i64 x.a, .int .i64 x.b, .int .i64 x.n, .slice la ln lc] 109)).mono hB1.size);have hB3:=hB2.trans ((Below.refl _ _).drew.mono hB2.size);obtain⟨vs,hvs⟩:=K.row;obtain⟨av,cv,rfl⟩:=bQ hvs.1;have hgo:W.ownsRow (c.B+1) 2 1 vg out.length ((out.map (·.2)).map iv):=by{have:=K.Bc;unfold OI at this;rwa [List.length_map]at this};obtain⟨ag,cg,rfl⟩:=bQ hgo;have hr2:=aO (aO hvs.1 hB2) (Below.refl _ _).drew;have hb0:=K.box;have hb2:=(K.box.kept hB2).kept (Below.refl _ _).drew;have d0:=(hb0.2 0 _ rfl).1;have hvB:∀g,(Value.slice av out.length cv).ownBlock=some g->c.B+1<=g:=fun g hg=>(dx hvs.1 hg).1;have HRW:=ae hr2;have HB:=ae hb2;have HK:=ae (ak K (ak hvs (ak hx (ak hap hB3))));have hsz:c.B<W.heap.size:=K.sz;clear hb0 hb2 hr2 hB1 hB2 hB3 hvs K hx hap hgo;go_enter Tryz.func62,Tryz.ntmps62;go_wp2;go_region_law (refine Au _ rfl (.tmp 10) (.tmp 12) 67 rfl (c.B+1) 109 i0 (.agg #[.int .i64 0, .int .i64 0, .int .i64 0, .int .i64 0, .int .i64 0, .slice none 0 0]) 6 64 Tryz.underlying67 hi hz0 hz1 hz2 rfl (by decide) (.slice av out.length cv) out.length (ek vs) (by simp[Act.eval]) HRW.out ⟨W.heap.size+1,0,none⟩ 1 1 [.int .i64 x.k, .int .i64 x.d, .int .i64 x.a, .int .i64 x.b, .int .i64 x.n, .slice la ln lc] (by simp[Act.eval]) rfl (vX (W.alloc (.cells #[.int .i64 x.k, .int .i64 x.d, .int .i64 x.a, .int .i64 x.b, .int .i64 x.n, .slice la ln lc] 109)) _ _ _ _ _ _ _ 109 _ (by simp) (fun i=>rfl)) (by simp[Value.oneCell']) (by simp only[maxLen];omega) (by omega) (by simp;omega) ?_;intro v' wA hown' hgrow _ hat;obtain⟨g',cap',rfl⟩:=ownsRow_succ hown';have qI:=HB.out.dJ hgrow (fun e=>by have:=hvB c.B e;omega);have cA:=(qI.2 0 _ rfl).1;have fA:=(qI.2 0 _ rfl).2;have kP:=ae (ak hown' (ak hgrow hat));have lA:=qI.1;clear hown' hgrow qI hat);all_goals have hM:=MK.line HK.out.1 hW HK.out.2.2.2.2 x la ln lc HK.out.2.2.1 HK.out.2.2.2.1 vs HK.out.2.1 kP.out.1 kP.out.2.1 kP.out.2.2 tg;clear kP HRW HB cA fA lA;generalize hW3:wA.setCell ⟨c.B,0,none⟩ (.slice (some ⟨g',0,none⟩) (out.length+1) cap')=W3 at hM;obtain⟨m1,m2,m3,m4,m5,m6⟩:=hM;have c1:=(m2.2 1 _ rfl).1;have f1:=(m2.2 1 _ rfl).2;have l3:c.B<W3.heap.size:=m3;have tN:=aB W3 (.cells #[.int .i64 tg] 2);have o4:(W3.alloc (.cells #[.int .i64 tg] 2)).ownsRow (c.B+1) 2 1 (.slice ag out.length cg) out.length ((out.map (·.2)).map iv):=by{have:=m5.kept tN;unfold OI at this;rwa [List.length_map]at this};have hgB:∀g,(Value.slice ag out.length cg).ownBlock=some g->c.B+1<=g:=fun g hg=>(dx o4 hg).1;have b4:=m2.kept tN;have HO4:=ae o4;have Yo:=ae b4;have HM:=ae (ak m1 (ak m2 (ak m3 (ak m4 (ak m5 (ak m6 tN))))));clear m1 m2 m3 m4 m5 m6 o4 b4 tN;go_wp2_with(at_builtin;refine wpList_append_own_at _ rfl _ _ 27 rfl (c.B+1) 2 j0 (.int .i64 0) 1 8 Tryz.underlying27 hj hy0 hy1 hy2 rfl (by decide) (.slice ag out.length cg) out.length _ rfl HO4.out ⟨W3.heap.size,0,none⟩ 1 1 [.int .i64 tg] rfl rfl (cell_one_new _ _ _) (by simp[Value.oneCell']) (by simp only[maxLen];omega) (by omega) (by simp;omega) ?_;intro v2 wB hown2 hgrow2 _ yK;obtain⟨g2,cap2,rfl⟩:=ownsRow_succ hown2;have hbB:=Yo.out.dJ hgrow2 (fun e=>by have:=hgB c.B e;omega);have cB:=(hbB.2 1 _ rfl).1;have fB:=(hbB.2 1 _ rfl).2;have lX:=ae (ak hown2 (ak hgrow2 yK));have lB:=hbB.1;clear hown2 hgrow2 hbB yK);(try simp only[Exit.inBlock,Exit.then]);obtain⟨m1,m2,m3,m4,m5,m6,tN⟩:=HM.out;have hF:=MK.goal hW m1 m2 m3 m4 m5 tN lX.out.1 lX.out.2.1 lX.out.2.2;refine bodyPost_end (results_none rfl _ _ _) rfl ⟨_,_,rfl,hF.1,m6.trans hF.2⟩
section
open Go.RowKit
variable {P : Program} {ops : Array Oper} {md : Region.Mode} {C : World → Prop} {n : Nat}
def lT (P:Program)(md:Region.Mode)(ops:Array Oper)(C:World->Prop)(n:Nat)(L:Array Bool->Act->Prop):Nat->Array Bool->Act->Prop
 |0,l,a=>L l a
 |f+1,l,a=>Region.ready md ops l≠[]/\∀i,i∈Region.ready md ops l->i<n/\qOp P ops C i (lT P md ops C n L f (l.setIfInBounds i true)) a
theorem lT.any {L:Array Bool->Act->Prop}{Q:Exit->Act->World->Prop}{g:Nat}(hL:∀l a w,C w->L l a->wpAny P md ops Q g l a w)(f:Nat):∀(l:Array Bool)(a:Act)(w:World),C w->lT P md ops C n L f l a->wpAny P md ops Q (f+g) l a w:=by
 induction f with
 |zero=>intro l a w hw h;rw[Nat.zero_add];exact hL l a w hw h
 |succ f ih=>
  intro l a w hw h
  rw[show f+1+g=(f+g)+1 by omega]
  refine⟨fun e=>absurd e h.1,fun i hi=>?_⟩
  exact wpOp_of_qOp hw (fun a' w' hw' h'=>ih _ a' w' hw' h') (h.2 i hi).2
theorem kW {l:Array Bool}(hs:Region.sinkB md ops n=true)(hc:Region.chainB md ops n=true)(hn:n<ops.size)(inv:HeadInv md ops n l){i:Nat}(hi:i<n)(hun:l.getD i true=false){j:Nat}(hj:j∈Region.ready md ops l):j<n:=by refine Nat.lt_of_not_le fun h=>?_;exact tail_waits hs hc hn inv (n-i) i rfl hi hun j h hj
theorem lT.first {L:Array Bool->Act->Prop}{i:Nat}{o:Oper}{v:Value}(lg:ops[i]?=some o)(hsel:∀(j:Nat)(o:Oper) cs b,ops[j]?=some o->o.op≠ .select cs b)(hs:Region.sinkB md ops n=true)(hc:Region.chainB md ops n=true)(hn:n<ops.size)(hin:i<n)(hdone:∀l a,L l a->∀j,j∈Region.ready md ops l->n<=j)(f:Nat):∀(l:Array Bool)(a:Act),HeadInv md ops n l->(∀j oj,ops[j]?=some oj->j≠i->l.getD j true=false->(∀e∈oj.after,Region.binds md e=true->e.on≠i)->o.apart ops oj=true)->i∈Region.ready md ops l->YieldsIn P ops C o v a->lT P md ops C n L f (l.setIfInBounds i true) (a.put o.dst v)->lT P md ops C n L (f+1) l a:=by
 induction f with
 |zero=>
  intro l a inv hfree hr hy hH
  refine⟨fun e=>by rw[e]at hr;exact absurd hr List.not_mem_nil,fun j hj=>⟨kW hs hc hn inv hin (mem_ready.1 hr).1 hj,?_⟩⟩
  rcases Nat.decEq j i with hne|he
  · have h1:=hdone _ _ hH j (ready_mono hj hne);have h2:=kW hs hc hn inv hin (mem_ready.1 hr).1 hj;omega
  · subst he;exact hy.qOp lg hH
 |succ f ih=>
  intro l a inv hfree hr hy hH
  have hun:=(mem_ready.1 hr).1
  refine⟨fun e=>by rw[e]at hr;exact absurd hr List.not_mem_nil,fun j hj=>⟨kW hs hc hn inv hin hun hj,?_⟩⟩
  rcases Nat.decEq j i with hne|he
  · obtain⟨hjun,oj,hoj,hall⟩:=mem_ready.1 hj;have hno:∀e∈oj.after,Region.binds md e=true->e.on≠i:=by{intro e he hb heq;have h1:=hall e he hb;rw[heq,getD_both hun]at h1;cases h1};have hstep:=qOp_put hoj (hfree j oj hoj hne hjun hno) (fun cs b=>hsel i o cs b lg) (fun cs b=>hsel j oj cs b hoj) hy (hH.2 j (ready_mono hj hne)).2;refine qOp_mono (fun a' h'=>?_) hstep;refine ih _ a' (inv.set hj (kW hs hc hn inv hin hun hj)) (fun k ok hk hki acC acD=>hfree k ok hk hki ?_ acD) (ready_mono hr (Ne.symm hne)) h'.1 ?_;{by_cases hjk:j=k;{rw[←hjk];exact hjun};rwa [getD_set_ne true hjk]at acC};rw[Array.setIfInBounds_comm _ _ hne];exact h'.2
  · subst he;exact hy.qOp lg hH
theorem lT.lex {g:Nat}{Lq:Act->Prop}(hsel:Region.noSelect ops=true)(hs:Region.sinkB md ops n=true)(hc:Region.chainB md ops n=true)(hn:n<ops.size):
   ∀ (hd:List Oper) (k:Nat) (l:Array Bool) (a:Act),k+hd.length=n->(∀j,j<hd.length->hd[j]?=ops[k+j]?)->HeadInv md ops n l->Region.lexHead md ops g hd.length k l=true->
     wpQuiet P ops C Lq hd a->lT P md ops C n (fun l' a'=>Region.seqB md ops g n l'=true/\Lq a') hd.length l a
 | [],k,l,a,hk,_,_,hB,h=>by
   have e:k=n:=hk
   rw[←e]
   exact⟨hB,h⟩
 | o::hd,k,l,a,hk,hl,inv,hB,h=>by
   rw[List.length_cons]at hk
   have h0:ops[k]?=some o:=(hl 0 (by simp)).symm
   simp only[List.length_cons,Region.lexHead,au]at hB
   have hr:k∈Region.ready md ops l:=by simpa using hB.1.1
   have hq:qOp P ops C k (wpQuiet P ops C Lq hd) a:=by unfold qOp;simp only[h0];exact h
   obtain⟨v,hy,hrest⟩:=yieldsIn_of_qOp h0 hq
   refine lT.first h0 (Region.noSelect_spec hsel) hs hc hn (by omega) (fun l' a' hL=>seqB_ready hL.1) hd.length l a inv (Region.free_spec h0 hB.1.2) hr hy ?_
   refine lT.lex hsel hs hc hn hd (k+1) _ _ (by omega) (fun j hj=>?_) (inv.set hr (by omega)) hB.2 hrest
   have:=hl (j+1) (by simp;omega)
   rw[show k+1+j=k+(j+1)by omega,←this]
   rfl
theorem aY {id:Nat}{Q:Exit->Act->World->Prop}{a:Act}{w:World}{l:List Oper}(n:Nat)(hm:P.follows .mixedOrders=true)(hB:Region.lexTailB .any l.toArray n=true)(h:wpQuiet P l.toArray (fun w'=>∃p:bP w,w'=p.to) (fun a'=>∀w',(∃p:bP w,w'=p.to)->wpList P l.toArray Q (l.drop n) a' w') (l.take n) a):(Code.region id l.toArray true).wp P Q a w:=by
 simp only[Region.lexTailB,au,decide_eq_true_eq]at hB
 obtain⟨⟨⟨⟨hsel,hn⟩,hs⟩,hc⟩,hlex⟩:=hB
 have hnl:n<l.length:=by simpa using hn
 have e1:(l.take n).length=n:=by rw[List.length_take];omega
 have e2:(l.drop n).length=l.toArray.size-n:=by rw[List.length_drop];simp
 have inv:HeadInv .any l.toArray n (Array.replicate l.toArray.size false):=by refine⟨by simp,fun j oj _ hl=>?_,fun t _ ht=>getD_in (by simpa using ht) (getD_replicate_false _ _)⟩;rw[getD_replicate_false]at hl;cases hl
 have H:=lT.lex (md:= .any) (g:=l.toArray.size-n) hsel hs hc hn (l.take n) 0 _ a (by rw[e1];omega) (fun j hj=>by rw[e1]at hj;simp[hj]) inv (by rw[e1];exact hlex) h
 have R:=lT.any (Q:=Q) (g:=l.toArray.size-n) (fun l' a' w' hw' hL=>by
  have:=wpAny_of_seq (md:= .any) (Q':=Q) (l.drop n) n l' a' w' (fun j=>by simp[List.getElem?_drop]) (by rw[e2];exact hL.1) (hL.2 w' hw')
  rwa [e2]at this) (l.take n).length _ a {w with drawn:=w.drawn+1} ⟨⟨w.drew,(Below.refl _ w).drew⟩,rfl⟩ H
 rw[e1,show n+(l.toArray.size-n)=l.toArray.size by omega]at R
 exact wp_region_any hm R
end
theorem kD {c:LX}{W0 W:World}{v vg:Value}{out:List (Ln×Int)}{P:Nat->Prop}(T:TX c W0)(K:MK c W0 W v vg out P)(h:Int)(h1:-100<=h)(h2:h<=100):Calls Tryz.prog 96 #[.pointer (some ⟨c.B,0,none⟩), .int .i64 h] W fun e w'=>e= .returned (.int .i64 (Lw.bx c.f h))/\w'=W:=by have d2:=(K.box.2 2 _ rfl).1;have hok:=T.ok;have HW:Hid (Lw.bx c.f h=Lw.wd c.f+h):=rfl;have hw1:0<=Lw.wd c.f/\Lw.wd c.f<=6:=by{unfold Lw.wd;omega};generalize Lw.wd c.f=u at d2 HW hw1;clear T K hok;go_enter Tryz.func96,Tryz.ntmps96;go_wp2;go_ret;exact⟨by rw[HW.out]<;>rfl,rfl⟩
theorem Lw.xX {f:Fn}{E H:List Int}{n:Nat}{dp:Int}{t:Nat}(hlt:dp.toNat<(aQ.ed f.b E n n).length)(ht:(aQ.ed f.b E n n).getD dp.toNat (-1)=(t:Int)):Lw.gy f E H n dp=if aQ.op f.b t=9 then((t:Int)+1,0,0)else if aQ.op f.b t=10 then(aQ.aS E t,Lw.bx f (H.getD t 0-1),Hg.arg f.b t)else(aQ.aS E t,Lw.bx f (H.getD t 0),Hg.arg f.b t):=by unfold Lw.gy;rw[az hlt,ht];rfl
theorem Lw.Dx {f:Fn}{E H:List Int}{n:Nat}{dp:Int}(hlt:¬dp.toNat<(aQ.ed f.b E n n).length):Lw.gy f E H n dp=((f.b.length:Int)-1,Lw.bx f 0,f.g):=by unfold Lw.gy;rw[ax hlt]
theorem bf {W W':World}{p:Addr}{v:Value}(hB:Below W.heap.size W W')(h:W.cell? p=some v):W'.cell? p=some v:=(hB.cell (p:=p) (World.block_lt_of_cell? _ _ h)).trans h
theorem aQ.rY (xs:List (Int×Int))(E:List Int)(a:Int):∀k,(aQ.ed xs E a k).length<=k
 |0=>Nat.le_refl _
 | k+1=>by
   have:=aQ.rY xs E a k
   unfold aQ.ed
   split
   · rw[List.length_cons];omega
   · omega
theorem kI {c:LX}{W0 W:World}{v vg:Value}{out:List (Ln×Int)}{P:Nat->Prop}(T:TX c W0)(K:MK c W0 W v vg out P)(at':Nat)(hat:at'<c.f.b.length)(dp:Int)(h0:0<=dp)(h9:dp<=99)
   (hJ:∀t:Nat,dp.toNat<(aQ.ed c.f.b c.E at' at').length->(aQ.ed c.f.b c.E at' at').getD dp.toNat (-1)=(t:Int)->0<=c.H.getD t 0):
   Calls Tryz.prog 97 #[.pointer (some ⟨c.B,0,none⟩), .int .i64 at', .int .i64 dp] W fun e w'=>
     e= .returned (.tuple #[.int .i64 (Lw.gy c.f c.E c.H at' dp).1, .int .i64 (Lw.gy c.f c.E c.H at' dp).2.1, .int .i64 (Lw.gy c.f c.E c.H at' dp).2.2])/\Below W.heap.size W w':=by
 obtain⟨hH,hE,hS⟩:=T.il K
 have hLen:=T.ok.2.2.2.2.2
 have hall:=T.all
 have Yp:=T.acc.Yk
 have htop:=T.acc.oW
 obtain⟨bl,hbl⟩:∃n,c.f.b.length=n:=⟨_,rfl⟩
 have hbx:=K.box
 unfold LX.dI at hbx
 rw[hbl]at hH hE hS hLen hat htop hbx
 have d4:=(hbx.2 4 _ rfl).1
 have d5:=(hbx.2 5 _ rfl).1
 have Oe:=hbx.1
 have e4:∀p:bP W,p.to.cell? ⟨c.B,4,none⟩=some (.slice c.ea bl c.ec):=fun p=>(p.h.cell (p:=⟨c.B,4,none⟩) Oe).trans d4
 have e5:∀p:bP W,p.to.cell? ⟨c.B,5,none⟩=some (.slice c.ba bl c.bc):=fun p=>(p.h.cell (p:=⟨c.B,5,none⟩) Oe).trans d5
 have hne:=bP.any W
 have HT:=ae (ak T (ak K (ak hbl (ak hbx (ak htop Yp)))))
 have hcon:=fun(W':World) (hB:Below W.heap.size W W')=>uy c.ba bl c.bc c.f.b hLen hall c.ea c.ec c.E at' hat W' (hS.kept hB) (hE.kept hB)
 clear hbx htop Yp hall d4 d5
 have hal:=aQ.rY c.f.b c.E at' at'
 obtain⟨A,hAr⟩:∃A,aQ.ed c.f.b c.E at' at'=A:=⟨_,rfl⟩
 have harm:=fun i hi=>aQ.DZ (i:=i) HT.out.2.2.2.2.2 hAr hi
 have Yq:=ae (ak (fun(t:Nat) h1 h2=>Lw.xX (f:=c.f) (E:=c.E) (H:=c.H) (n:=at') (dp:=dp) (t:=t) h1 h2) (fun h1=>Lw.Dx (f:=c.f) (E:=c.E) (H:=c.H) (n:=at') (dp:=dp) h1))
 rw[hAr]at hal Yq
 simp only[hAr]at hJ hcon
 obtain⟨L,hL⟩:∃L,Lw.gy c.f c.E c.H at' dp=L:=⟨_,rfl⟩
 rw[hL]at Yq ⊢
 clear hL hAr
 go_enter Tryz.func97,Tryz.ntmps97
 go_wp2
 refine aY 9 (by kernel_rfl) (by kernel_rfl) ?_
 simp only[List.take_succ_cons,List.take_zero,List.drop_succ_cons,List.drop_zero]
 repeat(go_big_quiet_step (fail))
 refine wpQuiet_nil ?_
 rintro _ ⟨pw,rfl⟩
 have Yr:=pw.h
 have fE:=hcon _ Yr
 obtain⟨W1,hW1⟩:∃W1,pw.to=W1:=⟨_,rfl⟩
 rw[hW1]at fE Yr ⊢
 clear hcon hW1 e4 e5 hne
 go_wp2_with fail
 refine fE.mono ?_
 rintro e w1 ⟨v1,rfl,hoi,hB1⟩
 dsimp only
 obtain⟨a1,c1,rfl,Tq⟩:=hoi.slice
 have hB2:=Yr.trans (hB1.mono Yr.size)
 have hK1:=HT.out.2.1.kept hB2
 have hbx:=hK1.box
 unfold LX.dI at hbx
 rw[HT.out.2.2.1]at hbx
 have d2:=(hbx.2 2 _ rfl).1
 have d3:=(hbx.2 3 _ rfl).1
 have d4:=(hbx.2 4 _ rfl).1
 have d5:=(hbx.2 5 _ rfl).1
 have d6:=(hbx.2 6 _ rfl).1
 have Oe:=hbx.1
 have hS1:=hS.kept hB2
 have hE1:=hE.kept hB2
 have hH1:=hH.kept hB2
 have HB:=ae hB2
 have bB:=ae (fun(p:bP w1) (h:Int) h1 h2=>kD HT.out.1 (hK1.kept p.h) h h1 h2)
 have hne:=bP.any w1
 clear hoi hbx fE hB1 hB2 Yr hS hE hH
 by_cases hlt:dp.toNat<A.length
 · obtain⟨t,et,htl,hEt,-⟩:=harm dp.toNat hlt
   have hge:¬((A.length:Int)<=dp):=by omega
   have htn:t<bl:=by omega
   have hxt:A.getD dp.toNat 0=(t:Int):=by
     rw[←et]
     unfold aQ.aS
     rw[ah,ah,ai hlt]
     rfl
   have hdt:A.getD dp.toNat (-1)=(t:Int):=et
   have cA:∃ab ao,a1=some ⟨ab,ao,none⟩/\w1.cell? ⟨ab,ao+dp.toNat,none⟩=some (.int .i64 t):=by
     obtain⟨-,-,h3|⟨b,o,rfl,-,hh⟩⟩:=Tq
     · omega
     · exact⟨b,o,rfl,by rw[hh dp.toNat hlt,hxt]⟩
   obtain⟨ab,ao,rfl,cA⟩:=cA
   have cE:∃b o,c.ea=some ⟨b,o,none⟩/\b<w1.heap.size/\w1.cell? ⟨b,o+t,none⟩=some (.int .i64 (aQ.aS c.E t)):=by
     obtain⟨hl,-,h3|⟨b,o,e,hb,hh⟩⟩:=hE1
     · omega
     · refine⟨b,o,e,hb,?_⟩
       rw[hh t htn]
       unfold aQ.aS
       rw[ah,ah,ai (by omega)]
       rfl
   obtain⟨eb,eo,ee,lE,cE⟩:=cE
   have cH:∃b o,c.ha=some ⟨b,o,none⟩/\b<w1.heap.size/\w1.cell? ⟨b,o+t,none⟩=some (.int .i64 (c.H.getD t 0)):=by
     obtain⟨hl,-,h3|⟨b,o,e,hb,hh⟩⟩:=hH1
     · omega
     · exact⟨b,o,e,hb,hh t htn⟩
   obtain⟨hb',ho',eh,lH,cH⟩:=cH
   have cS:∃b o,c.ba=some ⟨b,o,none⟩/\b<w1.heap.size/\w1.cell? ⟨b,o+t*2,none⟩=some (.int .i64 (aQ.op c.f.b t))/\w1.cell? ⟨b,o+t*2+1,none⟩=some (.int .i64 (Hg.arg c.f.b t)):=by
     obtain⟨hl,-,h3|⟨b,o,e,hb,hh⟩⟩:=hS1
     · omega
     · exact⟨b,o,e,hb,(hh t htn).1,(hh t htn).2⟩
   obtain⟨sb,so,es,lS,FP,cS2⟩:=cS
   have HL:Hid (L=if aQ.op c.f.b t=9 then((t:Int)+1,0,0)else if aQ.op c.f.b t=10 then(aQ.aS c.E t,Lw.bx c.f (c.H.getD t 0-1),Hg.arg c.f.b t)else(aQ.aS c.E t,Lw.bx c.f (c.H.getD t 0),Hg.arg c.f.b t)):=Yq.out.1 t hlt hdt
   have hHb:c.H.getD t 0<=20:=HT.out.2.2.2.2.1 t htn
   have hHl:0<=c.H.getD t 0:=hJ t hlt hdt
   obtain⟨p,hp⟩:∃p,aQ.op c.f.b t=p:=⟨_,rfl⟩
   obtain⟨q,hq⟩:∃q,Hg.arg c.f.b t=q:=⟨_,rfl⟩
   obtain⟨u,hu⟩:∃u,c.H.getD t 0=u:=⟨_,rfl⟩
   obtain⟨z,hz⟩:∃z,aQ.aS c.E t=z:=⟨_,rfl⟩
   rw[hp,hq,hu,hz]at HL
   rw[hp]at FP
   rw[hq]at cS2
   rw[hu]at cH hHb hHl
   rw[hz]at cE
   have HX1:=ae (fun(pz:bP w1)=>bB.out pz (u-1) (by omega) (by omega))
   have rC:=ae (fun(pz:bP w1)=>bB.out pz u (by omega) (by omega))
   obtain⟨b1,hb1⟩:∃b1,Lw.bx c.f (u-1)=b1:=⟨_,rfl⟩
   obtain⟨b2,hb2⟩:∃b2,Lw.bx c.f u=b2:=⟨_,rfl⟩
   rw[hb1]at HX1 HL
   rw[hb2]at rC HL
   obtain⟨dn,hdn⟩:=Int.eq_ofNat_of_zero_le h0
   subst hdn
   rw[aA]at cA hlt
   have hdZ:(dn:Int)<(A.length:Int):=by omega
   have htZ:(t:Int)<(bl:Int):=by omega
   rw[eh]at d3
   rw[ee]at d4
   rw[es]at d5
   have g3:∀p:bP w1,p.to.cell? ⟨c.B,3,none⟩=some (.slice (some ⟨hb',ho',none⟩) bl c.hc):=fun p=>(p.h.cell (p:=⟨c.B,3,none⟩) Oe).trans d3
   have g4:∀p:bP w1,p.to.cell? ⟨c.B,4,none⟩=some (.slice (some ⟨eb,eo,none⟩) bl c.ec):=fun p=>(p.h.cell (p:=⟨c.B,4,none⟩) Oe).trans d4
   have g5:∀p:bP w1,p.to.cell? ⟨c.B,5,none⟩=some (.slice (some ⟨sb,so,none⟩) bl c.bc):=fun p=>(p.h.cell (p:=⟨c.B,5,none⟩) Oe).trans d5
   have gE:∀p:bP w1,p.to.cell? ⟨eb,eo+t,none⟩=some (.int .i64 z):=fun p=>(p.h.cell (p:=⟨eb,eo+t,none⟩) lE).trans cE
   have gH:∀p:bP w1,p.to.cell? ⟨hb',ho'+t,none⟩=some (.int .i64 u):=fun p=>(p.h.cell (p:=⟨hb',ho'+t,none⟩) lH).trans cH
   have gS:∀pz:bP w1,pz.to.cell? ⟨sb,so+t*2+1,none⟩=some (.int .i64 q):=fun pz=>(pz.h.cell (p:=⟨sb,so+t*2+1,none⟩) lS).trans cS2
   obtain⟨al,Yt⟩:∃al,A.length=al:=⟨_,rfl⟩
   rw[Yt]at hdZ hlt hge hal ⊢
   clear harm Tq hS1 hE1 hH1 hxt hdt et hp hq hu hz hb1 hb2 Yt hJ Yq ee eh es d2 d6
   by_cases h9':p=9
   · subst h9'
     clear g3 g4 g5 gE gH gS
     go_wp2
     go_ret3
     exact⟨by rw[HL.out];rfl,HB.out⟩
   · by_cases h10:p=10
     · subst h10
       go_wp2
       refine bY (by kernel_rfl) (by kernel_rfl) ?_
       repeat(go_big_quiet_step (first|exact jM (HX1.out _)))
       refine wpQuiet_nil ?_
       rintro _ ⟨pz,rfl⟩
       have Yu:=pz.h
       clear g3 g4 g5 gE gH gS
       generalize pz.to=w7 at*
       go_wp2
       go_ret3
       exact⟨by rw[HL.out];rfl,HB.out.trans (Yu.mono HB.out.size)⟩
     · have e9:(p==9)=false:=by simpa using h9'
       have e10:(p==10)=false:=by simpa using h10
       go_wp2
       refine bY (by kernel_rfl) (by kernel_rfl) ?_
       repeat(go_big_quiet_step (first|exact jM (rC.out _)))
       refine wpQuiet_nil ?_
       rintro _ ⟨pz,rfl⟩
       have Yu:=pz.h
       clear g3 g4 g5 gE gH gS
       generalize pz.to=w7 at*
       go_wp2
       go_ret3
       exact⟨by rw[HL.out,ax h9',ax h10];rfl,HB.out.trans (Yu.mono HB.out.size)⟩
 · have hge:(A.length:Int)<=dp:=by omega
   have HL:Hid (L=((bl:Int)-1,Lw.bx c.f 0,c.f.g)):=by
     show _=_
     rw[Yq.out.2 hlt,HT.out.2.2.1]
   have HX0:=ae (fun(p:bP w1)=>bB.out p 0 (by omega) (by omega))
   have g5:∀p:bP w1,p.to.cell? ⟨c.B,5,none⟩=some (.slice c.ba bl c.bc):=fun p=>(p.h.cell (p:=⟨c.B,5,none⟩) Oe).trans d5
   have g6:∀p:bP w1,p.to.cell? ⟨c.B,6,none⟩=some (.int .i64 c.f.g):=fun p=>(p.h.cell (p:=⟨c.B,6,none⟩) Oe).trans d6
   obtain⟨bz,hbz⟩:∃bz,Lw.bx c.f 0=bz:=⟨_,rfl⟩
   rw[hbz]at HL HX0
   clear harm Tq hS1 hE1 hH1 hJ hal hbz d2 d3 d4 d5 d6
   go_wp2
   refine bY (by kernel_rfl) (by kernel_rfl) ?_
   repeat(go_big_quiet_step (first|exact jM (HX0.out _)))
   refine wpQuiet_nil ?_
   rintro _ ⟨pz,rfl⟩
   have Yu:=pz.h
   generalize pz.to=w7 at*
   go_wp2
   go_ret3
   exact⟨by rw[HL.out];rfl,HB.out.trans (Yu.mono HB.out.size)⟩
end Go.Proofs.YthkjdjmjdlimnaaGreat
