/-
  Own texts for a law: LikeI Arr0 Mem1 Lin3 Hs0 LinP Fl0 Fl1 Fl2 LvX Sp0 Hm0
-/
import Derived.Test.YtpipjiinmhopmaaGreatMA02
import Derived.Deep.WholeRow
import Derived.Stop.BytesEq
import Derived.Laws.CopyOwn
import Derived.Laws.ResultCell
import Derived.Lib.SlicesCompact
namespace Go.Proofs.YtpipjiinmhopmaaGreat
open Go.RowKit Go.Shelf
set_option linter.all false
set_option maxRecDepth 100000
set_option maxHeartbeats 16000000
theorem nM (a b:Option Addr)(len cap cap':Nat)(xs:List Int)(w:World)(hs:IL w a len xs)(hs':IL w b len xs):Calls Tryz.prog 11 #[.slice a len cap, .slice b len cap'] w fun e w'=>e= .returned (.bool true)/\Below w.heap.size w w':=by obtain⟨hl,hm,hrow⟩:=hs;obtain⟨-,-,hrow'⟩:=hs';clear hl;unfold maxLen at hm;go_enter Tryz.func11,Tryz.ntmps11;go_wp2;go_loopw [5] (fun i wr=>∃k:Nat,i= .int .i64 k/\k<=len/\Below w.heap.size w wr) (fun i _=>len-(intOf i).toNat);(case atStart=>exact⟨0,rfl,Nat.zero_le _,Below.refl _ _⟩);case round=>obtain⟨k,rfl,hk,hB⟩:=hrel;by_cases hlt:k<len;{rcases hrow with h0|⟨b1,lh,rfl,hb1,hx1⟩;{omega};rcases hrow' with h0|⟨b2,fQ,rfl,hb2,hx2⟩;{omega};obtain⟨p,hpq⟩:∃x,xs.getD k 0=x:=⟨_,rfl⟩;have hx3:=hx1 k hlt;have hx4:=hx2 k hlt;rw[hpq]at hx3 hx4;have hc1:∀wx:bW wr,wx.to.cell? ⟨b1,lh+k,none⟩=some (.int .i64 p):=fun wx=>((hB.trans (wx.h.mono hB.size)).cell (p:=⟨b1,lh+k,none⟩) hb1).trans hx3;have hc3:∀wx:bW wr,wx.to.cell? ⟨b2,fQ+k,none⟩=some (.int .i64 p):=fun wx=>((hB.trans (wx.h.mono hB.size)).cell (p:=⟨b2,fQ+k,none⟩) hb2).trans hx4;have hne:=bW.any wr;clear hx1 hx2 hx3 hx4 hpq;go_wp2;refine aS (by kernel_rfl) (by kernel_rfl) ?_;(repeat(go_big_quiet_step (fail)));refine wpQuiet_nil ?_;rintro _ ⟨pw,rfl⟩;have bA:=hB.trans (pw.h.mono hB.size);generalize pw.to=w7 at*;go_wp2;go_roundw;(case rel=>exact⟨k+1,by simp,by omega,bA⟩);case measure=>simp[intOf];omega};clear hrow hrow';go_wp2;go_ret;exact⟨rfl,hB⟩
theorem IL.aW {w:World}{a:Option Addr}{n:Nat}{E:List Int}(h:IL w a n E)(hn:0<n):∃b off,a=some ⟨b,off,none⟩/\∀(wx:World),Below w.heap.size w wx->∀j,j<n->wx.cell? ⟨b,off+j,none⟩=some (.int .i64 (aG.aW E j)):=by obtain⟨hl,-,h0|⟨b,off,rfl,hb,hx⟩⟩:=h;{omega};refine⟨b,off,rfl,fun wx hB j hj=>?_⟩;have e:aG.aW E j=E.getD j 0:=by{unfold aG.aW;rw[ah,ah,ai (by omega)];rfl};rw[e];exact(hB.cell (p:=⟨b,off+j,none⟩) hb).trans (hx j hj)
theorem bC (W:World)(n:Nat):Below W.heap.size W (W.drewN n):=⟨rfl,rfl,rfl,Nat.le_refl _,fun _ _=>rfl⟩
structure Still (p:Prop):Prop where
 out:p
def gP (W:World)(g:Nat)(t:TypeId)(vs:List Value):Prop:=W.heap[g]?=some (.cells vs.toArray t (0,0))
theorem gP.lt {W:World}{g:Nat}{t:TypeId}{vs:List Value}(h:gP W g t vs):g<W.heap.size:=(Array.getElem?_eq_some_iff.1 h).1
theorem gP.cell {W:World}{g:Nat}{t:TypeId}{vs:List Value}(h:gP W g t vs){j:Nat}{v:Value}(hj:vs[j]?=some v):W.cell? ⟨g,j,none⟩=some v:=by rw[cell_of_row W g j _ t _ h];simpa using hj
theorem gP.frozen {W:World}{g:Nat}{t:TypeId}{vs:List Value}(h:gP W g t vs)(j:Nat):W.frozen? ⟨g,j,none⟩=false:=frozen_of_row W g j _ t h
theorem gP.kept {W W':World}{g:Nat}{t:TypeId}{vs:List Value}(h:gP W g t vs)(hB:Below W.heap.size W W'):gP W' g t vs:=(hB.block g h.lt).trans h
theorem gP.bT {W W':World}{g:Nat}{t:TypeId}{vs:List Value}{row:Option Nat}(h:gP W g t vs)(hg:W.grownBy W' row)(hne:some g≠row):gP W' g t vs:=(hg.block g h.lt hne).trans h
theorem gP.set {W:World}{g:Nat}{t:TypeId}{vs:List Value}(h:gP W g t vs)(j:Nat)(v:Value):gP (W.setCell ⟨g,j,none⟩ v) g t (vs.set j v):=by have:=heap_setCell_same W g j vs.toArray t v h;unfold gP;rw[this];simp
theorem gP.row {W:World}{g:Nat}{t:TypeId}{vs:List Value}(h:gP W g t vs)(ws:List Value):gP (W.setRow g ws.toArray) g t ws:=setRow_heap W g _ _ t _ h
theorem aC {w w1 w2:World}{r:Nat}(h:Below w.heap.size w w1)(hg:w1.grownBy w2 (some r))(hr:w.heap.size<=r):Below w.heap.size w w2:=
 ⟨hg.os.trans h.os,hg.tape.trans h.tape,hg.output.trans h.output,Nat.le_trans h.size hg.size,fun k hk=>(hg.block k (aj hk h.size) (by simp only[ne_eq,af];omega)).trans (h.block k hk)⟩
section
variable {P : Program}
theorem qR {ops:Array Oper}{rest:List Oper}{o:Oper}{a:Act}{w:World}{Q:Exit->Act->World->Prop}(hgd:o.guard=none)(t:TypeId)(x:Operand)(ho:o.op= .box t x)(zs:List Value)(hx:a.eval x= .agg zs.toArray)(h:∀g w',Hid (g=w.heap.size)->gP w' g t zs->Below w.heap.size w w'->wpList P ops Q rest (a.put o.dst (.pointer (some ⟨g,0,none⟩))) w'):wpList P ops Q (o::rest) a w:=by refine wpList_plain hgd fun K hK=>?_;unfold Oper.wp execOp;simp only[ho,hx,Instr.box,Sem.run_bind];simp[newVar,Value.cells];exact hK _ _ (h w.heap.size (w.alloc (.cells zs.toArray t)) rfl (heap_alloc_last w _) (Below.alloc (Below.refl _ _) (Nat.le_refl _) _))
theorem nJ {ops:Array Oper}{rest:List Oper}{o:Oper}{a:Act}{w:World}{Q:Exit->Act->World->Prop}(hgd:o.guard=none)(ty:TypeId)(x y:Operand)(ho:o.op= .index ty x y)(vs:List Value)(k:Nat)(hx:a.eval x= .agg vs.toArray)(hy:a.eval y= .int .i64 k)(n:Nat)(e:TypeId)(hu:P.underlying ty=some (.array n e))(hk:k<n)(hs:∀w,(sizeOf e).run P w= .ok 1 w)(ha:∀w,(isAgg e).run P w= .ok false w)(v:Value)(hv:vs[k]?=some v)(h:wpList P ops Q rest (a.put o.dst v) w):wpList P ops Q (o::rest) a w:=by refine wpList_plain hgd fun K hK=>?_;have hrun:(Instr.index ty (.agg vs.toArray) (.int .i64 k)).run P w= .ok v w:=by{simp[Instr.index,asIntOf,Sem.run_bind,run_underlying hu,hs,part,ha,hv];omega};unfold Oper.wp execOp;simp only[ho,hx,hy,Sem.run_bind,hrun,Result.andThen_ok];exact hK _ _ h
theorem Bz {ops:Array Oper}{rest:List Oper}{o:Oper}{a:Act}{w:World}{Q:Exit->Act->World->Prop}(t:TypeId)(x:Operand)(ho:o.op= .box t x)(h:Still (wpList P ops Q (o::rest) a w)):wpList P ops Q (o::rest) a w:=h.out
theorem qH {ops:Array Oper}{rest:List Oper}{o:Oper}{a:Act}{w:World}{Q:Exit->Act->World->Prop}(t:TypeId)(x:Operand)(ho:o.op= .load t x)(h:Still (wpList P ops Q (o::rest) a w)):wpList P ops Q (o::rest) a w:=h.out
theorem kK {ops:Array Oper}{rest:List Oper}{o:Oper}{a:Act}{w:World}{Q:Exit->Act->World->Prop}(t:TypeId)(x y:Operand)(ho:o.op= .index t x y)(h:Still (wpList P ops Q (o::rest) a w)):wpList P ops Q (o::rest) a w:=h.out
theorem uW {ops:Array Oper}{rest:List Oper}{o:Oper}{a:Act}{w:World}{Q:Exit->Act->World->Prop}(t:TypeId)(ps:Array (Nat×Operand))(ho:o.op= .build t ps)(h:Still (wpList P ops Q (o::rest) a w)):wpList P ops Q (o::rest) a w:=h.out
variable {C : World → Prop}
end
theorem I7 {bs:List Int}:∀v∈bs.map iv,v.oneCell'=true:=by intro v hv;obtain⟨b,_,rfl⟩:=List.mem_map.1 hv;rfl
theorem oV {f:Int->Value}{bs:List Int}{k:Nat}(h:k<bs.length):(bs.map f)[k]?=some (f (bs.getD k 0)):=by rw[List.getElem?_map,ai h,ah,ai h];rfl
theorem IP {n:Nat}{ys:List Int}{f:Nat->Int}{k:Nat}{p:Int}(h:ys.length=n/\∀j,j<k->ys.getD j 0=f j)(hk:k<n)(hp:f k=p):(ys.set k p).length=n/\∀j,j<k+1->(ys.set k p).getD j 0=f j:=by refine⟨by rw[List.length_set];exact h.1,fun j hj=>?_⟩;by_cases e:j=k;{subst e;rw[ah,List.getElem?_set_self (by omega),hp];rfl};rw[←h.2 j (by omega),ah,List.getElem?_set_ne (by omega),←ah]
theorem Jd {n:Nat}{ys bs:List Int}(h:ys.length=n/\∀j,j<n->ys.getD j 0=bs.getD j 0)(hb:bs.length=n):ys=bs:=by apply List.ext_getElem;{rw[h.1,hb]};intro j h1 h2;have:=h.2 j (by omega);simpa[ah,ai h1,ai h2]using this
def OG (W:World)(n₀ g n c:Nat)(xs:List Int):Prop:=xs.length=n/\W.ownsRow n₀ 2 1 (.slice (some ⟨g,0,none⟩) n c) n (xs.map iv)
theorem OG.oi {W:World}{n₀ g n c:Nat}{xs:List Int}(h:OG W n₀ g n c xs):OI W n₀ (.slice (some ⟨g,0,none⟩) n c) xs:=by unfold OI;rw[h.1];exact h.2
theorem OG.lt {W:World}{n₀ g n c:Nat}{xs:List Int}(h:OG W n₀ g n c xs):n₀<=g/\g<W.heap.size:=World.ownsRow.lt h.2 g rfl
theorem OG.cap {W:World}{n₀ g n c:Nat}{xs:List Int}(h:OG W n₀ g n c xs):n<=c/\c<=maxLen:=by rcases h.2.2 with⟨e,-⟩|⟨g',cap,cur,e,hb,hc,hn,hm,-⟩;{cases e};cases e;exact⟨hn,hm⟩
theorem OG.cell {W:World}{n₀ g n c:Nat}{xs:List Int}(h:OG W n₀ g n c xs){j:Nat}(hj:j<n):W.cell? ⟨g,j,none⟩=some (.int .i64 (xs.getD j 0)):=by have hi:=(OI.il h.oi).2;obtain⟨-,-,h0|⟨b,o,e,hb,hx⟩⟩:=hi;{omega};simp only[af,Addr.mk.injEq,and_true]at e;obtain⟨rfl,rfl⟩:=e;have:=hx j hj;rwa [Nat.zero_add]at this
theorem OG.kept {W W':World}{n₀ g n c:Nat}{xs:List Int}(h:OG W n₀ g n c xs)(hB:Below W.heap.size W W'):OG W' n₀ g n c xs:=⟨h.1,aI h.2 hB⟩
theorem OG.bT {W W':World}{n₀ g n c b:Nat}{xs:List Int}(h:OG W n₀ g n c xs)(hg:W.grownBy W' (some b))(hne:g≠b):OG W' n₀ g n c xs:=by refine⟨h.1,World.ownsRow.kept h.2 hg (.inr ?_)⟩;simp only[Value.ownBlock,ne_eq,af];omega
theorem OG.mono {W:World}{n₀ n₁ g n c:Nat}{xs:List Int}(h:OG W n₁ g n c xs)(hn:n₀<=n₁):OG W n₀ g n c xs:=by have:=OI.mono h.oi hn;unfold OI at this;rw[h.1]at this;exact⟨h.1,this⟩
theorem OG.empty (W:World)(n₀:Nat)(hn:n₀<=W.heap.size):OG (W.alloc (.cells #[] 2)) n₀ W.heap.size 0 0 []:=⟨rfl,by simpa[OI]using OI.mono (OI.empty W) hn⟩
theorem OG.one (W:World)(n₀:Nat)(hn:n₀<=W.heap.size)(y:Int):OG (W.alloc (.cells #[.int .i64 y] 2)) n₀ W.heap.size 1 1 [y]:=
 ⟨rfl,rfl, .inr ⟨W.heap.size,1,#[.int .i64 y],rfl,hn,World.alloc_heap_new W _,Nat.le_refl _,by simp[maxLen],rfl,rfl⟩⟩
theorem dB {ops:Array Oper}{rest:List Oper}{o:Oper}{a:Act}{Q:Exit->Act->World->Prop}(W:World)(hgd:o.guard=none)(s x:Operand)(ho:o.op= .call {callee:= .builtin .append,args:=#[s,x],argTypes:=#[26,26]})(n₀ g n c:Nat)(xs:List Int)(hs:a.eval s= .slice (some ⟨g,0,none⟩) n c)(hown:OG W n₀ g n c xs)(sb so m sc:Nat)(ys:List Int)(hx:a.eval x= .slice (some ⟨sb,so,none⟩) m sc)(hym:ys.length=m)(hy:∀j,j<m->W.cell? ⟨sb,so+j,none⟩=some (.int .i64 (ys.getD j 0)))(hsz:n+m<=1048576)(hbase:n₀<=W.heap.size)(h:∀g' c' N W',Hid (N=n+m)->OG W' n₀ g' N c' (xs++ys)->W.grownBy W' (some g)->wpList Tryz.prog ops Q rest (a.put o.dst (.slice (some ⟨g',0,none⟩) N c')) W'):wpList Tryz.prog ops Q (o::rest) a W:=by obtain⟨i0,hi,hz0,hz1,hz2⟩:=info_parts cz;refine wpList_append_own W hgd s x 26 ho n₀ 2 i0 (.int .i64 0) 1 8 Tryz.underlying26 hi hz0 hz1 hz2 rfl (by decide) _ n (xs.map iv) hs hown.2 ⟨sb,so,none⟩ m sc (ys.map iv) hx (by rw[List.length_map,hym,Nat.mul_one]) (fun j u hu=>?_) I7 (by simp only[maxLen];omega) (by omega) hbase (fun v' W' hown' hgrow hnn=>?_);{have hj:j<m:=by{have:=(List.getElem?_eq_some_iff.1 hu).1;rwa [List.length_map,hym]at this};rw[oV (by rw[hym];exact hj)]at hu;cases hu;(have hadd:(⟨sb,so,none⟩:Addr).add j=⟨sb,so+j,none⟩:=by unfold Addr.add;split<;>simp_all);rw[hadd];exact hy j hj};rcases hown'.2 with⟨rfl,h0⟩|⟨g',cap',cur,rfl,r⟩;{exact absurd (hnn.1 rfl).1 (fun e=>by cases e)};refine h g' cap' (n+m) W' rfl ⟨by rw[List.length_append,hown.1,hym],?_⟩ hgrow;rw[List.map_append];exact hown'
theorem nW (n₀ g m c:Nat)(xs:List Int)(n:Int)(hm:m<=1000)(w:World)(hn:n₀<=w.heap.size)(ho:OG w n₀ g m c xs):Calls Tryz.prog 121 #[.slice (some ⟨g,0,none⟩) m c, .int .i64 n] w fun e w'=>∃g' m' c',e= .returned (.slice (some ⟨g',0,none⟩) m' c')/\OG w' n₀ g' m' c' (Ln.put xs n)/\Below w.heap.size w w':=by
 have hcap:=ho.cap
 have GH:=ho.lt
 have HX:=ae ho.1
 have HC:Hid (∀j,j<m->w.cell? ⟨g,j,none⟩=some (.int .i64 (xs.getD j 0))):=fun j hj=>ho.cell hj
 have HO:=ae ho
 clear ho
 go_enter Tryz.func121,Tryz.ntmps121
 go_wp2
 go_loopw [5] (fun i wr=>∃k:Nat,i= .int .i64 k/\k<=m/\Hid (∀j,j<k->xs.getD j 0<n)/\w=wr) (fun i _=>m-(intOf i).toNat)
 case atStart=>exact⟨0,rfl,Nat.zero_le _,(fun j hj=>by omega),rfl⟩
 case round=>
  obtain⟨k,rfl,hk,HL,bq⟩:=hrel
  subst bq
  have fin:Hid (∀(hge:k<m->n<=xs.getD k 0),Ln.put xs n=if k<m/\xs.getD k 0=n then xs else xs.take k++(n::xs.drop k)):=fun hge=>by have:=Ln.Ib n xs k (by rw[HX.out];exact hk) HL.out (fun h=>hge (by rw[HX.out]at h;exact h));rw[HX.out]at this;exact this
  have MB:(k:Int)<=(m:Int):=by omega
  have hkc:(k:Int)<=(c:Int):=by omega
  have ah9:(m:Int)<=(c:Int):=by omega
  have hqq:(k<m/\xs.getD k 0<n)\/(k<m/\xs.getD k 0=n)\/(k<m->n<=xs.getD k 0)/\¬(k<m/\xs.getD k 0=n):=by by_cases h1:k<m;{by_cases h2:xs.getD k 0<n;{exact .inl ⟨h1,h2⟩};by_cases h3:xs.getD k 0=n;{exact .inr (.inl ⟨h1,h3⟩)};exact .inr (.inr ⟨fun _=>by omega,fun h=>h3 h.2⟩)};exact .inr (.inr ⟨fun h=>absurd h h1,fun h=>h1 h.1⟩)
  rcases hqq with⟨hlt,hy⟩|⟨hlt,hy⟩|⟨hge,hno⟩
  · have bN:(k:Int)<(m:Int):=by{omega};have HL2:Hid (∀j,j<k+1->xs.getD j 0<n):=fun j hj=>by{by_cases e:j<k;{exact HL.out j e};obtain rfl:j=k:=by{omega};exact hy};have hc:=HC.out k hlt;obtain⟨y,JN⟩:∃y,xs.getD k 0=y:=⟨_,rfl⟩;rw[JN]at hc hy;clear JN;go_wp2;go_roundw;(case rel=>exact⟨k+1,by simp,hlt,HL2,by simp⟩);case measure=>simp[intOf];omega
  · have bN:(k:Int)<(m:Int):=by{omega};have hc:=HC.out k hlt;have HP:Hid (Ln.put xs n=xs):=by{show _=_;rw[fin.out (fun _=>by omega),ay ⟨hlt,hy⟩]};rw[hy]at hc;clear hy fin HL;have hnn:¬(n<n):=by{omega};have hqn:(n==n)=true:=by{simp};go_wp2;go_ret;exact⟨g,m,c,rfl,by rw[HP.out];exact HO.out,Below.refl _ _⟩
  · have HP:Hid (Ln.put xs n=xs.take k++(n::xs.drop k)):=by show _=_;rw[fin.out hge,ax hno]
    clear fin HL
    have hB1:=aA w (.cells #[] 2)
    have zP:=ae (OG.empty w w.heap.size (Nat.le_refl _))
    have HB1:=ae hB1
    have hc1:Hid (∀j,j<m-k->(w.alloc (.cells #[] 2)).cell? ⟨g,k+j,none⟩=some (.int .i64 ((xs.drop k).getD j 0))):=fun j hj=>by rw[(hB1.cell (p:=⟨g,k+j,none⟩) GH.2).trans (HC.out (k+j) (by omega)),ah,ah,List.getElem?_drop]
    have hct:Hid (∀j,j<k->xs.getD j 0=(xs.take k).getD j 0):=fun j hj=>by rw[ah,ah,List.getElem?_take_of_lt hj]
    have HD:Hid ((xs.drop k).length=m-k/\(xs.take k).length=k):=⟨by rw[List.length_drop,HX.out],by rw[List.length_take,HX.out];omega⟩
    clear hB1
    have Ud:(¬(k:Int)<(m:Int)/\c<=k)\/(¬(k:Int)<(m:Int)/\¬(k=c))\/((k:Int)<(m:Int)/\∃y,w.cell? ⟨g,k,none⟩=some (.int .i64 y)/\¬(y<n)/\(y==n)=false):=by by_cases hlt:k<m;{refine .inr (.inr ⟨by omega,xs.getD k 0,HC.out k hlt,?_,?_⟩);{have:=hge hlt;omega};have:¬(xs.getD k 0=n):=fun e=>hno ⟨hlt,e⟩;simpa using this};by_cases hkc:c<=k;{exact .inl ⟨by omega,hkc⟩};exact .inr (.inl ⟨by omega,by omega⟩)
    clear hge hno
    rcases Ud with⟨hlt,hck⟩|⟨hlt,hne⟩|⟨hlt,y,hc,hyn,hyq⟩
    all_goals
     go_wp2_with(first
       |(at_builtin;refine dB _ rfl _ _ rfl w.heap.size _ _ _ [] rfl zP.out g k (m-k) (c-k) (xs.drop k) rfl HD.out.1 hc1.out (by omega) (by simp) ?_;intro g1 c1 N1 w1 hN1 ho1 iD;have hB2:=aC HB1.out iD (Nat.le_refl _);have hal:=aA w1 (.cells #[] 2);have HB3:=ae (hB2.trans (hal.mono hB2.size));have HE2:=ae (OG.empty w1 w1.heap.size (Nat.le_refl _));have HR1:=ae (ho1.kept hal);have hsz1:=hB2.size;have hg1:=ho1.lt;have hc2:Hid (∀j,j<k->(w1.alloc (.cells #[] 2)).cell? ⟨g,0+j,none⟩=some (.int .i64 ((xs.take k).getD j 0))):=(fun j hj=>by rw[Nat.zero_add,(HB3.out.cell (p:=⟨g,j,none⟩) GH.2).trans (HC.out j (by omega)),hct.out j hj]);clear hB2 hal ho1 iD)
       |(at_builtin;refine dB _ rfl _ _ rfl w.heap.size _ _ _ [] rfl zP.out g _ _ _ _ rfl HD.out.1 (fun j hj=>absurd hj (by omega)) (by omega) (by simp) ?_;intro g1 c1 N1 w1 hN1 ho1 iD;have hB2:=aC HB1.out iD (Nat.le_refl _);have hal:=aA w1 (.cells #[] 2);have HB3:=ae (hB2.trans (hal.mono hB2.size));have HE2:=ae (OG.empty w1 w1.heap.size (Nat.le_refl _));have HR1:=ae (ho1.kept hal);have hsz1:=hB2.size;have hg1:=ho1.lt;have hc2:Hid (∀j,j<k->(w1.alloc (.cells #[] 2)).cell? ⟨g,0+j,none⟩=some (.int .i64 ((xs.take k).getD j 0))):=(fun j hj=>by rw[Nat.zero_add,(HB3.out.cell (p:=⟨g,j,none⟩) GH.2).trans (HC.out j (by omega)),hct.out j hj]);clear hB2 hal ho1 iD)
       |(at_builtin;refine dB _ rfl _ _ rfl w1.heap.size _ _ _ [] rfl HE2.out g 0 _ _ (xs.take _) rfl HD.out.2 hc2.out (by omega) (by simp) ?_;intro g2 c2 N2 w2 KD ho2 GI;have hB4:=aC HB3.out GI hsz1;have hal:=aA w2 (.cells #[.int .i64 n] 2);have DK:=ae (hB4.trans (hal.mono hB4.size));have HR2:=ae ((HR1.out.bT GI (by omega)).kept hal);have iZ:=ae (ho2.kept hal);have hg2:=ho2.lt;have hc3:Hid (∀j,j<1->(w2.alloc (.cells #[.int .i64 n] 2)).cell? ⟨w2.heap.size,0+j,none⟩=some (.int .i64 (([n]:List Int).getD j 0))):=(fun j hj=>by obtain rfl:j=0:=(by omega);exact(OG.one w2 w2.heap.size (Nat.le_refl _) n).cell (j:=0) (by omega));clear hB4 hal ho2 GI HB3 HE2 HR1 hc2)
       |(at_builtin;refine dB _ rfl _ _ rfl w1.heap.size _ _ _ _ rfl iZ.out w2.heap.size 0 1 1 [n] rfl rfl hc3.out (by have:=KD.out;omega) (by simp;omega) ?_;intro g3 c3 N3 w3 GJ ho3 wI;have Co:=ae (aC DK.out wI (by omega));have HR3:=ae (HR2.out.bT wI (by omega));have rZ:=ae ho3;have MC:=wI.size;have hg3:=ho3.lt;have hc4:Hid (∀j,j<N1->w3.cell? ⟨g1,0+j,none⟩=some (.int .i64 (([]++xs.drop k).getD j 0))):=(fun j hj=>by rw[Nat.zero_add];exact HR3.out.cell hj);clear ho3 wI HR2 iZ hc3)
       |(at_builtin;refine dB _ rfl _ _ rfl w1.heap.size _ _ _ _ rfl rZ.out g1 0 N1 c1 ([]++xs.drop k) rfl HR3.out.1 hc4.out (by have:=KD.out;have:=GJ.out;have:=hN1.out;omega) (by simp at MC;omega) ?_;intro g4 c4 N4 w4 Ob nN gY;have ME:=ae (aC Co.out gY (by omega));have ky:=ae nN;clear nN gY Co HR3 rZ hc4))
     go_ret
     exact⟨g4,N4,c4,rfl,by rw[HP.out];simpa using ky.out.mono (by omega),ME.out⟩
theorem CG:(Tryz.prog.info? 3).map (fun i=>(i.zero,i.size,i.bytes))=some (some (.int .i64 0),1,8):=by kernel_rfl
def jc (W:World)(n₀ g n c:Nat)(xs:List Int):Prop:=xs.length=n/\W.ownsRow n₀ 3 1 (.slice (some ⟨g,0,none⟩) n c) n (xs.map iv)
theorem jc.lt {W:World}{n₀ g n c:Nat}{xs:List Int}(h:jc W n₀ g n c xs):n₀<=g/\g<W.heap.size:=World.ownsRow.lt h.2 g rfl
theorem jc.cap {W:World}{n₀ g n c:Nat}{xs:List Int}(h:jc W n₀ g n c xs):n<=c/\c<=maxLen:=by rcases h.2.2 with⟨e,-⟩|⟨g',cap,cur,e,hb,hc,hn,hm,-⟩;{cases e};cases e;exact⟨hn,hm⟩
theorem jc.cell {W:World}{n₀ g n c:Nat}{xs:List Int}(h:jc W n₀ g n c xs){j:Nat}(hj:j<n):W.cell? ⟨g,j,none⟩=some (.int .i64 (xs.getD j 0)):=by have hc:=World.ownsRow.cells h.2 (g:=g) rfl;(have hadd:(⟨g,0,none⟩:Addr).add j=⟨g,j,none⟩:=by unfold Addr.add;split<;>simp_all);rw[←hadd];refine hc j _ ?_;rw[oV (by rw[h.1];exact hj)];rfl
theorem jc.frozen {W:World}{n₀ g n c:Nat}{xs:List Int}(h:jc W n₀ g n c xs)(j:Nat):W.frozen? ⟨g,j,none⟩=false:=World.ownsRow.frozenAt h.2 j
theorem jc.kept {W W':World}{n₀ g n c:Nat}{xs:List Int}(h:jc W n₀ g n c xs)(hB:Below W.heap.size W W'):jc W' n₀ g n c xs:=⟨h.1,aI h.2 hB⟩
theorem jc.bT {W W':World}{n₀ g n c b:Nat}{xs:List Int}(h:jc W n₀ g n c xs)(hg:W.grownBy W' (some b))(hne:g≠b):jc W' n₀ g n c xs:=by refine⟨h.1,World.ownsRow.kept h.2 hg (.inr ?_)⟩;simp only[Value.ownBlock,ne_eq,af];omega
theorem jc.mono {W:World}{n₀ n₁ g n c:Nat}{xs:List Int}(h:jc W n₁ g n c xs)(hn:n₀<=n₁):jc W n₀ g n c xs:=by refine⟨h.1,h.2.1,?_⟩;rcases h.2.2 with⟨e,-⟩|⟨g',cap,cur,e,hb,r⟩;{cases e};exact .inr ⟨g',cap,cur,e,by omega,r⟩
theorem jc.empty (W:World)(n₀:Nat)(hn:n₀<=W.heap.size):jc (W.alloc (.cells #[] 3)) n₀ W.heap.size 0 0 []:=
 ⟨rfl,rfl, .inr ⟨W.heap.size,0,#[],rfl,hn,World.alloc_heap_new W _,Nat.le_refl _,by simp[maxLen],rfl,rfl⟩⟩
theorem jc.one (W:World)(n₀:Nat)(hn:n₀<=W.heap.size)(y:Int):jc (W.alloc (.cells #[.int .i64 y] 3)) n₀ W.heap.size 1 1 [y]:=
 ⟨rfl,rfl, .inr ⟨W.heap.size,1,#[.int .i64 y],rfl,hn,World.alloc_heap_new W _,Nat.le_refl _,by simp[maxLen],rfl,rfl⟩⟩
theorem jc.aao (W:World)(n₀:Nat)(hn:n₀<=W.heap.size)(a b x y z:Int):jc (W.alloc (.cells #[.int .i64 a, .int .i64 b, .int .i64 x, .int .i64 y, .int .i64 z] 3)) n₀ W.heap.size 5 5 [a,b,x,y,z]:=
 ⟨rfl,rfl, .inr ⟨W.heap.size,5,#[.int .i64 a, .int .i64 b, .int .i64 x, .int .i64 y, .int .i64 z],rfl,hn,World.alloc_heap_new W _,Nat.le_refl _,by simp[maxLen],rfl,rfl⟩⟩
theorem jc.set {W:World}{n₀ g n c:Nat}{xs:List Int}(h:jc W n₀ g n c xs)(j:Nat)(x:Int):jc (W.setCell ⟨g,j,none⟩ (.int .i64 x)) n₀ g n c (xs.set j x):=by have hst:=(World.ownsRow.stored h.2 j (.int .i64 x)).1;refine⟨by rw[List.length_set];exact h.1,?_⟩;have e:(xs.set j x).map iv=(xs.map iv).set j (.int .i64 x):=by{rw[List.map_set];rfl};rw[e];exact hst
theorem eB {ops:Array Oper}{rest:List Oper}{o:Oper}{a:Act}{Q:Exit->Act->World->Prop}(W:World)(hgd:o.guard=none)(s x:Operand)(ho:o.op= .call {callee:= .builtin .append,args:=#[s,x],argTypes:=#[143,143]})(n₀ g n c:Nat)(xs:List Int)(hs:a.eval s= .slice (some ⟨g,0,none⟩) n c)(hown:jc W n₀ g n c xs)(sb so m sc:Nat)(ys:List Int)(hx:a.eval x= .slice (some ⟨sb,so,none⟩) m sc)(hym:ys.length=m)(hy:∀j,j<m->W.cell? ⟨sb,so+j,none⟩=some (.int .i64 (ys.getD j 0)))(hsz:n+m<=1048576)(hbase:n₀<=W.heap.size)(h:∀g' c' N W',Hid (N=n+m)->jc W' n₀ g' N c' (xs++ys)->W.grownBy W' (some g)->wpList Tryz.prog ops Q rest (a.put o.dst (.slice (some ⟨g',0,none⟩) N c')) W'):wpList Tryz.prog ops Q (o::rest) a W:=by obtain⟨i0,hi,hz0,hz1,hz2⟩:=info_parts CG;refine wpList_append_own W hgd s x 143 ho n₀ 3 i0 (.int .i64 0) 1 8 Tryz.underlying143 hi hz0 hz1 hz2 rfl (by decide) _ n (xs.map iv) hs hown.2 ⟨sb,so,none⟩ m sc (ys.map iv) hx (by rw[List.length_map,hym,Nat.mul_one]) (fun j u hu=>?_) I7 (by simp only[maxLen];omega) (by omega) hbase (fun v' W' hown' hgrow hnn=>?_);{have hj:j<m:=by{have:=(List.getElem?_eq_some_iff.1 hu).1;rwa [List.length_map,hym]at this};rw[oV (by rw[hym];exact hj)]at hu;cases hu;(have hadd:(⟨sb,so,none⟩:Addr).add j=⟨sb,so+j,none⟩:=by unfold Addr.add;split<;>simp_all);rw[hadd];exact hy j hj};rcases hown'.2 with⟨rfl,h0⟩|⟨g',cap',cur,rfl,r⟩;{exact absurd (hnn.1 rfl).1 (fun e=>by cases e)};refine h g' cap' (n+m) W' rfl ⟨by rw[List.length_append,hown.1,hym],?_⟩ hgrow;rw[List.map_append];exact hown'
section
open Go.RowKit
namespace Ln
theorem o9 {x:Ln}(h:ok x=true):x.l.length<=3:=by unfold ok at h;simp only[au,Bool.not_eq_true',Bool.and_eq_false_iff,decide_eq_false_iff_not,Decidable.not_not]at h;obtain⟨h1|h1,h2⟩:=h;{rw[h1]at h2;simp[asks]at h2;exact h2.2.1};omega
theorem zl {z n:Int}:∀{xs:List Int},z∈put xs n->z=n\/z∈xs
 |[],h=> .inl (by simpa[put]using h)
 | x ::r,h=>by
   unfold put at h
   split at h
   · rcases List.mem_cons.1 h with h|h
     · exact .inr (by simp[h])
     · rcases zl h with h|h
       · exact .inl h
       · exact .inr (by simp[h])
   · split at h
     · exact .inr h
     · rcases List.mem_cons.1 h with h|h
       · exact .inl h
       · exact .inr h
theorem I1 {z:Int}(l:List Int):∀(acc:List Int),z∈l.foldl put acc->z∈l\/z∈acc:=by
 induction l with
 |nil=>intro acc h;exact .inr h
 |cons x r ih=>
  intro acc h
  rcases ih _ h with h|h
  · exact .inl (by simp[h])
  · rcases zl h with h|h;{exact .inl (by simp[h])};exact .inr h
theorem Dx {b:Int}:bx b=true↔0<=b/\b<=39:=by unfold bx Wd.cK;simp
theorem dC {x:Ln}(h:ok x=true):1<=x.k/\x.k<=11:=by obtain⟨k,d,a,b,n,l⟩:=x;unfold ok at h;rw[au]at h;have h2:=h.2;unfold asks at h2;simp only at h2 ⊢;(repeat' split at h2);all_goals first|omega|(simp at h2)
theorem H9 {x:Ln}(h:ok x=true):∀y∈us x,0<=y/\y<=39:=by obtain⟨hk1,hk2⟩:=dC h;obtain⟨k,d,a,b,n,l⟩:=x;simp only at hk1 hk2;have hk:k=1\/k=2\/k=3\/k=4\/k=5\/k=6\/k=7\/k=8\/k=9\/k=10\/k=11:=by{omega};unfold ok at h;rw[au]at h;obtain⟨h1,h⟩:=h;intro y hy;rcases hk with rfl|rfl|rfl|rfl|rfl|rfl|rfl|rfl|rfl|rfl|rfl;(all_goals(simp[asks,q0,Dx]at h;simp[us]at hy));(case inl|inr.inr.inr.inr.inl|inr.inr.inr.inr.inr.inr.inr.inr.inr.inr=>have hl:l=[]:=by{simpa using h1};subst hl;simp[ek]at hy);(case inr.inl|inr.inr.inr.inl|inr.inr.inr.inr.inr.inl|inr.inr.inr.inr.inr.inr.inr.inl|inr.inr.inr.inr.inr.inr.inr.inr.inr.inl=>subst hy;omega);(case inr.inr.inl|inr.inr.inr.inr.inr.inr.inr.inr.inl=>rcases zl hy with h|h;{subst h;omega};rw[List.mem_singleton]at h;subst h;omega);rcases I1 l [] hy with h3|h3;{exact h.1 y h3};cases h3
theorem Ez {x:Ln}(h:ok x=true):-1<=st x/\st x<=39:=by obtain⟨hk1,hk2⟩:=dC h;obtain⟨k,d,a,b,n,l⟩:=x;simp only at hk1 hk2;have hk:k=1\/k=2\/k=3\/k=4\/k=5\/k=6\/k=7\/k=8\/k=9\/k=10\/k=11:=by{omega};unfold ok at h;rw[au]at h;obtain⟨h1,h⟩:=h;rcases hk with rfl|rfl|rfl|rfl|rfl|rfl|rfl|rfl|rfl|rfl|rfl;all_goals(simp[asks,q0,Dx]at h;simp[st]<;>omega)
theorem iq {ls:List Ln}(h:isOk ls=true){i:Nat}(hi:i<ls.length):ok (ls.getD i z)=true:=by unfold isOk at h;simp only[au,List.all_eq_true]at h;have:=h.2.1 (ls.getD i z) (by rw[ah,ai hi];exact List.getElem_mem hi);unfold gT at this;simp only[au]at this;exact this.1
theorem eH {ls:List Ln}(h:isOk ls=true):1<=ls.length/\ls.length<=300:=by unfold isOk at h;simp only[au,decide_eq_true_eq]at h;exact h.1
end Ln
namespace Ln
def cn (x:Ln):Ln:=
 if x.k=1 then⟨1,x.d,0,0,x.n,[]⟩
 else if x.k=2 then⟨2,x.d,x.a,0,0,[]⟩
 else if x.k=3 then⟨3,x.d,x.a,x.b,x.n,[]⟩
 else if x.k=4 then⟨4,x.d,x.a,0,0,[]⟩
 else if x.k=5 then⟨5,0,0,0,x.n,[]⟩
 else if x.k=6 then⟨6,0,x.a,0,x.n,[]⟩
 else if x.k=7 then⟨7,x.d,0,0,x.n,x.l⟩
 else if x.k=8 then⟨8,x.d,x.a,0,x.n,[]⟩
 else if x.k=9 then⟨9,0,x.a,x.b,x.n,[]⟩
 else if x.k=10 then⟨10,0,x.a,0,0,[]⟩
 else if x.k=11 then⟨11,0,0,0,0,[]⟩
 else z
def kW (p q:Ln):Bool:=decide (p.k=q.k)&&(decide (p.d=q.d)&&(decide (p.a=q.a)&&(decide (p.b=q.b)&&(decide (p.n=q.n)&&decide (p.l=q.l)))))
def rd (x:Ln):List Int:=
 if x.k=2\/x.k=4\/x.k=6\/x.k=8\/x.k=10 then[x.a]else if x.k=3 then[x.a,x.b]else if x.k=9 then[x.b,x.a]else if x.k=7 then x.l else[]
def Cm (x:Ln):Bool:=decide (x.k=1\/x.k=2\/x.k=3\/x.k=4\/x.k=7\/x.k=8)
def told (x:Ln):List Int:=rd x++(if Cm x=true then[x.d]else[])
def counts (x:Ln):Bool:=if x.k=1 then Wd.ok x.n else if x.k=3 then Wd.cK x.n 1 12 else if x.k=7 then Wd.cK x.n 0 3&&decide (x.l.length<=3)else if x.k=8\/x.k=9 then Wd.cK x.n 0 255 else true
def iU (x:Ln):Bool:=decide (x.k=5\/x.k=6)
def place (m:Int)(x:Ln):Bool:= !iU x||Wd.cK x.n 0 (m-1)
def behind (x:Ln):Bool:= !decide (x.k=5\/x.k=10\/x.k=11)
theorem kinds {k:Int}(h1:1<=k)(h2:k<=11):k=1\/k=2\/k=3\/k=4\/k=5\/k=6\/k=7\/k=8\/k=9\/k=10\/k=11:=by omega
def right (x:Ln):Bool:=decide (1<=x.k/\x.k<=11)&&(kW (cn x) x&&(counts x&&((told x).all bx&&place 300 x)))
theorem Bi (x:Ln):right x=ok x:=by obtain⟨k,d,a,b,n,l⟩:=x;by_cases hk:1<=k/\k<=11;{rw[Bool.eq_iff_iff];have hq:∀y:Int,((0:Int)=y)↔(y=0):=fun y=>⟨Eq.symm,Eq.symm⟩;rcases kinds hk.1 hk.2 with rfl|rfl|rfl|rfl|rfl|rfl|rfl|rfl|rfl|rfl|rfl;all_goals simp only[right,ok,asks,kW,cn,counts,told,rd,Cm,place,iU,q0];simp[hq,and_assoc,and_comm,and_left_comm]};have h1:right ⟨k,d,a,b,n,l⟩=false:=by{unfold right;rw[decide_eq_false hk];rfl};rw[h1];symm;rw[Bool.eq_false_iff];intro h;have:=dC h;simp only at this;omega
end Ln
end
section
open Go.RowKit
namespace Fl
def nx (x:Ln)(i:Nat):List Int:=
 if x.k=5 then[x.n]else if x.k=6 then Ln.put [(i:Int)+1] x.n else if x.k=10\/x.k=11 then[]else[(i:Int)+1]
def has (ls:List Ln)(p:Int):Bool:=Ln.isOk ls&&decide (0<=p/\p<(ls.length:Int))
def le (a b:Nat):Prop:=a|||b=b
theorem le_iff {a b:Nat}:le a b↔∀k,a.testBit k=true->b.testBit k=true:=by unfold le;constructor;{intro h k hk;rw[←h,Nat.testBit_or,hk];rfl};intro h;refine Nat.eq_of_testBit_eq fun k=>?_;rw[Nat.testBit_or];rcases e:a.testBit k with _|_;{rfl};rw[h k e];rfl
theorem le_refl (a:Nat):le a a:=le_iff.2 fun _ h=>h
theorem le_trans {a b c:Nat}(h:le a b)(h':le b c):le a c:=le_iff.2 fun k hk=>le_iff.1 h' k (le_iff.1 h k hk)
theorem LU {a b:Nat}(h:le a b)(h':le b a):a=b:=by unfold le at h h';rw[←h,Nat.or_comm,h']
theorem Nz {a b:Nat}(h:le a b):a<=b:=by rw[←h];exact Nat.left_le_or
def an (a b:Nat):Nat:=a ^^^ (a&&& b)
theorem pY (a b k:Nat):(an a b).testBit k=(a.testBit k&& !b.testBit k):=by unfold an;rw[Nat.testBit_xor,Nat.testBit_and];cases a.testBit k<;>cases b.testBit k<;>rfl
theorem or_mono {a b c d:Nat}(h:le a b)(h':le c d):le (a|||c) (b|||d):=le_iff.2 fun k=>by
 rw[Nat.testBit_or,Nat.testBit_or,Bool.or_eq_true,Bool.or_eq_true]
 exact fun h2=>h2.imp (le_iff.1 h k) (le_iff.1 h' k)
theorem La {a b:Nat}(c:Nat)(h:le a b):le (an a c) (an b c):=le_iff.2 fun k=>by
 rw[pY,pY,au,au]
 exact fun h2=>⟨le_iff.1 h k h2.1,h2.2⟩
def mk (l:List Int):Nat:=l.foldl (fun m b=>m|||2 ^ b.toNat) 0
theorem Jt (l:List Int):∀(m k:Nat),(l.foldl (fun m b=>m|||2 ^ b.toNat) m).testBit k=(m.testBit k||l.any fun b=>decide (b.toNat=k)):=by
 induction l with
 |nil=>intro m k;simp
 |cons y r ih=>
  intro m k
  rw[List.foldl_cons,ih,Nat.testBit_or,Nat.testBit_two_pow,List.any_cons,Bool.or_assoc]
theorem Ia (l:List Int)(k:Nat):(mk l).testBit k=l.any fun b=>decide (b.toNat=k):=by unfold mk;rw[Jt];simp
theorem Mv {l l':List Int}(h:∀y,y∈l↔y∈l'):mk l=mk l':=Nat.eq_of_testBit_eq fun k=>by
 rw[Ia,Ia,Bool.eq_iff_iff,List.any_eq_true,List.any_eq_true]
 exact⟨fun⟨y,hy,e⟩=>⟨y,(h y).1 hy,e⟩,fun⟨y,hy,e⟩=>⟨y,(h y).2 hy,e⟩⟩
theorem Me (l:List Int):∀m,m<2 ^ 40->(∀y∈l,0<=y/\y<=39)->l.foldl (fun m b=>m|||2 ^ b.toNat) m<2 ^ 40:=by
 induction l with
 |nil=>intro m hm _;exact hm
 |cons y r ih=>
  intro m hm h
  have hy:=h y (by simp)
  exact ih _ (Nat.or_lt_two_pow hm (Nat.pow_lt_pow_right (by decide) (by omega))) fun z hz=>h z (by simp[hz])
theorem Aj {l:List Int}(h:∀y∈l,0<=y/\y<=39):mk l<2 ^ 40:=Me l 0 (by decide) h
theorem LQ (l:List Int)(y:Int):mk (l++[y])=mk l|||2 ^ y.toNat:=by simp[mk]
theorem zu {l:List Int}{i:Nat}(hi:i<l.length):mk (l.take (i+1))=mk (l.take i)|||2 ^ (l.getD i 0).toNat:=by rw[List.take_add_one,ai hi,ah,ai hi];simp only[Option.toList_some,Option.getD_some];exact LQ _ _
def js (f:List Nat)(l:List Int):Nat:=l.foldl (fun m j=>m|||f.getD j.toNat 0) 0
def ou (ls:List Ln)(f:List Nat)(i:Nat):Nat:=js f (nx (ls.getD i .z) i)
def um (x:Ln):Nat:=mk (Ln.us x)
def sm (x:Ln):Nat:=if 0<=Ln.st x then 2 ^ (Ln.st x).toNat else 0
def iL (ls:List Ln)(f:List Nat)(i:Nat):Nat:=um (ls.getD i .z)|||an (ou ls f i) (sm (ls.getD i .z))
theorem jsf (f:List Nat)(l:List Int):∀(m k:Nat),(l.foldl (fun m j=>m|||f.getD j.toNat 0) m).testBit k=(m.testBit k||l.any fun j=>(f.getD j.toNat 0).testBit k):=by
 induction l with
 |nil=>intro m k;simp
 |cons y r ih=>
  intro m k
  rw[List.foldl_cons,ih,Nat.testBit_or,List.any_cons,Bool.or_assoc]
theorem Je (f:List Nat)(l:List Int)(k:Nat):(js f l).testBit k=l.any fun j=>(f.getD j.toNat 0).testBit k:=by unfold js;rw[jsf];simp
theorem EG {f:List Nat}{l:List Int}{i:Nat}(hi:i<l.length):js f (l.take (i+1))=js f (l.take i)|||f.getD (l.getD i 0).toNat 0:=by rw[List.take_add_one,ai hi,ah (l:=l),ai hi];simp only[js,Option.toList_some,Option.getD_some,List.foldl_append,List.foldl_cons,List.foldl_nil]
theorem uR {f:List Nat}(hf:∀i,f.getD i 0<2 ^ 40)(l:List Int):js f l<2 ^ 40:=by
 suffices H:∀(l:List Int) m,m<2 ^ 40->l.foldl (fun m j=>m|||f.getD j.toNat 0) m<2 ^ 40 from H l 0 (by decide)
 intro l
 induction l with
 |nil=>intro m h;exact h
 |cons y r ih=>intro m h;exact ih _ (Nat.or_lt_two_pow h (hf _))
theorem L8 {f g:List Nat}(h:∀i,le (f.getD i 0) (g.getD i 0))(l:List Int):le (js f l) (js g l):=le_iff.2 fun k=>by
 rw[Je,Je,List.any_eq_true,List.any_eq_true]
 exact fun⟨y,hy,e⟩=>⟨y,hy,le_iff.1 (h _) k e⟩
theorem lX {ls:List Ln}{f g:List Nat}(h:∀i,le (f.getD i 0) (g.getD i 0))(i:Nat):le (iL ls f i) (iL ls g i):=
 or_mono (le_refl _) (La _ (L8 h _))
theorem xS {a b:Nat}(h:a<2 ^ 40):an a b<2 ^ 40:=Nat.xor_lt_two_pow h (Nat.lt_of_le_of_lt Nat.and_le_left h)
theorem Np {x:Ln}(h:Ln.ok x=true):um x<2 ^ 40:=Aj (Ln.H9 h)
theorem Ny {x:Ln}(h:Ln.ok x=true):sm x<2 ^ 40:=by have:=Ln.Ez h;unfold sm;split;{exact Nat.pow_lt_pow_right (by decide) (by omega)};decide
structure In (ls:List Ln)(f:List Nat):Prop where
 len:f.length=ls.length
 lt:∀i,f.getD i 0<2 ^ 40
 up:∀i,i<ls.length->le (f.getD i 0) (iL ls f i)
theorem IA {ls:List Ln}{f:List Nat}(hok:Ln.isOk ls=true)(hf:∀i,f.getD i 0<2 ^ 40){i:Nat}(hi:i<ls.length):iL ls f i<2 ^ 40:=
 Nat.or_lt_two_pow (Np (Ln.iq hok hi)) (xS (uR hf _))
theorem lT (f:List Nat)(i j x:Nat):(f.set i x).getD j 0=if i=j/\i<f.length then x else f.getD j 0:=by rw[ah,ah,List.getElem?_set];by_cases h:i=j;{subst h;by_cases h2:i<f.length;{simp[h2]};simp[h2]};simp[h]
theorem EI (x:Nat):∀(f:List Nat)(i:Nat),i<f.length->(f.set i x).sum+f.getD i 0=f.sum+x
 |[],i,h=>by simp at h
 |y::r,0,h=>by simp only[List.set_cons_zero,List.sum_cons,List.getD_cons_zero];omega
 | y::r,i+1,h=>by
   have:=EI x r i (by simpa using h)
   simp only[List.set_cons_succ,List.sum_cons,List.getD_cons_succ]
   omega
theorem CR (m:Nat):∀(f:List Nat),(∀i,f.getD i 0<m)->f.sum<=f.length*m
 |[],_=>by simp
 | y::r,h=>by
   have h1:=h 0
   have h2:=CR m r fun i=>h (i+1)
   simp only[List.getD_cons_zero]at h1
   simp only[List.sum_cons,List.length_cons,Nat.succ_mul]
   omega
theorem In.set {ls:List Ln}{f:List Nat}(hok:Ln.isOk ls=true)(h:In ls f){i:Nat}(hi:i<ls.length):In ls (f.set i (iL ls f i)):=by have hle:∀j,le (f.getD j 0) ((f.set i (iL ls f i)).getD j 0):=fun j=>by{rw[lT];split;{rename_i e;rw[←e.1];exact h.up i hi};exact le_refl _};refine⟨by rw[List.length_set];exact h.len,fun j=>?_,fun j hj=>?_⟩;{rw[lT];split;{exact IA hok h.lt hi};exact h.lt j};rw[lT];split;{rename_i e;rw[←e.1];exact lX hle i};exact le_trans (h.up j hj) (lX hle j)
theorem In.sum {ls:List Ln}{f:List Nat}(h:In ls f):f.sum<=ls.length*2 ^ 40:=by have:=CR (2 ^ 40) f h.lt;rwa [h.len]at this
theorem In.more {ls:List Ln}{f:List Nat}(h:In ls f){i:Nat}(hi:i<ls.length)(hne:iL ls f i≠f.getD i 0):f.sum<(f.set i (iL ls f i)).sum:=by have h1:=EI (iL ls f i) f i (by rw[h.len];exact hi);have h2:=Nz (h.up i hi);omega
def Cj (ls:List Ln)(f:List Nat):List Nat:=(List.range ls.length).map (iL ls f)
theorem tC (ls:List Ln)(f:List Nat){i:Nat}(hi:i<ls.length):(Cj ls f).getD i 0=iL ls f i:=by unfold Cj;rw[ah,List.getElem?_map,List.getElem?_range hi];rfl
theorem EA (ls:List Ln)(f:List Nat){i:Nat}(hi:¬i<ls.length):(Cj ls f).getD i 0=0:=by unfold Cj;rw[ah,List.getElem?_eq_none (by simp;omega)];rfl
def it (ls:List Ln):Nat->List Nat
 |0=>List.replicate ls.length 0
 |k+1=>Cj ls (it ls k)
def rnd (n:Nat):Nat:=n*2 ^ 40
theorem Qd (n:Nat):rnd n=n*2 ^ 40:=rfl
def live (ls:List Ln):List Nat:=it ls (rnd ls.length)
theorem yE (ls:List Ln):live ls=it ls (rnd ls.length):=by unfold live;rfl
def Fix (ls:List Ln)(f:List Nat):Prop:=∀i,i<ls.length->iL ls f i=f.getD i 0
theorem In.zero (ls:List Ln):In ls (List.replicate ls.length 0):=by have e:∀i,(List.replicate ls.length 0).getD i 0=0:=fun i=>by{rw[ah,List.getElem?_replicate];split<;>rfl};refine⟨by simp,fun i=>by rw[e];decide,fun i _=>by rw[e];exact le_iff.2 fun k hk=>by simp at hk⟩
theorem In.out {ls:List Ln}{f:List Nat}(h:In ls f){i:Nat}(hi:¬i<ls.length):f.getD i 0=0:=by rw[ah,List.getElem?_eq_none (by rw[h.len];omega)];rfl
theorem In.Cj {ls:List Ln}{f:List Nat}(hok:Ln.isOk ls=true)(h:In ls f):In ls (Cj ls f)/\∀i,le (f.getD i 0) ((Fl.Cj ls f).getD i 0):=by have hle:∀j,le (f.getD j 0) ((Fl.Cj ls f).getD j 0):=fun j=>by{by_cases hj:j<ls.length;{rw[tC _ _ hj];exact h.up j hj};rw[h.out hj];exact le_iff.2 fun k hk=>by simp at hk};refine⟨⟨by simp[Fl.Cj],fun j=>?_,fun j hj=>?_⟩,hle⟩;{by_cases hj:j<ls.length;{rw[tC _ _ hj];exact IA hok h.lt hj};rw[EA _ _ hj];decide};rw[tC _ _ hj];exact lX hle j
theorem In.it {ls:List Ln}(hok:Ln.isOk ls=true):∀k,In ls (it ls k)
 |0=>In.zero ls
 |k+1=>((In.it hok k).Cj hok).1
theorem Ja:∀(f g:List Nat),f.length=g.length->(∀i,f.getD i 0<=g.getD i 0)->f≠g->f.sum<g.sum
 |[],[],_,_,h=>absurd rfl h
 |[],y::r,h,_,_=>by simp at h
 |y::r,[],h,_,_=>by simp at h
 | y ::r,z::s,hl,h,hne=>by
   have h0:y<=z:=h 0
   have hr:∀i,r.getD i 0<=s.getD i 0:=fun i=>h (i+1)
   have hl2:r.length=s.length:=by simpa using hl
   simp only[List.sum_cons]
   by_cases e:r=s
   · subst e
     have:y≠z:=fun e=>hne (by rw[e])
     omega
   · have:=Ja r s hl2 hr e
     omega
theorem sN (ls:List Ln)(k:Nat):it ls (k+1)=Cj ls (it ls k):=rfl
theorem EJ {ls:List Ln}(hok:Ln.isOk ls=true)(k:Nat):it ls (k+1)=it ls k\/(it ls k).sum<(it ls (k+1)).sum:=by by_cases e:it ls (k+1)=it ls k;{exact .inl e};right;have h0:=In.it hok k;have h1:=h0.Cj hok;rw[sN]at e ⊢;exact Ja _ _ (by rw[h0.len,h1.1.len]) (fun i=>Nz (h1.2 i)) (fun h=>e h.symm)
theorem Ps {ls:List Ln}(hok:Ln.isOk ls=true)(k:Nat):it ls (k+1)=it ls k\/k<(it ls (k+1)).sum:=by
 induction k with
 |zero=>
  rcases EJ hok 0 with h|h
  · exact .inl h
  · exact .inr (by omega)
 |succ k ih=>
  rcases EJ hok (k+1)with h|h
  · exact .inl h
  · rcases ih with h3|h3;{exact .inl (by rw[sN,h3,←sN,h3])};exact .inr (by omega)
theorem yw {ls:List Ln}(hok:Ln.isOk ls=true):In ls (live ls):=by rw[yE];exact In.it hok _
theorem Qf {ls:List Ln}(hok:Ln.isOk ls=true){n:Nat}(hn:n=ls.length*2 ^ 40):Cj ls (it ls n)=it ls n:=by rcases Ps hok n with h|h;{exact(sN ls n).symm.trans h};have h2:=(In.it hok (n+1)).sum;omega
theorem JE {ls:List Ln}(hok:Ln.isOk ls=true):Cj ls (live ls)=live ls:=by rw[yE];exact Qf hok (Qd _)
theorem Hz {ls:List Ln}(hok:Ln.isOk ls=true):Fix ls (live ls):=fun i hi=>by
 have:=tC ls (live ls) hi
 rw[JE hok]at this
 exact this.symm
theorem Nu {ls:List Ln}{f:List Nat}(hf:Fix ls f):∀k i,le ((it ls k).getD i 0) (f.getD i 0)
 | 0,i=>by
   have e:(it ls 0).getD i 0=0:=by
     show(List.replicate ls.length 0).getD i 0=0
     rw[ah,List.getElem?_replicate]
     split<;>rfl
   rw[e]
   exact le_iff.2 fun k hk=>by simp at hk
 | k +1,i=>by
   show le ((Cj ls (it ls k)).getD i 0) _
   by_cases hi:i<ls.length
   · rw[tC _ _ hi,←hf i hi]
     exact lX (Nu hf k) i
   · rw[EA _ _ hi]
     exact le_iff.2 fun k hk=>by simp at hk
def Sound (ls:List Ln)(f:List Nat):Prop:=∀i,le (f.getD i 0) ((live ls).getD i 0)
theorem Sound.zero (ls:List Ln):Sound ls (List.replicate ls.length 0):=fun i=>by
 have e:(List.replicate ls.length 0).getD i 0=0:=by
   rw[ah,List.getElem?_replicate]
   split<;>rfl
 rw[e]
 exact le_iff.2 fun k hk=>by simp at hk
theorem Sound.set {ls:List Ln}{f:List Nat}(hok:Ln.isOk ls=true)(h:Sound ls f){i:Nat}(hi:i<ls.length):Sound ls (f.set i (iL ls f i)):=fun j=>by
 rw[lT]
 split
 · rename_i e
   rw[←e.1,←Hz hok i hi]
   exact lX h i
 · exact h j
theorem Lm {ls:List Ln}{f:List Nat}(hf:Fix ls f)(i:Nat):le ((live ls).getD i 0) (f.getD i 0):=by rw[yE];exact Nu hf _ i
theorem TC:∀(f g:List Nat),f.length=g.length->(∀i,f.getD i 0=g.getD i 0)->f=g
 |[],[],_,_=>rfl
 |[],y::r,h,_=>by simp at h
 |y::r,[],h,_=>by simp at h
 | y::r,z::s,hl,h=>by
   have h0:y=z:=h 0
   rw[h0,TC r s (by simpa using hl) fun i=>h (i+1)]
theorem Aw {ls:List Ln}{f:List Nat}(hok:Ln.isOk ls=true)(h:In ls f)(hs:Sound ls f)(hf:Fix ls f):f=live ls:=
 TC f (live ls) (h.len.trans (yw hok).len.symm) fun i=>LU (hs i) (Lm hf i)
def zo (m:Nat):Nat->List Int
 |0=>[]
 |k+1=>if m.testBit k=true then zo m k++[(k:Int)]else zo m k
def nX (m:Nat):List Int:=zo m 40
theorem sF (m:Nat):∀k,(zo m k).length<=k
 |0=>by simp[zo]
 | k+1=>by
   have:=sF m k
   unfold zo
   split
   · simp;omega
   · omega
theorem sQ (m:Nat)(y:Int):∀k,y∈zo m k↔0<=y/\y<(k:Int)/\m.testBit y.toNat=true
 |0=>by simp[zo];omega
 | k + 1 =>by
   have ih:=sQ m y k
   unfold zo
   by_cases h:m.testBit k=true
   · rw[ay h,List.mem_append,List.mem_singleton,ih]
     constructor
     · rintro(⟨h1,h2,h3⟩|rfl)
       · exact⟨h1,by omega,h3⟩
       · exact⟨by omega,by omega,by simpa using h⟩
     · rintro⟨h1,h2,h3⟩
       by_cases e:y=(k:Int)
       · exact .inr e
       · exact .inl ⟨h1,by omega,h3⟩
   · rw[ax h,ih]
     constructor
     · rintro⟨h1,h2,h3⟩
       exact⟨h1,by omega,h3⟩
     · rintro⟨h1,h2,h3⟩
       by_cases e:y=(k:Int)
       · subst e
         exact absurd (by simpa using h3) h
       · exact⟨h1,by omega,h3⟩
end Fl
end
section
open Go.RowKit
namespace Fl
theorem jf {z n:Int}:∀{xs:List Int},z∈Ln.put xs n↔z=n\/z∈xs
 |[]=>by simp[Ln.put]
 | x ::r=>by
   unfold Ln.put
   split
   · rw[List.mem_cons,jf,List.mem_cons]
     exact⟨fun h=>by rcases h with h|h|h<;>simp[h],fun h=>by rcases h with h|h|h<;>simp[h]⟩
   · split
     · rename_i e
       rw[List.mem_cons,e]
       exact⟨fun h=> .inr h,fun h=>by rcases h with h|h<;>simp[h]⟩
     · exact List.mem_cons
theorem Hq {z:Int}(l:List Int):∀acc:List Int,z∈l.foldl Ln.put acc↔z∈l\/z∈acc:=by
 induction l with
 |nil=>intro acc;simp
 |cons x r ih=>
  intro acc
  rw[List.foldl_cons,ih,jf,List.mem_cons]
  exact⟨fun h=>by rcases h with h|h|h<;>simp[h],fun h=>by rcases h with(h|h)|h<;>simp[h]⟩
theorem gX {z:Int}(l:List Int):z∈Ln.ek l↔z∈l:=by unfold Ln.ek;rw[Hq];simp
def zy (l:List Int):Prop:=l.Pairwise (·<·)
theorem o8 {n:Int}:∀{xs:List Int},zy xs->zy (Ln.put xs n)
 |[],_=>by simp[Ln.put,zy]
 | x ::r,h=>by
   have h1:=List.pairwise_cons.1 h
   unfold Ln.put
   split
   · rename_i hx
     refine List.pairwise_cons.2 ⟨fun y hy=>?_,o8 h1.2⟩
     rcases jf.1 hy with e|e
     · omega
     · exact h1.1 y e
   · split
     · exact h
     · refine List.pairwise_cons.2 ⟨fun y hy=>?_,h⟩
       rcases List.mem_cons.1 hy with e|e
       · omega
       · have:=h1.1 y e
         omega
theorem Gi (l:List Int):∀acc,zy acc->zy (l.foldl Ln.put acc):=by
 induction l with
 |nil=>intro acc h;exact h
 |cons x r ih=>intro acc h;exact ih _ (o8 h)
theorem mV (l:List Int):zy (Ln.ek l):=Gi l [] List.Pairwise.nil
theorem oI:∀{xs ys:List Int},zy xs->zy ys->(∀z,z∈xs↔z∈ys)->xs=ys
 |[],[],_,_,_=>rfl
 |[],y::s,_,_,h=>absurd ((h y).2 (by simp)) (by simp)
 |x::r,[],_,_,h=>absurd ((h x).1 (by simp)) (by simp)
 | x ::r,y::s,hx,hy,h=>by
   have h1:=List.pairwise_cons.1 hx
   have h2:=List.pairwise_cons.1 hy
   have e:x=y:=by
     rcases List.mem_cons.1 ((h x).1 (by simp))with e|e
     · exact e
     · rcases List.mem_cons.1 ((h y).2 (by simp))with e2|e2
       · exact e2.symm
       · have a:=h2.1 x e
         have b:=h1.1 y e2
         omega
   subst e
   have e2:r=s:=oI h1.2 h2.2 fun z=>by
     constructor
     · intro hz
       rcases List.mem_cons.1 ((h z).1 (by simp[hz]))with e|e
       · have:=h1.1 z hz
         omega
       · exact e
     · intro hz
       rcases List.mem_cons.1 ((h z).2 (by simp[hz]))with e|e
       · have:=h2.1 z hz
         omega
       · exact e
   rw[e2]
theorem EB {n:Int}:∀{xs:List Int},(∀y∈xs,y<n)->Ln.put xs n=xs++[n]
 |[],_=>rfl
 | x::r,h=>by
   unfold Ln.put
   rw[ay (h x (by simp)),EB fun y hy=>h y (by simp[hy])]
   rfl
theorem O3 {n:Int}{xs:List Int}(h:zy xs)(hn:n∈xs):Ln.put xs n=xs:=
 oI (o8 h) h fun z=>by
   rw[jf]
   exact⟨fun h=>h.elim (fun e=>e▸hn) id, .inr⟩
theorem Fu {l l':List Int}(h:∀z,z∈l↔z∈l'):Ln.ek l=Ln.ek l':=
 oI (mV l) (mV l') fun z=>by rw[gX,gX];exact h z
theorem oO (l:List Int)(k:Nat):l.toArray[k]! =l.getD k 0:=by by_cases h:k<l.length;{rw[getElem!_pos l.toArray k (by simpa using h),ah,ai h];rfl};rw[getElem!_neg l.toArray k (by simpa using h),ah,List.getElem?_eq_none (by omega)];rfl
theorem uG {l:List Int}{k:Nat}(h:k<l.length):l.getD k 0∈l:=by rw[ah,ai h];exact List.getElem_mem h
theorem qi {l:List Int}{k:Nat}(hk:k<l.length):Ln.ek (l.take (k+1))=Ln.put (Ln.ek (l.take k)) (l.getD k 0):=by rw[List.take_add_one,ai hk,ah,ai hk];simp only[Option.toList_some,Option.getD_some,Ln.pV]
theorem wS (l:List Int)(hs:l.Pairwise (·<=·)):∀m,m<=l.length->Go.Lib.compactUpTo l.toArray m=Ln.ek (l.take m)
 |0,_=>by simp[Go.Lib.compactUpTo,Ln.ek]
 | m + 1,hm=>by
   have hle:∀i j,i<j->j<l.length->l.getD i 0<=l.getD j 0:=fun i j hij hj=>by
     have:=List.pairwise_iff_getElem.1 hs i j (by omega) hj hij
     rw[ah,ah,ai (show i<l.length by omega),ai hj]
     exact this
   rw[Go.Lib.compactUpTo_succ,wS l hs m (by omega),qi (by omega),oO]
   have hmem:∀y,y∈Ln.ek (l.take m)->∃i,i<m/\l.getD i 0=y:=fun y hy=>by
     rw[gX]at hy
     obtain⟨i,hi,e⟩:=List.getElem_of_mem hy
     rw[List.length_take]at hi
     refine⟨i,by omega,?_⟩
     rw[←e,List.getElem_take,ah,ai (show i<l.length by omega)]
     rfl
   by_cases hk:m=0\/l.getD m 0≠l.getD (m-1) 0
   · have e:Go.Lib.keeps l.toArray m=true:=by
       unfold Go.Lib.keeps
       rw[oO,oO]
       exact decide_eq_true hk
     rw[e,ay rfl,EB]
     intro y hy
     obtain⟨i,hi,rfl⟩:=hmem y hy
     have h1:=hle i m hi (by omega)
     rcases hk with hk|hk
     · omega
     · by_cases e2:i=m-1
       · subst e2
         omega
       · have h2:=hle i (m-1) (by omega) (by omega)
         have h3:=hle (m-1) m (by omega) (by omega)
         omega
   · have e:Go.Lib.keeps l.toArray m=false:=by
       unfold Go.Lib.keeps
       rw[oO,oO]
       exact decide_eq_false hk
     rw[e,O3 (mV _)]
     · simp
     · rw[gX]
       have h1:l.getD m 0=l.getD (m-1) 0:=Classical.byContradiction fun h=>hk (.inr h)
       have h2:m≠0:=fun h=>hk (.inl h)
       rw[h1]
       have h3:m-1<(l.take m).length:=by rw[List.length_take];omega
       have h4:=uG h3
       rwa [ah,List.getElem?_take_of_lt (by omega),←ah]at h4
theorem xO (l:List Int):Go.Lib.compact (l.mergeSort fun x y=>decide (x<=y))=Ln.ek l:=by have hs:(l.mergeSort fun x y=>decide (x<=y)).Pairwise (·<=·):=by{have:=List.pairwise_mergeSort (le:=fun x y:Int=>decide (x<=y)) (fun a b c h1 h2=>by simp at h1 h2 ⊢;omega) (fun a b=>by simp;omega) l;exact this.imp (fun h=>by simpa using h)};unfold Go.Lib.compact;rw[wS _ hs _ (Nat.le_refl _),List.take_length];exact Fu fun z=>List.mem_mergeSort
end Fl
end
section
open Go.RowKit
namespace Fl
theorem KR {ls:List Ln}(hok:Ln.isOk ls=true){p:Nat}(hp:p<ls.length):Ln.gT ls.length (ls.getD p .z)=true:=by unfold Ln.isOk at hok;simp only[au,List.all_eq_true]at hok;refine hok.2.1 _ ?_;rw[ah,ai hp];exact List.getElem_mem hp
theorem LP {ls:List Ln}(hok:Ln.isOk ls=true){p:Nat}(hp:p<ls.length)(hk:(ls.getD p .z).k=5\/(ls.getD p .z).k=6):0<=(ls.getD p .z).n/\(ls.getD p .z).n<(ls.length:Int):=by have h:=KR hok hp;generalize ls.getD p .z=x at h hk ⊢;obtain⟨k,d,a,b,n,l⟩:=x;unfold Ln.gT at h;simp only[au,Bool.not_eq_true',Bool.and_eq_false_iff,Bool.or_eq_false_iff,decide_eq_false_iff_not]at h;obtain⟨h1,h2⟩:=h;simp only at hk ⊢;have h3:n<(ls.length:Int):=by{rcases h2 with h2|h2;{exact absurd hk (by omega)};omega};refine⟨?_,h3⟩;unfold Ln.ok at h1;rw[au]at h1;have h4:=h1.2;rcases hk with rfl|rfl;{simp[Ln.asks,Wd.cK]at h4;omega};simp[Ln.asks,Wd.cK]at h4;omega
theorem Ma {ls:List Ln}(hok:Ln.isOk ls=true){p:Nat}(hp:p<ls.length)(h5:¬(ls.getD p .z).k=5)(h10:¬((ls.getD p .z).k=10\/(ls.getD p .z).k=11)):p+1<ls.length:=by refine Classical.byContradiction fun h=>?_;have e:p=ls.length-1:=by{omega};unfold Ln.isOk at hok;simp only[au]at hok;have h2:=hok.2.2;unfold Ln.jw at h2;rw[←e]at h2;simp only[Bool.or_eq_true,decide_eq_true_eq]at h2;omega
theorem Pp {y a n:Int}:y∈Ln.put [a] n↔y=a\/y=n:=by unfold Ln.put;split;{simp[Ln.put]};split;{rename_i e;simp[e]};simp;exact or_comm
theorem NR {ls:List Ln}(hok:Ln.isOk ls=true){p:Nat}(hp:p<ls.length):∀j∈nx (ls.getD p .z) p,0<=j/\j<(ls.length:Int):=by intro j hj;have h1:=LP hok hp;have h2:=Ma hok hp;generalize ls.getD p .z=x at hj h1 h2;unfold nx at hj;split at hj;{rename_i h5;rw[List.mem_singleton]at hj;rw[hj];exact h1 (.inl h5)};rename_i h5;split at hj;{rename_i h6;rcases Pp.1 hj with e|e;{have:=h2 h5 (by omega);omega};rw[e];exact h1 (.inr h6)};split at hj;{simp at hj};rename_i h10;rw[List.mem_singleton]at hj;have:=h2 h5 h10;omega
end Fl
end
section
open Go.RowKit
namespace Fl
def hs (l:List Int)(n:Int):Bool:=l.any fun y=>decide (y=n)
theorem uN {l:List Int}{n:Int}:hs l n=true↔n∈l:=by unfold hs;rw[List.any_eq_true];simp
theorem O0 (m:Nat){b:Nat}(hb:b<40):hs (nX m) (b:Int)=m.testBit b:=by rw[Bool.eq_iff_iff,uN];unfold nX;rw[sQ];simp;omega
theorem JB {x:Ln}(hok:Ln.ok x=true)(b:Nat):(sm x).testBit b=decide (Ln.st x=(b:Int)):=by have h:=Ln.Ez hok;unfold sm;split;{rw[Nat.testBit_two_pow];rw[Bool.eq_iff_iff];simp;omega};rw[Nat.zero_testBit];symm;rw[decide_eq_false_iff_not];omega
end Fl
end
section
open Go.RowKit
namespace Sp
structure S where
 b:Int
 f:Int
 t:Int
 c:Bool
def S.z:S:=⟨0,0,0,false⟩
def ha (ls:List Ln)(b i:Nat):Bool:=((Fl.live ls).getD i 0|||Fl.ou ls (Fl.live ls) i).testBit b||decide (Ln.st (ls.getD i .z)=(b:Int))
def cr (ls:List Ln)(b i:Nat):Bool:=decide ((ls.getD i .z).k=7)&&(decide (Ln.st (ls.getD i .z)≠(b:Int))&&(Fl.ou ls (Fl.live ls) i).testBit b)
def iL (ls:List Ln)(b i:Nat)(s:S):S:=if ha ls b i=true then⟨s.b,if s.f<0 then(i:Int)else s.f,(i:Int),s.c||cr ls b i⟩else s
def row (ls:List Ln)(b:Nat):Nat->S
 |0=>⟨(b:Int),-1,0,false⟩
 |i+1=>iL ls b i (row ls b i)
def out (ls:List Ln):Nat->List S
 |0=>[]
 |b+1=>if 0<=(row ls b ls.length).f then out ls b++[row ls b ls.length]else out ls b
def bB (ls:List Ln):List S:=if Ln.isOk ls=true then out ls 40 else[]
def bH (x y:S):Bool:=decide (x.f<=y.t)&&(decide (y.f<=x.t)&&(decide (x.f<=x.t)&&decide (y.f<=y.t)))
theorem meet_comm (x y:S):bH x y=bH y x:=by unfold bH;rw[Bool.eq_iff_iff];simp only[au,decide_eq_true_eq];constructor;{rintro⟨h1,h2,h3,h4⟩;exact⟨h2,h1,h4,h3⟩};rintro⟨h1,h2,h3,h4⟩;exact⟨h2,h1,h4,h3⟩
def lg (l:List S)(i:Int):Nat:=l.countP fun s=>decide (s.f<=i)&&decide (i<=s.t)
def pr (l:List S):Nat->Nat
 |0=>0
 |i+1=>max (pr l i) (lg l (i:Int))
def dN (ls:List Ln):Int:=if Ln.isOk ls=true then(pr (out ls 40) ls.length:Int)else 0
theorem I9 {ls:List Ln}{b i:Nat}(h:cr ls b i=true):ha ls b i=true:=by unfold cr at h;unfold ha;simp only[au]at h;rw[Nat.testBit_or,h.2.2];simp
structure Told (ls:List Ln)(b k:Nat)(s:S):Prop where
 bx:s.b=(b:Int)
 jl:s.c=(List.range k).any fun i=>cr ls b i
 at_:(s.f=-1/\s.t=0/\∀i,i<k->ha ls b i=false)\/(∃f t:Nat,s.f=(f:Int)/\s.t=(t:Int)/\f<=t/\t<k/\ha ls b f=true/\ha ls b t=true/\∀i,i<k->ha ls b i=true->f<=i/\i<=t)
theorem jJ (ls:List Ln)(b:Nat):∀k,Told ls b k (row ls b k)
 |0=>⟨rfl,rfl, .inl ⟨rfl,rfl,fun i h=>absurd h (by omega)⟩⟩
 | k + 1 =>by
   have ih:=jJ ls b k
   show Told ls b (k+1) (iL ls b k (row ls b k))
   unfold iL
   rcases h:ha ls b k with _|_
   · rw[ax (by simp)]
     refine⟨ih.bx,?_,?_⟩
     · rw[ih.jl,List.range_succ,List.any_append]
       have:cr ls b k=false:=by
         rcases e:cr ls b k with _|_
         · rfl
         · rw[I9 e]at h;exact absurd h (by simp)
       simp[this]
     · rcases ih.at_ with⟨h1,h2,h3⟩|⟨f,t,h1,h2,h3,h4,h5,h6,h7⟩
       · exact .inl ⟨h1,h2,fun i hi=>by
           by_cases e:i=k
           · rw[e];exact h
           · exact h3 i (by omega)⟩
       · exact .inr ⟨f,t,h1,h2,h3,by omega,h5,h6,fun i hi hb=>by
           by_cases e:i=k
           · rw[e,h]at hb;exact absurd hb (by simp)
           · exact h7 i (by omega) hb⟩
   · rw[ay rfl]
     refine⟨ih.bx,?_,?_⟩
     · rw[List.range_succ,List.any_append,←ih.jl]
       simp
     · rcases ih.at_ with⟨h1,h2,h3⟩|⟨f,t,h1,h2,h3,h4,h5,h6,h7⟩
       · refine .inr ⟨k,k,?_,rfl,Nat.le_refl _,by omega,h,h,fun i hi hb=>?_⟩
         · show(if(row ls b k).f<0 then(k:Int)else(row ls b k).f)=(k:Int)
           rw[ay (by omega)]
         · by_cases e:i=k
           · omega
           · rw[h3 i (by omega)]at hb;exact absurd hb (by simp)
       · refine .inr ⟨f,k,?_,rfl,by omega,by omega,h5,h,fun i hi hb=>?_⟩
         · show(if(row ls b k).f<0 then(k:Int)else(row ls b k).f)=(f:Int)
           rw[ax (by omega),h1]
         · by_cases e:i=k
           · omega
           · have:=h7 i (by omega) hb
             omega
theorem sI {ls:List Ln}{s:S}:∀{m:Nat},s∈out ls m->∃b,b<m/\s=row ls b ls.length/\0<=s.f
 |0,h=>by simp[out]at h
 | m + 1,h=>by
   unfold out at h
   split at h
   · rename_i hf
     rcases List.mem_append.1 h with h|h
     · obtain⟨b,h1,h2⟩:=sI h
       exact⟨b,by omega,h2⟩
     · have e:s=row ls m ls.length:=by simpa using h
       exact⟨m,by omega,e,by rw[e];exact hf⟩
   · obtain⟨b,h1,h2⟩:=sI h
     exact⟨b,by omega,h2⟩
theorem oD (ls:List Ln):∀m,(out ls m).length<=m
 |0=>by simp[out]
 | m+1=>by
   have:=oD ls m
   unfold out
   split
   · rw[List.length_append];simp;omega
   · omega
theorem AU (ls:List Ln):∀m,(out ls m).Pairwise fun x y=>x.b<y.b
 |0=>by simp[out]
 | m +1=>by
   have ih:=AU ls m
   unfold out
   split
   · rw[List.pairwise_append]
     refine⟨ih,by simp,fun x hx y hy=>?_⟩
     obtain⟨b,h1,h2,-⟩:=sI hx
     have e:y=row ls m ls.length:=by simpa using hy
     rw[e,h2,(jJ ls b _).bx,(jJ ls m _).bx]
     omega
   · exact ih
structure Is (ls:List Ln)(s:S)(b f t:Nat):Prop where
 b40:b<40
 bx:s.b=(b:Int)
 fr:s.f=(f:Int)
 to:s.t=(t:Int)
 le:f<=t
 lt:t<ls.length
 hf:ha ls b f=true
 ht:ha ls b t=true
 all:∀i,i<ls.length->ha ls b i=true->f<=i/\i<=t
 jl:s.c=(List.range ls.length).any fun i=>cr ls b i
theorem xR {ls:List Ln}{s:S}(h:s∈out ls 40):∃b f t,Is ls s b f t:=by obtain⟨b,h1,rfl,h2⟩:=sI h;have hT:=jJ ls b ls.length;rcases hT.at_ with⟨h3,-⟩|⟨f,t,e1,e2,h3,h4,h5,h6,h7⟩;{omega};exact⟨b,f,t,h1,hT.bx,e1,e2,h3,h4,h5,h6,h7,hT.jl⟩
theorem xq (l:List S):∀n i:Nat,i<n->lg l (i:Int)<=pr l n
 |0,i,h=>absurd h (by omega)
 | n +1,i,h=>by
   show _<=max (pr l n) (lg l (n:Int))
   by_cases e:i=n
   · rw[e];omega
   · have:=xq l n i (by omega)
     omega
theorem NJ (l:List S)(m:Nat):∀n:Nat,(∀i:Nat,i<n->lg l (i:Int)<=m)->pr l n<=m
 |0,_=>Nat.zero_le _
 | n+1,h=>by
   show max (pr l n) (lg l (n:Int))<=m
   have h1:=NJ l m n fun i hi=>h i (by omega)
   have h2:=h n (by omega)
   omega
theorem Lh (l:List S)(hne:l≠[]):∃s∈l,∀r∈l,r.f<=s.f:=by
 induction l with
 |nil=>exact absurd rfl hne
 |cons x r ih=>
  by_cases h:r=[]
  · exact⟨x,by simp,fun y hy=>by rw[h]at hy;have e:y=x:=(by simpa using hy);rw[e];exact Int.le_refl _⟩
  · obtain⟨s,hs,h2⟩:=ih h
    by_cases hx:x.f<=s.f
    · exact⟨s,by simp[hs],fun y hy=>by
       rcases List.mem_cons.1 hy with rfl|hy
       · exact hx
       · exact h2 y hy⟩
    · exact⟨x,by simp,fun y hy=>by
       rcases List.mem_cons.1 hy with rfl|hy
       · exact Int.le_refl _
       · have:=h2 y hy;omega⟩
theorem FD (l:List S)(i:Int)(h:lg l i≠0):∃s∈l,lg l i<=lg l s.f:=by
 have hp:0<lg l i:=by omega
 unfold lg at hp
 obtain⟨a,ha,hai⟩:=List.countP_pos_iff.1 hp
 obtain⟨s,hs,hmax⟩:=Lh (l.filter fun s=>decide (s.f<=i)&&decide (i<=s.t)) (by
  intro e
  have:=(List.mem_filter (p:=fun s:S=>decide (s.f<=i)&&decide (i<=s.t))).2 ⟨ha,hai⟩
  rw[e]at this
  simp at this)
 rw[List.mem_filter]at hs
 refine⟨s,hs.1,?_⟩
 unfold lg
 have h3:=hs.2
 simp only[au,decide_eq_true_eq]at h3
 refine List.countP_mono_left fun r hr h2=>?_
 have:=hmax r (List.mem_filter.2 ⟨hr,h2⟩)
 simp only[au,decide_eq_true_eq]at h2 ⊢
 omega
end Sp
end
section
open Go.RowKit
set_option linter.unusedSimpArgs false
namespace Hm
open Sp
theorem kD {o:List Nat}{j:Nat}(h:j<o.length):o.getD j 0=o[j]:=by rw[ah,ai h];rfl
def pos (l:List S)(f:Int):List Nat->Nat
 |[]=>0
 |k::r=>if(l.getD k .z).f<=f then pos l f r+1 else 0
def ins (l:List S)(o:List Nat)(i:Nat):List Nat:=o.take (pos l (l.getD i .z).f o)++i::o.drop (pos l (l.getD i .z).f o)
def ord (l:List S):Nat->List Nat
 |0=>[]
 |i+1=>ins l (ord l i) i
theorem yR (l:List S)(f:Int):∀o,pos l f o<=o.length
 |[]=>Nat.le_refl _
 | k::r=>by
   have:=yR l f r
   unfold pos
   split
   · simp only[List.length_cons];omega
   · omega
theorem CJ {l:List S}{f:Int}:∀{o:List Nat}{j:Nat},j<pos l f o->(l.getD (o.getD j 0) .z).f<=f
 |[],j,h=>by unfold pos at h;omega
 | k ::r,j,h=>by
   unfold pos at h
   split at h
   · rename_i hk
     cases j with
     |zero=>exact hk
     |succ j=>exact CJ (o:=r) (by omega)
   · omega
theorem pos_at {l:List S}{f:Int}:∀{o:List Nat},pos l f o<o.length->¬(l.getD (o.getD (pos l f o) 0) .z).f<=f
 |[],h=>by simp at h
 | k ::r,h=>by
   unfold pos at h ⊢
   split
   · rename_i hk
     rw[ay hk]at h
     exact pos_at (o:=r) (by simpa using h)
   · rename_i hk
     exact hk
theorem KW {l:List S}{o:List Nat}{i k:Nat}:k∈ins l o i↔k=i\/k∈o:=by unfold ins;generalize pos l (l.getD i .z).f o=p;rw[List.mem_append,List.mem_cons];(conv=>rhs;rw[←List.take_append_drop p o,List.mem_append]);constructor;{rintro(h|h|h);{exact .inr (.inl h)};{exact .inl h};exact .inr (.inr h)};rintro(h|h|h);{exact .inr (.inl h)};{exact .inl h};exact .inr (.inr h)
theorem gK {l:List S}{k:Nat}:∀{m:Nat},k∈ord l m↔k<m
 |0=>by simp[ord]
 | m+1=>by
   show k∈ins l (ord l m) m↔_
   rw[KW,gK]
   omega
theorem Lt (l:List S)(o:List Nat)(i:Nat):(ins l o i).length=o.length+1:=by have:=yR l (l.getD i .z).f o;unfold ins;rw[List.length_append,List.length_take,List.length_cons,List.length_drop];omega
theorem dF (l:List S):∀m,(ord l m).length=m
 |0=>rfl
 | m+1=>by
   show(ins l (ord l m) m).length=_
   rw[Lt,dF]
def Ky (l:List S)(a b:Nat):Prop:=(l.getD a .z).f<(l.getD b .z).f\/(l.getD a .z).f=(l.getD b .z).f/\a<b
theorem uC (l:List S):∀m,(ord l m).Pairwise (Ky l)
 |0=>List.Pairwise.nil
 | m + 1=>by
   have ih:=uC l m
   show(ins l (ord l m) m).Pairwise (Ky l)
   have hlt:∀k∈ord l m,k<m:=fun k h=>gK.1 h
   unfold ins
   generalize ho:ord l m=o at ih hlt
   have hp:=yR l (l.getD m .z).f o
   have h1:=@CJ l (l.getD m .z).f o
   have h2:=@pos_at l (l.getD m .z).f o
   generalize hpp:pos l (l.getD m .z).f o=p at hp h1 h2
   have ha:∀x∈o.take p,Ky l x m:=by
     intro x hx
     obtain⟨j,hj,e⟩:=List.getElem_of_mem hx
     rw[List.length_take]at hj
     rw[List.getElem_take]at e
     have h3:=h1 (j:=j) (by omega)
     rw[kD (show j<o.length by omega),e]at h3
     have h4:=hlt x (List.mem_of_mem_take hx)
     unfold Ky
     omega
   have hd:∀x∈o.drop p,(l.getD m .z).f<(l.getD x .z).f:=by
     intro x hx
     obtain⟨j,hj,e⟩:=List.getElem_of_mem hx
     rw[List.length_drop]at hj
     rw[List.getElem_drop]at e
     have h3:=h2 (by omega)
     rw[kD (show p<o.length by omega)]at h3
     by_cases hj0:j=0
     · subst hj0
       simp only[Nat.add_zero]at e
       rw[e]at h3
       omega
     · have h4:=List.pairwise_iff_getElem.1 ih p (p+j) (by omega) (by omega) (by omega)
       rw[e]at h4
       unfold Ky at h4
       omega
   rw[List.pairwise_append]
   refine⟨ih.sublist (List.take_sublist _ _),List.pairwise_cons.2 ⟨fun x hx=> .inl (hd x hx),ih.sublist (List.drop_sublist _ _)⟩,fun a ha' b hb=>?_⟩
   rcases List.mem_cons.1 hb with rfl|hb
   · exact ha a ha'
   · have h5:=ha a ha'
     have h6:=hd b hb
     unfold Ky at h5 ⊢
     omega
end Hm
end
end Go.Proofs.YtpipjiinmhopmaaGreat
