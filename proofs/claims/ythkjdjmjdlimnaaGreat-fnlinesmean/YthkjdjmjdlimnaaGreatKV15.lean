/- Own text. -/
import Derived.Test.YthkjdjmjdlimnaaGreatKV14
import Derived.Deep.WholeRow
import Derived.Stop.BytesEq
import Derived.Laws.CopyOwn
import Derived.Laws.ResultCell
namespace Go.Proofs.YthkjdjmjdlimnaaGreat
open Go.RowKit Go.Shelf
set_option linter.all false
set_option maxRecDepth 100000
set_option maxHeartbeats 16000000
variable {E H bs xs ys:List Int}{P:Nat->Prop}{Q:Exit->Act->World->Prop}{W W' W0 W1 W2 w w1 w2:World}{a p:Int}{at' c cap e g j k n n₀ n₁ r:Nat}{o:Oper}{ops:Array Oper}{rest:List Oper}{row:Option Nat}{t:TypeId}{u v v' vg:Value}{vs:List Value}
structure Still (p:Prop):Prop where
 out:p
def bv (x:Int):Value:= .int .u8 x
def dG (W:World)(g:Nat)(t:TypeId)(vs:List Value):Prop:=W.heap[g]?=some (.cells vs.toArray t (0,0))
theorem dG.lt {W:World}{g:Nat}{t:TypeId}{vs:List Value}(h:dG W g t vs):g<W.heap.size:=(Array.getElem?_eq_some_iff.1 h).1
theorem dG.cell {W:World}{g:Nat}{t:TypeId}{vs:List Value}(h:dG W g t vs){j:Nat}{v:Value}(hj:vs[j]?=some v):W.cell? ⟨g,j,none⟩=some v:=by rw[cell_of_row W g j _ t _ h];simpa using hj
theorem dG.frozen {W:World}{g:Nat}{t:TypeId}{vs:List Value}(h:dG W g t vs)(j:Nat):W.frozen? ⟨g,j,none⟩=false:=frozen_of_row W g j _ t h
theorem dG.kept {W W':World}{g:Nat}{t:TypeId}{vs:List Value}(h:dG W g t vs)(hB:Below W.heap.size W W'):dG W' g t vs:=(hB.block g h.lt).trans h
theorem dG.dZ(h:dG W g t vs)(hg:W.grownBy W' row)(hne:some g≠row):dG W' g t vs:=(hg.block g h.lt hne).trans h
theorem dG.set {W:World}{g:Nat}{t:TypeId}{vs:List Value}(h:dG W g t vs)(j:Nat)(v:Value):dG (W.setCell ⟨g,j,none⟩ v) g t (vs.set j v):=by have:=heap_setCell_same W g j vs.toArray t v h;unfold dG;rw[this];simp
theorem dG.row(h:dG W g t vs)(ws:List Value):dG (W.setRow g ws.toArray) g t ws:=setRow_heap W g _ _ t _ h
theorem pE (W:World)(g:Nat)(cs:Array Value):W.grownBy (W.setRow g cs) (some g):=
 ⟨rfl,rfl,rfl,by simp[World.setRow],fun k _ hk=>setRow_other W g k cs (fun e=>hk (by rw[e]))⟩
theorem aG(h:Below w.heap.size w w1)(hg:w1.grownBy w2 (some r))(hr:w.heap.size<=r):Below w.heap.size w w2:=
 ⟨hg.os.trans h.os,hg.tape.trans h.tape,hg.output.trans h.output,fH h.size hg.size,fun k hk=>(hg.block k (aj hk h.size) (by simp only[ne_eq,af];omega)).trans (h.block k hk)⟩
section
variable {P : Program}
theorem eP{a:Act}(hgd:o.guard=none)(t:TypeId)(ho:o.op= .alloc t)(zs:List Value)(n:Nat)(hz:(P.info? t).map (fun i=>(i.zero,i.size))=some (some (.agg zs.toArray),n))(h:∀g w',Hid (g=w.heap.size)->dG w' g t zs->Below w.heap.size w w'->wpList P ops Q rest (a.put o.dst (.pointer (some ⟨g,0,none⟩))) w'):wpList P ops Q (o::rest) a w:=by refine wpList_plain hgd fun K hK=>?_;have hrun:=(zero_of_info hz).1;unfold Oper.wp execOp;simp only[ho,Instr.alloc,Sem.run_bind,hrun,Result.andThen_ok];simp[newVar,Value.cells];exact hK _ _ (h w.heap.size (w.alloc (.cells zs.toArray t)) rfl (qo w _) (Below.alloc (eG _ _) (bI _) _))
theorem kG{a:Act}(hgd:o.guard=none)(t:TypeId)(x:Operand)(ho:o.op= .box t x)(zs:List Value)(hx:a.eval x= .agg zs.toArray)(h:∀g w',Hid (g=w.heap.size)->dG w' g t zs->Below w.heap.size w w'->wpList P ops Q rest (a.put o.dst (.pointer (some ⟨g,0,none⟩))) w'):wpList P ops Q (o::rest) a w:=by refine wpList_plain hgd fun K hK=>?_;unfold Oper.wp execOp;simp only[ho,hx,Instr.box,Sem.run_bind];simp[newVar,Value.cells];exact hK _ _ (h w.heap.size (w.alloc (.cells zs.toArray t)) rfl (qo w _) (Below.alloc (eG _ _) (bI _) _))
theorem ib{a:Act}(hgd:o.guard=none)(ty:TypeId)(x:Operand)(ho:o.op= .load ty x)
   (g:Nat) (hx:a.eval x= .pointer (some ⟨g,0,none⟩)) (t:TypeId) (vs:List Value) (hg:dG w g t vs) (n:Nat) (e:TypeId) (hu:P.underlying ty=some (.array n e)) (hi:(P.info? ty).map (·.size)=some vs.length)
   (h:wpList P ops Q rest (a.put o.dst (.agg vs.toArray)) w):wpList P ops Q (o::rest) a w:=
 wpList_load_row hgd ty x ho g hx t vs.toArray (0,0) _ hg hu rfl (by simpa using hi) h
theorem gG{a:Act}(hgd:o.guard=none)(ty:TypeId)(x y:Operand)(ho:o.op= .store ty x y)
   (g:Nat) (cells:List Value) (hx:a.eval x= .pointer (some ⟨g,0,none⟩)) (hy:a.eval y= .agg cells.toArray) (t:TypeId) (old:List Value) (hg:dG w g t old) (hi:(P.info? ty).map (·.size)=some cells.length)
   (hold:old.length=cells.length) (h1:∀v∈cells,v.oneCell'=true)
   (h:∀w',dG w' g t cells->w.grownBy w' (some g)->wpList P ops Q rest (a.put o.dst undef) w'):wpList P ops Q (o::rest) a w:=
 wpList_store_row hgd ty x y ho g cells.toArray hx hy t old.toArray hg (by simpa using hi) (by simpa using hold) (Array.all_eq_true_iff_forall_mem.2 (fun v hv=>h1 v (by simpa using hv))) (h _ (hg.row _) (pE _ _ _))
theorem qy{a:Act}(hgd:o.guard=none)(ty:TypeId)(x y:Operand)(ho:o.op= .index ty x y)(vs:List Value)(k:Nat)(hx:a.eval x= .agg vs.toArray)(hy:a.eval y= .int .i64 k)(n:Nat)(e:TypeId)(hu:P.underlying ty=some (.array n e))(hk:k<n)(hs:∀w,(sizeOf e).run P w= .ok 1 w)(ha:∀w,(isAgg e).run P w= .ok false w)(v:Value)(hv:vs[k]?=some v)(h:wpList P ops Q rest (a.put o.dst v) w):wpList P ops Q (o::rest) a w:=by refine wpList_plain hgd fun K hK=>?_;have hrun:(Instr.index ty (.agg vs.toArray) (.int .i64 k)).run P w= .ok v w:=by{simp[Instr.index,asIntOf,Sem.run_bind,run_underlying hu,hs,part,ha,hv];omega};unfold Oper.wp execOp;simp only[ho,hx,hy,Sem.run_bind,hrun,Result.andThen_ok];exact hK _ _ h
theorem gZ{a:Act}(t:TypeId)(ho:o.op= .alloc t)(h:Still (wpList P ops Q (o::rest) a w)):wpList P ops Q (o::rest) a w:=h.out
theorem pJ{a:Act}(t:TypeId)(x:Operand)(ho:o.op= .box t x)(h:Still (wpList P ops Q (o::rest) a w)):wpList P ops Q (o::rest) a w:=h.out
theorem jA{a:Act}(t:TypeId)(x:Operand)(ho:o.op= .load t x)(h:Still (wpList P ops Q (o::rest) a w)):wpList P ops Q (o::rest) a w:=h.out
theorem jw{a:Act}(t:TypeId)(x y:Operand)(ho:o.op= .store t x y)(h:Still (wpList P ops Q (o::rest) a w)):wpList P ops Q (o::rest) a w:=h.out
theorem wH{a:Act}(t:TypeId)(x y:Operand)(ho:o.op= .index t x y)(h:Still (wpList P ops Q (o::rest) a w)):wpList P ops Q (o::rest) a w:=h.out
theorem og{a:Act}(t:TypeId)(ps:Array (Nat×Operand))(ho:o.op= .build t ps)(h:Still (wpList P ops Q (o::rest) a w)):wpList P ops Q (o::rest) a w:=h.out
theorem Ol{a:Act}(x y:Operand)(s t:TypeId)(ho:o.op= .call {callee:= .builtin .copy,args:=#[x,y],argTypes:=#[s,t]})(h:Still (wpList P ops Q (o::rest) a w)):wpList P ops Q (o::rest) a w:=h.out
theorem wo (xs ys:List Int)(h:xs.length=ys.length):(List.range xs.length).all (fun i=>xs.getD i 0==ys.getD i 0)=(xs==ys):=by rw[Bool.eq_iff_iff];simp only[rD,List.mem_range,beq_iff_eq];constructor;{intro hh;apply List.ext_getElem h;intro i h1 h2;have:=hh i h1;simpa[ah,ai h1,ai h2]using this};rintro rfl i _;rfl
theorem tT (w:World)(d:Nat)(t e:TypeId)(n:Nat)(ht:P.underlying t=some (.array n e))(he:P.underlying e=some (.int .i64))(hsz:∀w,(sizeOf e).run P w= .ok 1 w)(xs ys:List Int)(hx:xs.length=n)(hy:ys.length=n):(Op.equalIn (d+2) t (.agg (xs.map iv).toArray) (.agg (ys.map iv).toArray)).run P w= .ok (xs==ys) w:=by
 rw[←wo xs ys (hx.trans hy.symm),hx,List.range_eq_range',Op.equalIn]
 simp only[Sem.run_bind,run_underlying ht,Result.andThen_ok,hsz,Std.Legacy.Range.forIn_eq_forIn_range',Std.Legacy.Range.size,Nat.sub_zero,Nat.add_sub_cancel,Nat.div_one]
 have hl:∀i∈List.range' 0 n 1,i<n:=fun i hi=>by simpa using(List.mem_range'_1.1 hi).2
 generalize List.range' 0 n 1=l at hl ⊢
 induction l with
 |nil=>simp
 |cons i l ih=>
  have hi:i<n:=hl i (by simp)
  have px:(part e (xs.map iv).toArray (i*1)).run P w= .ok (iv (xs.getD i 0)) w:=by simp[part,isAgg,run_underlying he,List.getD,ai (show i<xs.length by omega)]
  have py:(part e (ys.map iv).toArray (i*1)).run P w= .ok (iv (ys.getD i 0)) w:=by simp[part,isAgg,run_underlying he,List.getD,ai (show i<ys.length by omega)]
  have pe:(Op.equalIn (d+1) e (iv (xs.getD i 0)) (iv (ys.getD i 0))).run P w= .ok (xs.getD i 0==ys.getD i 0) w:=by rw[iv,iv,run_equalIn_int w d e .i64 .i64 _ _ he]
  simp only[List.forIn_cons,Sem.run_bind,px,py,pe,Result.andThen_ok,List.all_cons]
  cases hb:(xs.getD i 0==ys.getD i 0)
  · simp
  · simp only[Bool.not_true,Bool.false_eq_true,if_false,Sem.run_pure,Result.andThen_ok,Bool.true_and];exact ih fun j hj=>hl j (by simp[hj])
theorem Dy (w:World)(t e:TypeId)(n:Nat)(ht:P.underlying t=some (.array n e))(he:P.underlying e=some (.int .i64))(hsz:∀w,(sizeOf e).run P w= .ok 1 w)(xs ys:List Int)(hx:xs.length=n)(hy:ys.length=n):(binOp .neq t (.agg (xs.map iv).toArray) (.agg (ys.map iv).toArray)).run P w= .ok (.bool (!(xs==ys))) w:=by rw[run_neq_struct,tT w 9998 t e n ht he hsz xs ys hx hy];rfl
theorem nA {fn:Func}{p u:Tmp}{ty:TypeId}(h:fn.results=#[.cell p ty, .tmp u])(tmps:Array Value)(w:World)(g:Nat)(t:TypeId)(vs:List Value)(y:Value)(n:Nat)(e:TypeId)(hp:tmps.getD p undef= .pointer (some ⟨g,0,none⟩))(hy:tmps.getD u undef=y)(hg:dG w g t vs)(hu:P.underlying ty=some (.array n e))(hi:(P.info? ty).map (·.size)=some vs.length):(results fn tmps).run P w= .ok (.tuple #[.agg vs.toArray,y]) w:=by rw[results_cell_tmp h,hp,hy];simp[asAddr,run_loadVar_row w g t ty vs.toArray (0,0) _ hg hu rfl (by simpa using hi)]
variable {C : World → Prop}
theorem uM{a:Act}{K:Act->Prop}(ty:TypeId)(x:Operand)(ho:o.op= .load ty x)(g:Nat)(hx:a.eval x= .pointer (some ⟨g,0,none⟩))(t:TypeId)(vs:List Value)(hg:∀w,C w->dG w g t vs)(n:Nat)(e:TypeId)(hu:P.underlying ty=some (.array n e))(hi:(P.info? ty).map (·.size)=some vs.length)(hk:K (a.put o.dst (.agg vs.toArray))):o.quiet P a C K:=by refine⟨_,fun w hw=>?_,hk⟩;unfold Oper.quietAt execOp;simp only[ho,hx,Instr.loadAt,Instr.sureAddr,Sem.run_bind,Sem.run_pure,Result.andThen_ok,run_loadVar_row w g t ty vs.toArray (0,0) _ (hg w hw) hu rfl (by simpa using hi)];exact⟨rfl,rfl⟩
theorem Lh{a:Act}{K:Act->Prop}(ty ty':TypeId)(x y:Operand)(ho:o.op= .binOp .neq ty x y ty')(xs ys:List Int)(hx:a.eval x= .agg (xs.map iv).toArray)(hy:a.eval y= .agg (ys.map iv).toArray)(n:Nat)(e:TypeId)(hu:P.underlying ty=some (.array n e))(he:P.underlying e=some (.int .i64))(hsz:∀w,(sizeOf e).run P w= .ok 1 w)(hlx:xs.length=n)(hly:ys.length=n)(hq:P.eqGuardType P.depth ty=false)(hk:K (a.put o.dst (.bool (!(xs==ys))))):o.quiet P a C K:=by refine⟨_,fun w hw=>?_,hk⟩;have hrun:=Dy (P:=P) w ty e n hu he hsz xs ys hlx hly;have hg:(eqGuard .neq ty x y (.agg (xs.map iv).toArray) (.agg (ys.map iv).toArray)).run P w= .ok () w:=by{simp[eqGuard,hq]};unfold Oper.quietAt execOp;simp only[ho,hx,hy,Sem.run_bind,hg,hrun,Result.andThen_ok];exact⟨rfl,rfl⟩
theorem I6{a:Act}{K:Act->Prop}(f:FuncId)(x:Operand)(ts:Array TypeId)(ho:o.op= .call {callee:= .value (.func f),args:=#[x],argTypes:=ts})(vx v:Value)(hx:a.eval x=vx)(hcf:∀w,(callFunc f #[vx]).run P w= .ok (.enter f #[vx]) w)(hc:∀w,C w->Calls P f #[vx] w (fun e w''=>e= .returned v/\C w''))(hk:K (a.put o.dst v)):o.quiet P a C K:=by refine⟨_,fun w hw=>?_,hk⟩;have:=hc w hw;have he:a.eval (.func f)= .func (.func f) #[] #[]:=rfl;unfold Oper.quietAt execOp;simp[ho,resolve,hx,invoke,Deferred.ofValue,he,hcf];exact⟨rfl,this⟩
end
theorem Li:(Tryz.prog.info? 168).map (fun i=>(i.zero,i.size))=some (some (.agg ((List.replicate 64 0).map iv).toArray),64):=by kernel_rfl
theorem KW:(Tryz.prog.info? 115).map (fun i=>(i.zero,i.size))=some (some (.agg ((List.replicate 64 0).map bv).toArray),64):=by kernel_rfl
theorem sW:(Tryz.prog.info? 168).map (·.size)=some 64:=by kernel_rfl
theorem jv:(Tryz.prog.info? 115).map (·.size)=some 64:=by kernel_rfl
theorem tV:∀v∈bs.map bv,v.oneCell'=true:=by intro v hv;obtain⟨b,_,rfl⟩:=List.mem_map.1 hv;rfl
theorem jq:∀v∈bs.map iv,v.oneCell'=true:=by intro v hv;obtain⟨b,_,rfl⟩:=List.mem_map.1 hv;rfl
theorem iF{f:Int->Value}(h:k<bs.length):(bs.map f)[k]?=some (f (bs.getD k 0)):=by rw[KH,ai h,ah,ai h];rfl
theorem Ia{f:Nat->Int}(h:ys.length=n/\∀j,j<k->ys.getD j 0=f j)(hk:k<n)(hp:f k=p):(ys.set k p).length=n/\∀j,j<k+1->(ys.set k p).getD j 0=f j:=by refine⟨by rw[uW];exact h.1,fun j hj=>?_⟩;by_cases e:j=k;{subst e;rw[ah,Ww (by omega),hp];rfl};rw[←h.2 j (by omega),ah,R9 (by omega),←ah]
theorem rJ(h:ys.length=n/\∀j,j<n->ys.getD j 0=bs.getD j 0)(hb:bs.length=n):ys=bs:=by apply List.ext_getElem;{rw[h.1,hb]};intro j h1 h2;have:=h.2 j (by omega);simpa[ah,ai h1,ai h2]using this
theorem IG (bs:List Int)(hl:bs.length=64)(hb:∀j,0<=bs.getD j 0/\bs.getD j 0<=255)(w:World):Calls Tryz.prog 100 #[.agg (bs.map bv).toArray] w fun e w'=>e= .returned (.agg (bs.map iv).toArray)/\Below w.heap.size w w':=by have HL:=ae hl;obtain⟨cs,hcs⟩:=aF (bs.map bv);obtain⟨zs,hzs⟩:=aF ((List.replicate 64 (0:Int)).map iv);have HZ:=Li;rw[hcs];rw[hzs]at HZ;clear hl;go_enter Tryz.func100,Tryz.ntmps100;go_wp2_with(refine pJ 115 _ rfl ?_);refine⟨?_⟩;refine kG rfl _ _ rfl cs rfl ?_;intro g1 w1 hg1 hA1 hB1;go_wp2_with(refine gZ 168 rfl ?_);refine⟨?_⟩;refine eP rfl _ rfl zs 64 HZ ?_;intro g2 w2 hg2 hA2 hB2;go_wp2_with(refine gZ 168 rfl ?_);refine⟨?_⟩;refine eP rfl _ rfl zs 64 HZ ?_;intro g3 w3 hg3 hA3 hB3;go_wp2_with(refine jA 115 _ rfl ?_);refine⟨?_⟩;have G7:=(hA1.kept hB2).kept hB3;have ahH:cs.length=64:=by{rw[←hcs,iG];exact HL.out};refine ib rfl _ _ rfl g1 rfl _ cs G7 64 5 Tryz.underlying115 (by rw[ahH];exact jv) ?_;have vw:=hA2.kept hB3;have hBw:=hB1.trans ((hB2.trans (hB3.mono hB2.size)).mono hB1.size);have HW:=ae hBw;have HG:Hid (w.heap.size<=g1/\w.heap.size<=g2/\w.heap.size<=g3/\g2≠g3):=by{have e1:=hg1.out;have e2:=hg2.out;have e3:=hg3.out;have s1:=hB1.size;have s2:=hB2.size;have s3:=hA2.lt;exact⟨by omega,by omega,by omega,by omega⟩};have HA2:=ae vw;clear hA1 hA2 G7 hB1 hB2 hB3 hBw vw hg1 hg2 hg3;go_wp2;go_loopw [4,5,7,8,9,10,11,12,13,14,15] (fun _ _ i _ _ _ _ _ _ _ _ wr=>∃(k:Nat)(ys:List Int),i= .int .i64 k/\k<=64/\ys.length=64/\(∀j,j<k->ys.getD j 0=bs.getD j 0)/\dG wr g3 168 (ys.map iv)/\dG wr g2 168 zs/\Below w.heap.size w wr) (fun _ _ i _ _ _ _ _ _ _ _ _=>64-(intOf i).toNat);(case atStart=>exact⟨0,List.replicate 64 0,rfl,by omega,by simp,by simp,by rw[hzs];exact hA3,HA2.out,HW.out⟩);case round=>obtain⟨k,ys,rfl,hk,hyl,hys,uA,vw,hB⟩:=hrel;have HY:=ae (ak hyl hys);have HA:=ae vw;clear hA3 vw ahH;by_cases hlt:k<64;{have hget:cs[k]?=some (.int .u8 (bs.getD k 0)):=by{rw[←hcs];exact iF (by rw[HL.out];exact hlt)};have gI:(k:Int)<64:=by{omega};have hc:=uA.cell (iF (f:=iv) (k:=k) (by omega));have hf:=uA.frozen k;have hset:=uA.set k (iv (bs.getD k 0));rw[←List.map_set]at hset;obtain⟨p,hp⟩:=aF (bs.getD k 0);have hp0:=(hb k).1;have hp1:=(hb k).2;rw[hp]at hp0 hp1;obtain⟨q,hq⟩:=aF (ys.getD k 0);rw[hp]at hset hget;rw[hq]at hc;have HP:=ae hp;have HS:=ae hset;have HB:=ae hB;clear hyl hys hp hq hset uA hB hb;unfold iv at hc;go_wp2_with(refine wH 115 _ _ rfl ?_);refine⟨?_⟩;refine qy rfl _ _ _ rfl cs k rfl rfl 64 5 Tryz.underlying115 hlt (fun _=>Tryz.sizeOf5 _) (fun _=>Tryz.isAgg5 _) _ hget ?_;go_wp2;go_roundw;(case rel=>obtain⟨y1,y2⟩:=Ia HY.out hlt HP.out;obtain⟨-,-,o3,o4⟩:=HG.out;exact⟨k+1,ys.set k p,by simp,by omega,y1,y2,HS.out,HA.out.dZ (aC _ ⟨g3,k,none⟩ _) (by simpa using o4),HB.out.setCell (p:=⟨g3,k,none⟩) o3 _⟩);case measure=>simp[intOf];omega};obtain rfl:k=64:=by{omega};have e:ys=bs:=rJ HY.out HL.out;subst e;have HB:=ae hB;have hlY:(ys.map iv).length=64:=by{rw[iG];exact hyl};clear hyl hys HY hb;go_wp2_with(refine jA 168 _ rfl ?_);refine⟨?_⟩;refine ib rfl _ _ rfl g3 rfl _ _ uA 64 2 Tryz.underlying168 (by rw[hlY];exact sW) ?_;go_wp2_with(refine jw 168 _ _ rfl ?_);refine⟨?_⟩;refine gG rfl _ _ _ rfl g2 (ys.map iv) rfl rfl _ _ HA.out (by rw[hlY];exact sW) (by rw[hlY,←hzs];simp) jq ?_;intro w5 WE hg5;have HA5:=ae WE;go_wp2;obtain⟨-,o2,-,-⟩:=HG.out;refine iw (v:= .agg (ys.map iv).toArray) ?_ rfl ⟨rfl,aG HB.out hg5 o2⟩;exact results_cell_row rfl _ _ g2 _ _ _ _ rfl HA5.out Tryz.underlying168 rfl (by rw[List.size_toArray,hlY];exact sW)
def OG (W:World)(n₀ g n c:Nat)(xs:List Int):Prop:=xs.length=n/\W.ownsRow n₀ 2 1 (.slice (some ⟨g,0,none⟩) n c) n (xs.map iv)
theorem OG.oi(h:OG W n₀ g n c xs):OI W n₀ (.slice (some ⟨g,0,none⟩) n c) xs:=by unfold OI;rw[h.1];exact h.2
theorem OG.lt {W:World}{n₀ g n c:Nat}{xs:List Int}(h:OG W n₀ g n c xs):n₀<=g/\g<W.heap.size:=Ay h.2 g rfl
theorem OG.cap {W:World}{n₀ g n c:Nat}{xs:List Int}(h:OG W n₀ g n c xs):n<=c/\c<=maxLen:=by rcases h.2.2 with⟨e,-⟩|⟨g',cap,cur,e,hb,hc,hn,hm,-⟩;{cases e};cases e;exact⟨hn,hm⟩
theorem OG.cell {W:World}{n₀ g n c:Nat}{xs:List Int}(h:OG W n₀ g n c xs){j:Nat}(hj:j<n):W.cell? ⟨g,j,none⟩=some (.int .i64 (xs.getD j 0)):=by have hi:=(OI.il h.oi).2;obtain⟨-,-,h0|⟨b,o,e,hb,hx⟩⟩:=hi;{omega};simp only[af,Addr.mk.injEq,and_true]at e;obtain⟨rfl,rfl⟩:=e;have:=hx j hj;rwa [Nat.zero_add]at this
theorem OG.kept {W W':World}{n₀ g n c:Nat}{xs:List Int}(h:OG W n₀ g n c xs)(hB:Below W.heap.size W W'):OG W' n₀ g n c xs:=⟨h.1,aN h.2 hB⟩
theorem OG.dZ{b:Nat}(h:OG W n₀ g n c xs)(hg:W.grownBy W' (some b))(hne:g≠b):OG W' n₀ g n c xs:=by refine⟨h.1,aa0 h.2 hg (.inr ?_)⟩;simp only[Value.ownBlock,ne_eq,af];omega
theorem OG.mono {W:World}{n₀ n₁ g n c:Nat}{xs:List Int}(h:OG W n₁ g n c xs)(hn:n₀<=n₁):OG W n₀ g n c xs:=by have:=OI.mono h.oi hn;unfold OI at this;rw[h.1]at this;exact⟨h.1,this⟩
theorem OG.empty (W:World)(n₀:Nat)(hn:n₀<=W.heap.size):OG (W.alloc (.cells #[] 2)) n₀ W.heap.size 0 0 []:=⟨rfl,by simpa[OI]using OI.mono (OI.empty W) hn⟩
theorem OG.one (W:World)(n₀:Nat)(hn:n₀<=W.heap.size)(y:Int):OG (W.alloc (.cells #[.int .i64 y] 2)) n₀ W.heap.size 1 1 [y]:=
 ⟨rfl,rfl, .inr ⟨W.heap.size,1,#[.int .i64 y],rfl,hn,QC W _,bI _,by simp[maxLen],rfl,rfl⟩⟩
theorem xq{a:Act}(W:World)(hgd:o.guard=none)(s x:Operand)(ho:o.op= .call {callee:= .builtin .append,args:=#[s,x],argTypes:=#[27,27]})(n₀ g n c:Nat)(xs:List Int)(hs:a.eval s= .slice (some ⟨g,0,none⟩) n c)(hown:OG W n₀ g n c xs)(sb so m sc:Nat)(ys:List Int)(hx:a.eval x= .slice (some ⟨sb,so,none⟩) m sc)(hym:ys.length=m)(hy:∀j,j<m->W.cell? ⟨sb,so+j,none⟩=some (.int .i64 (ys.getD j 0)))(hsz:n+m<=1048576)(hbase:n₀<=W.heap.size)(h:∀g' c' N W',Hid (N=n+m)->OG W' n₀ g' N c' (xs++ys)->W.grownBy W' (some g)->wpList Tryz.prog ops Q rest (a.put o.dst (.slice (some ⟨g',0,none⟩) N c')) W'):wpList Tryz.prog ops Q (o::rest) a W:=by obtain⟨i0,hi,hz0,hz1,hz2⟩:=lT bT;refine nz W hgd s x 27 ho n₀ 2 i0 (.int .i64 0) 1 8 Tryz.underlying27 hi hz0 hz1 hz2 rfl (by decide) _ n (xs.map iv) hs hown.2 ⟨sb,so,none⟩ m sc (ys.map iv) hx (by rw[iG,hym,Nat.mul_one]) (fun j u hu=>?_) jq (by simp only[maxLen];omega) (by omega) hbase (fun v' W' hown' hgrow hnn=>?_);{have hj:j<m:=by{have:=(List.getElem?_eq_some_iff.1 hu).1;rwa [iG,hym]at this};rw[iF (by rw[hym];exact hj)]at hu;cases hu;(have hadd:(⟨sb,so,none⟩:Addr).add j=⟨sb,so+j,none⟩:=by unfold Addr.add;split<;>simp_all);rw[hadd];exact hy j hj};rcases hown'.2 with⟨rfl,h0⟩|⟨g',cap',cur,rfl,r⟩;{exact eU (hnn.1 rfl).1 (fun e=>by cases e)};refine h g' cap' (n+m) W' rfl ⟨by rw[jy,hown.1,hym],?_⟩ hgrow;rw[oZ];exact hown'
abbrev Lv:=Int×Int×Int×Int×Int×Value
def jr:Lv:=(0,0,0,0,0, .slice none 0 0)
def fJ (xs:List Lv):List Value:=xs.flatMap fun x=>[.int .i64 x.1, .int .i64 x.2.1, .int .i64 x.2.2.1, .int .i64 x.2.2.2.1, .int .i64 x.2.2.2.2.1,x.2.2.2.2.2]
theorem kr (x:Lv)(xs:List Lv):fJ (x::xs)= .int .i64 x.1:: .int .i64 x.2.1:: .int .i64 x.2.2.1:: .int .i64 x.2.2.2.1:: .int .i64 x.2.2.2.2.1::x.2.2.2.2.2::fJ xs:=rfl
theorem DK (xs:List Lv):(fJ xs).length=xs.length*6:=by
 induction xs with
 |nil=>rfl
 |cons x xs ih=>rw[kr];simp only[oK,ih];omega
theorem qg:∀(xs:List Lv)(j:Nat),j<xs.length->(fJ xs)[j*6]?=some (.int .i64 (xs.getD j jr).1)/\(fJ xs)[j*6+1]?=some (.int .i64 (xs.getD j jr).2.1)/\(fJ xs)[j*6+2]?=some (.int .i64 (xs.getD j jr).2.2.1)/\(fJ xs)[j*6+3]?=some (.int .i64 (xs.getD j jr).2.2.2.1)/\(fJ xs)[j*6+4]?=some (.int .i64 (xs.getD j jr).2.2.2.2.1)/\(fJ xs)[j*6+5]?=some (xs.getD j jr).2.2.2.2.2
 |[],j,h=>by simp at h
 |x::xs,0,h=>⟨rfl,rfl,rfl,rfl,rfl,rfl⟩
 | x::xs,j+1,h=>by
   have ih:=qg xs j (by simpa using h)
   have e:(x::xs).getD (j+1) jr=xs.getD j jr:=rfl
   rw[e,kr]
   refine⟨?_,?_,?_,?_,?_,?_⟩
   · rw[show(j+1)*6=j*6+1+1+1+1+1+1 by omega];simp only[List.getElem?_cons_succ];exact ih.1
   · rw[show(j+1)*6+1=j*6+1+1+1+1+1+1+1 by omega];simp only[List.getElem?_cons_succ];exact ih.2.1
   · rw[show(j+1)*6+2=j*6+2+1+1+1+1+1+1 by omega];simp only[List.getElem?_cons_succ];exact ih.2.2.1
   · rw[show(j+1)*6+3=j*6+3+1+1+1+1+1+1 by omega];simp only[List.getElem?_cons_succ];exact ih.2.2.2.1
   · rw[show(j+1)*6+4=j*6+4+1+1+1+1+1+1 by omega];simp only[List.getElem?_cons_succ];exact ih.2.2.2.2.1
   · rw[show(j+1)*6+5=j*6+5+1+1+1+1+1+1 by omega];simp only[List.getElem?_cons_succ];exact ih.2.2.2.2.2
theorem BZ:∀(xs:List Lv)(k:Nat)(x:Lv),fJ (xs.set k x)=((((((fJ xs).set (k*6) (.int .i64 x.1)).set (k*6+1) (.int .i64 x.2.1)).set (k*6+2) (.int .i64 x.2.2.1)).set (k*6+3) (.int .i64 x.2.2.2.1)).set (k*6+4) (.int .i64 x.2.2.2.2.1)).set (k*6+5) x.2.2.2.2.2
 |[],k,x=>rfl
 |y::xs,0,x=>rfl
 | y::xs,k+1,x=>by
   rw[List.set_cons_succ,kr,BZ xs k x,kr]
   rw[show(k+1)*6=k*6+1+1+1+1+1+1 by omega]
   simp only[List.set_cons_succ]
def kU (W:World)(n₀ k:Nat)(vs:List Lv)(fs:List Ln):Prop:=
 ∀j,j<k->(vs.getD j jr).1=(fs.getD j .z).k/\(vs.getD j jr).2.1=(fs.getD j .z).d/\(vs.getD j jr).2.2.1=(fs.getD j .z).a/\(vs.getD j jr).2.2.2.1=(fs.getD j .z).b/\(vs.getD j jr).2.2.2.2.1=(fs.getD j .z).n/\OI W n₀ (vs.getD j jr).2.2.2.2.2 (fs.getD j .z).l
theorem kU.kept {W W':World}{n₀ k:Nat}{vs:List Lv}{fs:List Ln}(h:kU W n₀ k vs fs)(hB:Below W.heap.size W W'):kU W' n₀ k vs fs:=fun j hj=>by
 obtain⟨h0,h1,h2,h3,h4,h5⟩:=h j hj
 exact⟨h0,h1,h2,h3,h4,h5.kept hB⟩
theorem kU.other{b:Nat}{vs:List Lv}{fs:List Ln}(h:kU W n₀ k vs fs)(hg:W.grownBy W' (some b))(hne:b<n₀):kU W' n₀ k vs fs:=fun j hj=>by
 obtain⟨h0,h1,h2,h3,h4,h5⟩:=h j hj
 exact⟨h0,h1,h2,h3,h4,h5.dZ hg (fun g hgg=>by have:=(Ay h5 g hgg).1;omega)⟩
theorem kU.mono {W:World}{n₀ n₁ k:Nat}{vs:List Lv}{fs:List Ln}(h:kU W n₁ k vs fs)(hn:n₀<=n₁):kU W n₀ k vs fs:=fun j hj=>by
 obtain⟨h0,h1,h2,h3,h4,h5⟩:=h j hj
 exact⟨h0,h1,h2,h3,h4,h5.mono hn⟩
theorem BL{vs:List Lv}{fs:List Ln}(h:W.ownsRow n₀ 109 6 (.slice (some ⟨g,0,none⟩) n cap) n (fJ vs))(hn:fs.length=n)(ht:kU W n₁ n vs fs):LL W (some ⟨g,0,none⟩) n fs:=by have hv:n=vs.length:=by{have:=h.1;rw[DK]at this;omega};have hlt:=Ay h g rfl;have hmx:n<=maxLen:=by{rcases h.2 with⟨h',_⟩|⟨g',cap',cur,h',_,_,hc,hm,_⟩;{cases h'};cases h';exact fH hc hm};refine⟨hn,hmx, .inr ⟨g,0,rfl,hlt.2,fun j hj=>?_⟩⟩;obtain⟨g0,g1,g2,g3,g4,g5⟩:=qg vs j (by omega);obtain⟨t0,t1,t2,t3,t4,t5⟩:=ht j hj;rw[Nat.zero_add];refine⟨(World.ownsRow.cellAt h (j*6) (by omega)).trans (by rw[g0,t0]),(World.ownsRow.cellAt h (j*6+1) (by omega)).trans (by rw[g1,t1]),(World.ownsRow.cellAt h (j*6+2) (by omega)).trans (by rw[g2,t2]),(World.ownsRow.cellAt h (j*6+3) (by omega)).trans (by rw[g3,t3]),(World.ownsRow.cellAt h (j*6+4) (by omega)).trans (by rw[g4,t4]),?_⟩;obtain⟨sa,sc,e,hs⟩:=t5.slice;exact⟨sa,_,sc,(World.ownsRow.cellAt h (j*6+5) (by omega)).trans (by rw[g5,e]),hs⟩
def tF (W:World)(n₀:Nat)(v:Value)(fs:List Ln):Prop:=
 ∃g cap vs,v= .slice (some ⟨g,0,none⟩) fs.length cap/\W.ownsRow n₀ 109 6 (.slice (some ⟨g,0,none⟩) fs.length cap) fs.length (fJ vs)/\kU W n₀ fs.length vs fs
theorem tF.LL {W:World}{n₀:Nat}{v:Value}{fs:List Ln}(h:tF W n₀ v fs):∃g cap,v= .slice (some ⟨g,0,none⟩) fs.length cap/\n₀<=g/\g<W.heap.size/\Go.Proofs.YthkjdjmjdlimnaaGreat.LL W (some ⟨g,0,none⟩) fs.length fs:=by obtain⟨g,cap,vs,rfl,hrow,ht⟩:=h;exact⟨g,cap,rfl,(Ay hrow g rfl).1,(Ay hrow g rfl).2,BL hrow rfl ht⟩
theorem Ot:(Tryz.prog.info? 109).map (fun i=>(i.zero,i.size,i.bytes))=some (some (.agg #[.int .i64 0, .int .i64 0, .int .i64 0, .int .i64 0, .int .i64 0, .slice none 0 0]),6,64):=by kernel_rfl
structure LX where
 B:Nat
 ha:Option Addr
 hc:Nat
 ea:Option Addr
 ec:Nat
 ba:Option Addr
 bc:Nat
 fs:List Fn
 f:Fn
 E:List Int
 O:List Int
 H:List Int
def LX.dY (c:LX)(v vg:Value):List Value:=
 [v,vg, .int .i64 (Lw.wd c.f), .slice c.ha c.f.b.length c.hc, .slice c.ea c.f.b.length c.ec, .slice c.ba c.f.b.length c.bc, .int .i64 c.f.g]
structure TX (c:LX)(W0:World):Prop where
 lt:W0.heap.size<=c.B
 hH:IL W0 c.ha c.f.b.length c.H
 hE:IL W0 c.ea c.f.b.length c.E
 hS:SL W0 c.ba c.f.b.length c.f.b
 acc:Hg.Acc c.fs c.f c.E c.O c.H
 ok:0<=c.f.a/\c.f.a<=3/\0<=c.f.l/\c.f.l<=3/\(c.f.g=0\/c.f.g=1)/\c.f.b.length<=80
 all:St.dh c.f.b=true
 val:Mn.La c.fs
structure MK (c:LX)(W0 W:World)(v vg:Value)(out:List (Ln×Int))(P:Nat->Prop):Prop where
 fU:Below W0.heap.size W0 W
 box:aX W c.B (c.dY v vg)
 sz:c.B+1<=W.heap.size
 row:∃vs:List Lv,W.ownsRow (c.B+1) 109 6 v out.length (fJ vs)/\vs.length=out.length/\kU W (c.B+1) out.length vs (out.map (·.1))/\∀j,j<out.length->∀g,(vs.getD j jr).2.2.2.2.2.ownBlock=some g->vg.ownBlock≠some g/\P g
 Kj:OI W (c.B+1) vg (out.map (·.2))
structure FX (c:LX)(v vg v' qJ:Value)(W W':World):Prop where
 os:W'.os=W.os
 tape:W'.tape=W.tape
 out:W'.output=W.output
 size:W.heap.size<=W'.heap.size
 blk:∀i,i<W.heap.size->i≠c.B->v.ownBlock≠some i->vg.ownBlock≠some i->W'.heap[i]?=W.heap[i]?
 v1:v'.ownBlock=v.ownBlock\/∃g,v'.ownBlock=some g/\W.heap.size<=g
 g1:qJ.ownBlock=vg.ownBlock\/∃g,qJ.ownBlock=some g/\W.heap.size<=g
theorem FX.refl (c:LX)(v vg:Value)(W:World):FX c v vg v vg W W:=⟨rfl,rfl,rfl,bI _,fun _ _ _ _ _=>rfl, .inl rfl, .inl rfl⟩
theorem FX.trans {c:LX}{v vg v' qJ v2 Cw:Value}{W W' W2:World}(h:FX c v vg v' qJ W W')(k:FX c v' qJ v2 Cw W' W2):FX c v vg v2 Cw W W2:=by refine⟨k.os.trans h.os,k.tape.trans h.tape,k.out.trans h.out,fH h.size k.size,fun i hi hB hv hg=>?_,?_,?_⟩;{refine(k.blk i (aj hi h.size) hB ?_ ?_).trans (h.blk i hi hB hv hg);{rcases h.v1 with e|⟨g,e,hge⟩;{rw[e];exact hv};rw[e];simp only[ne_eq,af];omega};rcases h.g1 with e|⟨g,e,hge⟩;{rw[e];exact hg};rw[e];simp only[ne_eq,af];omega};{rcases k.v1 with e|⟨g,e,hge⟩;{rw[e];exact h.v1};exact .inr ⟨g,e,fH h.size hge⟩};rcases k.g1 with e|⟨g,e,hge⟩;{rw[e];exact h.g1};exact .inr ⟨g,e,fH h.size hge⟩
theorem FX.below{c:LX}(h:Below W.heap.size W W'):FX c v vg v vg W W':=⟨h.os,h.tape,h.output,h.size,fun i hi _ _ _=>h.block i hi, .inl rfl, .inl rfl⟩
theorem FX.rows{c:LX}{qJ:Value}(h:FX c v vg v' qJ W W'){xs:List Value}(hr:W.ownsRow n₀ e k u n xs)(hn:∀g,u.ownBlock=some g->g≠c.B/\v.ownBlock≠some g/\vg.ownBlock≠some g):W'.ownsRow n₀ e k u n xs:=by refine⟨hr.1,?_⟩;rcases hr.2 with h'|⟨g',cap',cur,h',h1,h2,r⟩;{exact .inl h'};have hg:=hn g' (by rw[h'];rfl);exact .inr ⟨g',cap',cur,h',h1,(h.blk g' (Array.getElem?_eq_some_iff.1 h2).1 hg.1 hg.2.1 hg.2.2).trans h2,r⟩
theorem MK.kept {c:LX}{W0 W W':World}{v vg:Value}{out:List (Ln×Int)}{P:Nat->Prop}(h:MK c W0 W v vg out P)(hB:Below W.heap.size W W'):MK c W0 W' v vg out P:=by obtain⟨vs,h1,h2,h3,h4⟩:=h.row;exact⟨h.fU.trans (hB.mono h.fU.size),h.box.kept hB,fH h.sz hB.size,⟨vs,aN h1 hB,h2,h3.kept hB,h4⟩,h.Kj.kept hB⟩
theorem MK.jG{c:LX}{out:List (Ln×Int)}{P':Nat->Prop}(h:MK c W0 W v vg out P)(hP:∀g,P g->P' g):MK c W0 W v vg out P':=by obtain⟨vs,h1,h2,h3,h4⟩:=h.row;exact⟨h.fU,h.box,h.sz,⟨vs,h1,h2,h3,fun j hj g e=>⟨(h4 j hj g e).1,hP g (h4 j hj g e).2⟩⟩,h.Kj⟩
theorem dO{xs:List Value}(h:W.ownsRow n₀ e k v n xs)(hg:v.ownBlock=some g):n₀<=g/\g<W.heap.size:=Ay h g hg
theorem gP{b0 b1 e0 e1 k0 k1 n0 n1:Nat}{xs ys:List Value}(h0:W.ownsRow b0 e0 k0 u n0 xs)(h1:W.ownsRow b1 e1 k1 v n1 ys)(he:e0≠e1)(hg:u.ownBlock=some g):v.ownBlock≠some g:=by intro hv;rcases h0.2 with⟨rfl,-⟩|⟨g0,c0,aq5,rfl,-,hb0,-⟩;{cases hg};rcases h1.2 with⟨rfl,-⟩|⟨g1,c1,Ye,rfl,-,hb1,-⟩;{cases hv};simp only[Value.ownBlock,af]at hg hv;subst hg;subst hv;rw[hb0]at hb1;cases hb1;exact he rfl
theorem eQ{xs:List Value}(h:W.ownsRow n₀ e k u n xs)(hg:W.grownBy W' row)(hne:∀g,u.ownBlock=some g->row≠some g):W'.ownsRow n₀ e k u n xs:=by refine⟨h.1,?_⟩;rcases h.2 with h'|⟨g',cap',cur,h',h1,h2,r⟩;{exact .inl h'};exact .inr ⟨g',cap',cur,h',h1,(hg.block g' (Array.getElem?_eq_some_iff.1 h2).1 (fun e=>hne g' (by rw[h'];rfl) e.symm)).trans h2,r⟩
theorem kU.dZ{vs:List Lv}{fs:List Ln}(h:kU W n₀ k vs fs)(hg:W.grownBy W' row)(hne:∀j,j<k->∀g,(vs.getD j jr).2.2.2.2.2.ownBlock=some g->row≠some g):kU W' n₀ k vs fs:=fun j hj=>by
 obtain⟨h0,h1,h2,h3,h4,h5⟩:=h j hj
 exact⟨h0,h1,h2,h3,h4,eQ h5 hg (hne j hj)⟩
theorem fD(h:Below w.heap.size w w1)(hg:w1.grownBy w2 row)(hr:∀g,row=some g->w.heap.size<=g):Below w.heap.size w w2:=
 ⟨hg.os.trans h.os,hg.tape.trans h.tape,hg.output.trans h.output,fH h.size hg.size,fun k hk=>(hg.block k (aj hk h.size) (fun e=>by have:=hr k e.symm;omega)).trans (h.block k hk)⟩
theorem rX (xs ys:List Lv):fJ (xs++ys)=fJ xs++fJ ys:=by simp[fJ]
theorem Js{a:Act}{K:Act->World->Prop}{E:Prop}(w:World)(hgd:o.guard=none)(s x:Operand)(t:TypeId)(ho:o.op= .call {callee:= .builtin .append,args:=#[s,x],argTypes:=#[t,t]})(base:Nat)(e:TypeId)(i:TypeInfo)(z:Value)(size bytes:Nat)(ht:Tryz.prog.underlying t=some (.slice e))(hi:Tryz.prog.info? e=some i)(hz:i.zero=some z)(hsize:i.size=size)(hby:i.bytes=bytes)(hzs:z.cells.size=size)(hsz:0<size)(v:Value)(n:Nat)(xs:List Value)(hs:a.eval s=v)(hown:w.ownsRow base e size v n xs)(ad:Addr)(m c:Nat)(news:List Value)(hx:a.eval x= .slice (some ad) m c)(hl:news.length=m*size)(hnews:∀j u,news[j]?=some u->w.cell? (ad.add j)=some u)(h1:∀u∈news,u.oneCell'=true)(h63:n+m<=maxLen)(hbytes:(n+m)*bytes<=140737488355328)(hbase:base<=w.heap.size)(h:∀v' w',w'.ownsRow base e size v' (n+m) (xs++news)->w.grownBy w' v.ownBlock->(v'= .slice none 0 0↔v= .slice none 0 0/\m=0)->(v'.ownBlock=v.ownBlock\/v'.ownBlock=some w.heap.size)->K (a.put o.dst v') w'):if Region.wanted o (yielded ops a.tmps)=true then Oper.wp Tryz.prog o a w K Q else E:=by have hw:Region.wanted o (yielded ops a.tmps)=true:=by{simp[Region.wanted,hgd]};rw[az hw];obtain⟨v',w',hr,h2,h3,h4,h5⟩:=run_append_own_at (P:=Tryz.prog) w base t o.type e i z size bytes ht hi hz hsize hby hzs hsz v n xs hown ad m c news hl hnews h1 h63 hbytes hbase;unfold Oper.wp execOp;simp only[ho,resolve,invoke,builtin,Sem.run_bind,Sem.run_pure,Result.andThen_ok,List.map_toArray,List.map_cons,List.map_nil,hs,hx,hr];exact h v' w' h2 h3 h4 h5
theorem OD (W W':World)(p q r s t u:Value)(ty:TypeId)(H:Nat)(hH:W.heap.size=H)(hc:∀i,W'.cell? ⟨H,i,none⟩=(W.alloc (.cells #[p,q,r,s,t,u] ty)).cell? ⟨H,i,none⟩):∀j y,[p,q,r,s,t,u][j]?=some y->W'.cell? ((⟨H,0,none⟩:Addr).add j)=some y:=by subst hH;intro j y hy;(have hadd:(⟨W.heap.size,0,none⟩:Addr).add j=⟨W.heap.size,j,none⟩:=by unfold Addr.add;split<;>simp_all);rw[hadd,hc,World.cell?_alloc_at _ _ _ _ rfl];simpa using hy
theorem TX.il{c:LX}(T:TX c W0){out:List (Ln×Int)}(K:MK c W0 W v vg out P):IL W c.ha c.f.b.length c.H/\IL W c.ea c.f.b.length c.E/\SL W c.ba c.f.b.length c.f.b:=
 ⟨T.hH.kept K.fU,T.hE.kept K.fU,T.hS.kept K.fU⟩
theorem MK.line{c:LX}{out:List (Ln×Int)}(K:MK c W0 W v vg out P)(hW:W0.heap.size<=c.B)(hB1:Below W.heap.size W W1)(x:Ln)(la:Option Addr)(ln lc:Nat)(hx:OI W (c.B+1) (.slice la ln lc) x.l)(hap:∀g,(Value.slice la ln lc).ownBlock=some g->vg.ownBlock≠some g/\P g)(vs:List Lv)(hvs:W.ownsRow (c.B+1) 109 6 v out.length (fJ vs)/\vs.length=out.length/\kU W (c.B+1) out.length vs (out.map (·.1))/\∀j,j<out.length->∀g,(vs.getD j jr).2.2.2.2.2.ownBlock=some g->vg.ownBlock≠some g/\P g)(hrow:W2.ownsRow (c.B+1) 109 6 v' (out.length+1) (fJ vs++[.int .i64 x.k, .int .i64 x.d, .int .i64 x.a, .int .i64 x.b, .int .i64 x.n, .slice la ln lc]))(hg:W1.grownBy W2 v.ownBlock)(hat:v'.ownBlock=v.ownBlock\/v'.ownBlock=some W1.heap.size)(tg:Int):Below W0.heap.size W0 (W2.setCell ⟨c.B,0,none⟩ v')/\aX (W2.setCell ⟨c.B,0,none⟩ v') c.B (c.dY v' vg)/\c.B+1<=(W2.setCell ⟨c.B,0,none⟩ v').heap.size/\(∃vs:List Lv,(W2.setCell ⟨c.B,0,none⟩ v').ownsRow (c.B+1) 109 6 v' (out++[(x,tg)]).length (fJ vs)/\vs.length=(out++[(x,tg)]).length/\kU (W2.setCell ⟨c.B,0,none⟩ v') (c.B+1) (out++[(x,tg)]).length vs ((out++[(x,tg)]).map (·.1))/\∀j,j<(out++[(x,tg)]).length->∀g,(vs.getD j jr).2.2.2.2.2.ownBlock=some g->vg.ownBlock≠some g/\P g)/\OI (W2.setCell ⟨c.B,0,none⟩ v') (c.B+1) vg (out.map (·.2))/\FX c v vg v' vg W (W2.setCell ⟨c.B,0,none⟩ v'):=by obtain⟨r1,r2,r3,r4⟩:=hvs;have vB:∀g,v.ownBlock=some g->c.B+1<=g:=fun g hg=>(dO r1 hg).1;have gs:=aC W2 ⟨c.B,0,none⟩ v';have bx1:=K.box.kept hB1;have bx2:=bx1.dZ hg (fun e=>by have:=vB c.B e;omega);have bx3:=bx2.set 0 v';have hint:2≠109:=by{decide};have gB:∀g,vg.ownBlock=some g->c.B+1<=g:=fun g hg=>(dO K.Kj hg).1;have og1:OI W1 (c.B+1) vg (out.map (·.2)):=K.Kj.kept hB1;have r1':=aN r1 hB1;have og2:OI W2 (c.B+1) vg (out.map (·.2)):=eQ og1 hg (fun g e=>gP og1 r1' hint e);have og3:OI (W2.setCell ⟨c.B,0,none⟩ v') (c.B+1) vg (out.map (·.2)):=eQ og2 gs (fun g e=>by have:=gB g e;simp only[ne_eq,af];omega);have t1:=r3.kept hB1;have t2:kU W2 (c.B+1) out.length vs (out.map (·.1)):=t1.dZ hg (fun j hj g e=>gP (t1 j hj).2.2.2.2.2 r1' hint e);have t3:kU (W2.setCell ⟨c.B,0,none⟩ v') (c.B+1) out.length vs (out.map (·.1)):=t2.dZ gs (fun j hj g e=>by have:=(dO (t2 j hj).2.2.2.2.2 e).1;simp only[ne_eq,af];omega);have x1:=hx.kept hB1;have x2:OI W2 (c.B+1) (.slice la ln lc) x.l:=eQ x1 hg (fun g e=>gP x1 r1' hint e);have x3:OI (W2.setCell ⟨c.B,0,none⟩ v') (c.B+1) (.slice la ln lc) x.l:=eQ x2 gs (fun g e=>by have:=(dO x2 e).1;simp only[ne_eq,af];omega);have hr3:=eQ hrow gs (fun g e=>by have:=(dO hrow e).1;simp only[ne_eq,af];omega);have b1:=K.fU.trans (hB1.mono K.fU.size);have b2:=fD b1 hg (fun g e=>by have:=vB g e;omega);have b3:=fD b2 gs (fun g e=>by cases e;exact hW);refine⟨b3,bx3,?_,⟨vs++[(x.k,x.d,x.a,x.b,x.n, .slice la ln lc)],?_,?_,fun j hj=>?_,fun j hj g e=>?_⟩,og3,⟨(gs.os.trans hg.os).trans hB1.os,(gs.tape.trans hg.tape).trans hB1.tape,(gs.output.trans hg.output).trans hB1.output,fH hB1.size (fH hg.size gs.size),fun i hi hb hv hv2=>?_,?_, .inl rfl⟩⟩;{exact fH K.sz (fH hB1.size (fH hg.size gs.size))};{rw[rX,jy,AQ];exact hr3};{rw[jy,jy,r2];rfl};{rw[jy,AQ]at hj;by_cases hjl:j<out.length;{have e1:(vs++[(x.k,x.d,x.a,x.b,x.n,Value.slice la ln lc)]).getD j jr=vs.getD j jr:=by{rw[ah,uJ (by omega),←ah]};have e2:((out++[(x,tg)]).map (·.1)).getD j .z=(out.map (·.1)).getD j .z:=by{rw[oZ,ah,uJ (by simpa using hjl),←ah]};rw[e1,e2];exact t3 j hjl};have ej:j=out.length:=by{omega};have e1:(vs++[(x.k,x.d,x.a,x.b,x.n,Value.slice la ln lc)]).getD j jr=(x.k,x.d,x.a,x.b,x.n,Value.slice la ln lc):=by{rw[ah,qM (by omega),r2,ej];simp};have e2:((out++[(x,tg)]).map (·.1)).getD j .z=x:=by{rw[oZ,ah,qM (by simp;omega)];simp[ej]};rw[e1,e2];exact⟨rfl,rfl,rfl,rfl,rfl,x3⟩};{rw[jy,AQ]at hj;by_cases hjl:j<out.length;{have e1:(vs++[(x.k,x.d,x.a,x.b,x.n,Value.slice la ln lc)]).getD j jr=vs.getD j jr:=by{rw[ah,uJ (by omega),←ah]};rw[e1]at e;exact r4 j hjl g e};have ej:j=out.length:=by{omega};have e1:(vs++[(x.k,x.d,x.a,x.b,x.n,Value.slice la ln lc)]).getD j jr=(x.k,x.d,x.a,x.b,x.n,Value.slice la ln lc):=by{rw[ah,qM (by omega),r2,ej];simp};rw[e1]at e;exact hap g e};{exact(gs.block i (aj hi (fH hB1.size hg.size)) (by simpa using hb)).trans ((hg.block i (aj hi hB1.size) (fun e=>hv e.symm)).trans (hB1.block i hi))};rcases hat with e|e;{exact .inl e};exact .inr ⟨_,e,hB1.size⟩
theorem MK.goal{c:LX}{qJ:Value}{out:List (Ln×Int)}{x:Ln}{tg:Int}(hW:W0.heap.size<=c.B)(hb:Below W0.heap.size W0 W)(hbx:aX W c.B (c.dY v vg))(hsz:c.B+1<=W.heap.size)(hvs:∃vs:List Lv,W.ownsRow (c.B+1) 109 6 v (out++[(x,tg)]).length (fJ vs)/\vs.length=(out++[(x,tg)]).length/\kU W (c.B+1) (out++[(x,tg)]).length vs ((out++[(x,tg)]).map (·.1))/\∀j,j<(out++[(x,tg)]).length->∀g,(vs.getD j jr).2.2.2.2.2.ownBlock=some g->vg.ownBlock≠some g/\P g)(hgo:OI W (c.B+1) vg (out.map (·.2)))(hB1:Below W.heap.size W W1)(hrow:W2.ownsRow (c.B+1) 2 1 qJ (out.length+1) ((out.map (·.2)).map iv++[.int .i64 tg]))(hg:W1.grownBy W2 vg.ownBlock)(hat:qJ.ownBlock=vg.ownBlock\/qJ.ownBlock=some W1.heap.size):MK c W0 (W2.setCell ⟨c.B,1,none⟩ qJ) v qJ (out++[(x,tg)]) P/\FX c v vg v qJ W (W2.setCell ⟨c.B,1,none⟩ qJ):=by obtain⟨vs,r1,r2,r3,r4⟩:=hvs;have gB:∀g,vg.ownBlock=some g->c.B+1<=g:=fun g hg=>(dO hgo hg).1;have gs:=aC W2 ⟨c.B,1,none⟩ qJ;have bx3:=((hbx.kept hB1).dZ hg (fun e=>by have:=gB c.B e;omega)).set 1 qJ;have hint:109≠2:=by{decide};have og1:OI W1 (c.B+1) vg (out.map (·.2)):=hgo.kept hB1;have s1:=aN r1 hB1;have s2:=eQ s1 hg (fun g e=>gP s1 og1 hint e);have s3:=eQ s2 gs (fun g e=>by have:=(dO s2 e).1;simp only[ne_eq,af];omega);have t1:=r3.kept hB1;have t2:=t1.dZ hg (fun j hj g e=>(r4 j hj g e).1);have t3:=t2.dZ gs (fun j hj g e=>by have:=(dO (t2 j hj).2.2.2.2.2 e).1;simp only[ne_eq,af];omega);have hr3:=eQ hrow gs (fun g e=>by have:=(dO hrow e).1;simp only[ne_eq,af];omega);have b1:=hb.trans (hB1.mono hb.size);have b2:=fD b1 hg (fun g e=>by have:=gB g e;omega);have b3:=fD b2 gs (fun g e=>by cases e;exact hW);refine⟨⟨b3,bx3,fH hsz (fH hB1.size (fH hg.size gs.size)),⟨vs,s3,r2,t3,fun j hj g e=>?_⟩,?_⟩,⟨(gs.os.trans hg.os).trans hB1.os,(gs.tape.trans hg.tape).trans hB1.tape,(gs.output.trans hg.output).trans hB1.output,fH hB1.size (fH hg.size gs.size),fun i hi hb hv hv2=>?_, .inl rfl,?_⟩⟩;{rcases hat with e'|e';{rw[e'];exact r4 j hj g e};rw[e'];have:=(dO (t1 j hj).2.2.2.2.2 e).2;refine⟨?_,(r4 j hj g e).2⟩;simp only[ne_eq,af];omega};{show World.ownsRow _ _ _ _ _ _ _;rw[oZ,jy,oZ,iG];exact hr3};{exact(gs.block i (aj hi (fH hB1.size hg.size)) (by simpa using hb)).trans ((hg.block i (aj hi hB1.size) (fun e=>hv2 e.symm)).trans (hB1.block i hi))};rcases hat with e|e;{exact .inl e};exact .inr ⟨_,e,hB1.size⟩
theorem aW (c:LX)(W0 W:World)(v vg:Value)(out:List (Ln×Int))(P:Nat->Prop)(hW:W0.heap.size<=c.B)(K:MK c W0 W v vg out P)(x:Ln)(la:Option Addr)(ln lc:Nat)(hx:OI W (c.B+1) (.slice la ln lc) x.l)(hap:∀g,(Value.slice la ln lc).ownBlock=some g->vg.ownBlock≠some g/\P g)(tg:Int)(hlen:out.length<=1000):Calls Tryz.prog 62 #[.pointer (some ⟨c.B,0,none⟩), .agg #[.int .i64 x.k, .int .i64 x.d, .int .i64 x.a, .int .i64 x.b, .int .i64 x.n, .slice la ln lc], .int .i64 tg] W fun e w'=>∃v' qJ,e= .returned (.tuple #[])/\MK c W0 w' v' qJ (out++[(x,tg)]) P/\FX c v vg v' qJ W w':=by obtain⟨i0,hi,hz0,hz1,hz2⟩:=lT Ot;obtain⟨j0,hj,hy0,hy1,hy2⟩:=lT bT;have hB1:=aB W (.cells #[.int .i64 x.k, .int .i64 x.d, .int .i64 x.a, .int .i64 x.b, .int .i64 x.n, .slice la ln lc] 109);have hB2:=hB1.trans ((aB _ (.cells #[.int .i64 x.k, .int .i64 x.d, .int .i64 x.a, .int .i64 x.b, .int .i64 x.n, .slice la ln lc] 109)).mono hB1.size);have hB3:=hB2.trans ((eG _ _).drew.mono hB2.size);obtain⟨vs,hvs⟩:=K.row;obtain⟨av,cv,rfl⟩:=bP hvs.1;have hgo:W.ownsRow (c.B+1) 2 1 vg out.length ((out.map (·.2)).map iv):=by{have:=K.Kj;unfold OI at this;rwa [iG]at this};obtain⟨ag,cg,rfl⟩:=bP hgo;have hr2:=aN (aN hvs.1 hB2) (eG _ _).drew;have hb0:=K.box;have hb2:=(K.box.kept hB2).kept (eG _ _).drew;have d0:=(hb0.2 0 _ rfl).1;have hvB:∀g,(Value.slice av out.length cv).ownBlock=some g->c.B+1<=g:=fun g hg=>(dO hvs.1 hg).1;have HRW:=ae hr2;have HB:=ae hb2;have HK:=ae (ak K (ak hvs (ak hx (ak hap hB3))));have hsz:c.B<W.heap.size:=K.sz;clear hb0 hb2 hr2 hB1 hB2 hB3 hvs K hx hap hgo;go_enter Tryz.func62,Tryz.ntmps62;go_wp2;go_region_law (refine Js _ rfl (.tmp 10) (.tmp 12) 67 rfl (c.B+1) 109 i0 (.agg #[.int .i64 0, .int .i64 0, .int .i64 0, .int .i64 0, .int .i64 0, .slice none 0 0]) 6 64 Tryz.underlying67 hi hz0 hz1 hz2 rfl (by decide) (.slice av out.length cv) out.length (fJ vs) (by simp[Act.eval]) HRW.out ⟨W.heap.size+1,0,none⟩ 1 1 [.int .i64 x.k, .int .i64 x.d, .int .i64 x.a, .int .i64 x.b, .int .i64 x.n, .slice la ln lc] (by simp[Act.eval]) rfl (OD (W.alloc (.cells #[.int .i64 x.k, .int .i64 x.d, .int .i64 x.a, .int .i64 x.b, .int .i64 x.n, .slice la ln lc] 109)) _ _ _ _ _ _ _ 109 _ (by simp) (fun i=>rfl)) (by simp[Value.oneCell']) (by simp only[maxLen];omega) (by omega) (by simp;omega) ?_;intro v' wA hown' hgrow _ hat;obtain⟨g',cap',rfl⟩:=qF hown';have pQ:=HB.out.dZ hgrow (fun e=>by have:=hvB c.B e;omega);have cA:=(pQ.2 0 _ rfl).1;have fA:=(pQ.2 0 _ rfl).2;have pO:=ae (ak hown' (ak hgrow hat));have lA:=pQ.1;clear hown' hgrow pQ hat);all_goals have hM:=MK.line HK.out.1 hW HK.out.2.2.2.2 x la ln lc HK.out.2.2.1 HK.out.2.2.2.1 vs HK.out.2.1 pO.out.1 pO.out.2.1 pO.out.2.2 tg;clear pO HRW HB cA fA lA;generalize hW3:wA.setCell ⟨c.B,0,none⟩ (.slice (some ⟨g',0,none⟩) (out.length+1) cap')=W3 at hM;obtain⟨m1,m2,m3,m4,m5,m6⟩:=hM;have c1:=(m2.2 1 _ rfl).1;have f1:=(m2.2 1 _ rfl).2;have l3:c.B<W3.heap.size:=m3;have vz:=aB W3 (.cells #[.int .i64 tg] 2);have o4:(W3.alloc (.cells #[.int .i64 tg] 2)).ownsRow (c.B+1) 2 1 (.slice ag out.length cg) out.length ((out.map (·.2)).map iv):=by{have:=m5.kept vz;unfold OI at this;rwa [iG]at this};have hgB:∀g,(Value.slice ag out.length cg).ownBlock=some g->c.B+1<=g:=fun g hg=>(dO o4 hg).1;have b4:=m2.kept vz;have HO4:=ae o4;have WG:=ae b4;have HM:=ae (ak m1 (ak m2 (ak m3 (ak m4 (ak m5 (ak m6 vz))))));clear m1 m2 m3 m4 m5 m6 o4 b4 vz;go_wp2_with(at_builtin;refine wpList_append_own_at _ rfl _ _ 27 rfl (c.B+1) 2 j0 (.int .i64 0) 1 8 Tryz.underlying27 hj hy0 hy1 hy2 rfl (by decide) (.slice ag out.length cg) out.length _ rfl HO4.out ⟨W3.heap.size,0,none⟩ 1 1 [.int .i64 tg] rfl rfl (cell_one_new _ _ _) (by simp[Value.oneCell']) (by simp only[maxLen];omega) (by omega) (by simp;omega) ?_;intro v2 wB hown2 hgrow2 _ G8;obtain⟨g2,cap2,rfl⟩:=qF hown2;have hbB:=WG.out.dZ hgrow2 (fun e=>by have:=hgB c.B e;omega);have cB:=(hbB.2 1 _ rfl).1;have fB:=(hbB.2 1 _ rfl).2;have oN:=ae (ak hown2 (ak hgrow2 G8));have lB:=hbB.1;clear hown2 hgrow2 hbB G8);(try simp only[Exit.inBlock,Exit.then]);obtain⟨m1,m2,m3,m4,m5,m6,vz⟩:=HM.out;have hF:=MK.goal hW m1 m2 m3 m4 m5 vz oN.out.1 oN.out.2.1 oN.out.2.2;refine fG (fE rfl _ _ _) rfl ⟨_,_,rfl,hF.1,m6.trans hF.2⟩
theorem mW{c:LX}{out:List (Ln×Int)}(T:TX c W0)(K:MK c W0 W v vg out P)(h:Int)(h1:-100<=h)(h2:h<=100):Calls Tryz.prog 96 #[.pointer (some ⟨c.B,0,none⟩), .int .i64 h] W fun e w'=>e= .returned (.int .i64 (Lw.bx c.f h))/\w'=W:=by have d2:=(K.box.2 2 _ rfl).1;have hok:=T.ok;have HW:Hid (Lw.bx c.f h=Lw.wd c.f+h):=rfl;have hw1:0<=Lw.wd c.f/\Lw.wd c.f<=6:=by{unfold Lw.wd;omega};generalize Lw.wd c.f=u at d2 HW hw1;clear T K hok;go_enter Tryz.func96,Tryz.ntmps96;go_wp2;go_ret;exact⟨by rw[HW.out]<;>rfl,rfl⟩
theorem Lw.tu{f:Fn}{dp:Int}{t:Nat}(hlt:dp.toNat<(aM.dK f.b E n n).length)(ht:(aM.dK f.b E n n).getD dp.toNat (-1)=(t:Int)):Lw.fM f E H n dp=if aM.op f.b t=9 then((t:Int)+1,0,0)else if aM.op f.b t=10 then(aM.aI E t,Lw.bx f (H.getD t 0-1),Hg.arg f.b t)else(aM.aI E t,Lw.bx f (H.getD t 0),Hg.arg f.b t):=by unfold Lw.fM;rw[az hlt,ht];rfl
theorem Lw.vL{f:Fn}{dp:Int}(hlt:¬dp.toNat<(aM.dK f.b E n n).length):Lw.fM f E H n dp=((f.b.length:Int)-1,Lw.bx f 0,f.g):=by unfold Lw.fM;rw[ax hlt]
theorem bA{p:Addr}(hB:Below W.heap.size W W')(h:W.cell? p=some v):W'.cell? p=some v:=(hB.cell (p:=p) (World.block_lt_of_cell? _ _ h)).trans h
theorem aM.wY (xs:List (Int×Int))(E:List Int)(a:Int):∀k,(aM.dK xs E a k).length<=k
 |0=>bI _
 | k+1=>by
   have:=aM.wY xs E a k
   unfold aM.dK
   split
   · rw[oK];omega
   · omega
theorem ny{c:LX}{out:List (Ln×Int)}(T:TX c W0)(K:MK c W0 W v vg out P)(at':Nat)(hat:at'<c.f.b.length)(dp:Int)(h0:0<=dp)(h9:dp<=99)
   (hJ:∀t:Nat,dp.toNat<(aM.dK c.f.b c.E at' at').length->(aM.dK c.f.b c.E at' at').getD dp.toNat (-1)=(t:Int)->0<=c.H.getD t 0):
   Calls Tryz.prog 97 #[.pointer (some ⟨c.B,0,none⟩), .int .i64 at', .int .i64 dp] W fun e w'=>
     e= .returned (.tuple #[.int .i64 (Lw.fM c.f c.E c.H at' dp).1, .int .i64 (Lw.fM c.f c.E c.H at' dp).2.1, .int .i64 (Lw.fM c.f c.E c.H at' dp).2.2])/\Below W.heap.size W w':=by
 obtain⟨hH,hE,hS⟩:=T.il K
 have hLen:=T.ok.2.2.2.2.2
 have hall:=T.all
 have ahJ:=T.acc.Mq
 have htop:=T.acc.dU
 obtain⟨bl,hbl⟩:∃n,c.f.b.length=n:=⟨_,rfl⟩
 have hbx:=K.box
 unfold LX.dY at hbx
 rw[hbl]at hH hE hS hLen hat htop hbx
 have d4:=(hbx.2 4 _ rfl).1
 have d5:=(hbx.2 5 _ rfl).1
 have TQ:=hbx.1
 have e4:∀p:bK W,p.to.cell? ⟨c.B,4,none⟩=some (.slice c.ea bl c.ec):=fun p=>(p.h.cell (p:=⟨c.B,4,none⟩) TQ).trans d4
 have e5:∀p:bK W,p.to.cell? ⟨c.B,5,none⟩=some (.slice c.ba bl c.bc):=fun p=>(p.h.cell (p:=⟨c.B,5,none⟩) TQ).trans d5
 have hne:=bK.any W
 have HT:=ae (ak T (ak K (ak hbl (ak hbx (ak htop ahJ)))))
 have hcon:=fun(W':World) (hB:Below W.heap.size W W')=>qH c.ba bl c.bc c.f.b hLen hall c.ea c.ec c.E at' hat W' (hS.kept hB) (hE.kept hB)
 clear hbx htop ahJ hall d4 d5
 have hal:=aM.wY c.f.b c.E at' at'
 obtain⟨A,hAr⟩:=aF (aM.dK c.f.b c.E at' at')
 have harm:=fun i hi=>aM.Dx (i:=i) HT.out.2.2.2.2.2 hAr hi
 have HLa:=ae (ak (fun(t:Nat) h1 h2=>Lw.tu (f:=c.f) (E:=c.E) (H:=c.H) (n:=at') (dp:=dp) (t:=t) h1 h2) (fun h1=>Lw.vL (f:=c.f) (E:=c.E) (H:=c.H) (n:=at') (dp:=dp) h1))
 rw[hAr]at hal HLa
 simp only[hAr]at hJ hcon
 obtain⟨L,hL⟩:=aF (Lw.fM c.f c.E c.H at' dp)
 rw[hL]at HLa ⊢
 clear hL hAr
 go_enter Tryz.func97,Tryz.ntmps97
 go_wp2
 refine aT 9 (by kernel_rfl) (by kernel_rfl) ?_
 simp only[lV,jV,nJ,nK]
 repeat(go_big_quiet_step (fail))
 refine nD ?_
 rintro _⟨pw,rfl⟩
 have hBp:=pw.h
 have gY:=hcon _ hBp
 obtain⟨W1,hW1⟩:=aF (pw.to)
 rw[hW1]at gY hBp ⊢
 clear hcon hW1 e4 e5 hne
 go_wp2_with fail
 refine gY.mono ?_
 rintro e w1⟨v1,rfl,hoi,hB1⟩
 dsimp only
 obtain⟨a1,c1,rfl,Ae⟩:=hoi.slice
 have hB2:=hBp.trans (hB1.mono hBp.size)
 have hK1:=HT.out.2.1.kept hB2
 have hbx:=hK1.box
 unfold LX.dY at hbx
 rw[HT.out.2.2.1]at hbx
 have d2:=(hbx.2 2 _ rfl).1
 have d3:=(hbx.2 3 _ rfl).1
 have d4:=(hbx.2 4 _ rfl).1
 have d5:=(hbx.2 5 _ rfl).1
 have d6:=(hbx.2 6 _ rfl).1
 have TQ:=hbx.1
 have hS1:=hS.kept hB2
 have hE1:=hE.kept hB2
 have hH1:=hH.kept hB2
 have HB:=ae hB2
 have bq:=ae (fun(p:bK w1) (h:Int) h1 h2=>mW HT.out.1 (hK1.kept p.h) h h1 h2)
 have hne:=bK.any w1
 clear hoi hbx gY hB1 hB2 hBp hS hE hH
 by_cases hlt:dp.toNat<A.length
 · obtain⟨t,et,htl,hEt,-⟩:=harm dp.toNat hlt
   have hge:¬((A.length:Int)<=dp):=by omega
   have htn:t<bl:=by omega
   have hxt:A.getD dp.toNat 0=(t:Int):=by
     rw[←et]
     unfold aM.aI
     rw[ah,ah,ai hlt]
     rfl
   have hdt:A.getD dp.toNat (-1)=(t:Int):=et
   have cA:∃ab ao,a1=some ⟨ab,ao,none⟩/\w1.cell? ⟨ab,ao+dp.toNat,none⟩=some (.int .i64 t):=by
     obtain⟨-,-,h3|⟨b,o,rfl,-,hh⟩⟩:=Ae
     · omega
     · exact⟨b,o,rfl,by rw[hh dp.toNat hlt,hxt]⟩
   obtain⟨ab,ao,rfl,cA⟩:=cA
   have cE:∃b o,c.ea=some ⟨b,o,none⟩/\b<w1.heap.size/\w1.cell? ⟨b,o+t,none⟩=some (.int .i64 (aM.aI c.E t)):=by
     obtain⟨hl,-,h3|⟨b,o,e,hb,hh⟩⟩:=hE1
     · omega
     · refine⟨b,o,e,hb,?_⟩
       rw[hh t htn]
       unfold aM.aI
       rw[ah,ah,ai (by omega)]
       rfl
   obtain⟨eb,eo,ee,lE,cE⟩:=cE
   have cH:∃b o,c.ha=some ⟨b,o,none⟩/\b<w1.heap.size/\w1.cell? ⟨b,o+t,none⟩=some (.int .i64 (c.H.getD t 0)):=by
     obtain⟨hl,-,h3|⟨b,o,e,hb,hh⟩⟩:=hH1
     · omega
     · exact⟨b,o,e,hb,hh t htn⟩
   obtain⟨hb',ho',eh,lH,cH⟩:=cH
   have cS:∃b o,c.ba=some ⟨b,o,none⟩/\b<w1.heap.size/\w1.cell? ⟨b,o+t*2,none⟩=some (.int .i64 (aM.op c.f.b t))/\w1.cell? ⟨b,o+t*2+1,none⟩=some (.int .i64 (Hg.arg c.f.b t)):=by
     obtain⟨hl,-,h3|⟨b,o,e,hb,hh⟩⟩:=hS1
     · omega
     · exact⟨b,o,e,hb,(hh t htn).1,(hh t htn).2⟩
   obtain⟨sb,so,es,lS,Mr,cS2⟩:=cS
   have HL:Hid (L=if aM.op c.f.b t=9 then((t:Int)+1,0,0)else if aM.op c.f.b t=10 then(aM.aI c.E t,Lw.bx c.f (c.H.getD t 0-1),Hg.arg c.f.b t)else(aM.aI c.E t,Lw.bx c.f (c.H.getD t 0),Hg.arg c.f.b t)):=HLa.out.1 t hlt hdt
   have hHb:c.H.getD t 0<=20:=HT.out.2.2.2.2.1 t htn
   have hHl:0<=c.H.getD t 0:=hJ t hlt hdt
   obtain⟨p,hp⟩:=aF (aM.op c.f.b t)
   obtain⟨q,hq⟩:=aF (Hg.arg c.f.b t)
   obtain⟨u,hu⟩:=aF (c.H.getD t 0)
   obtain⟨z,hz⟩:=aF (aM.aI c.E t)
   rw[hp,hq,hu,hz]at HL
   rw[hp]at Mr
   rw[hq]at cS2
   rw[hu]at cH hHb hHl
   rw[hz]at cE
   have HX1:=ae (fun(pz:bK w1)=>bq.out pz (u-1) (by omega) (by omega))
   have HX2:=ae (fun(pz:bK w1)=>bq.out pz u (by omega) (by omega))
   obtain⟨b1,hb1⟩:=aF (Lw.bx c.f (u-1))
   obtain⟨b2,hb2⟩:=aF (Lw.bx c.f u)
   rw[hb1]at HX1 HL
   rw[hb2]at HX2 HL
   obtain⟨dn,hdn⟩:=Cj h0
   subst hdn
   rw[aA]at cA hlt
   have hdZ:(dn:Int)<(A.length:Int):=by omega
   have htZ:(t:Int)<(bl:Int):=by omega
   rw[eh]at d3
   rw[ee]at d4
   rw[es]at d5
   have g3:∀p:bK w1,p.to.cell? ⟨c.B,3,none⟩=some (.slice (some ⟨hb',ho',none⟩) bl c.hc):=fun p=>(p.h.cell (p:=⟨c.B,3,none⟩) TQ).trans d3
   have g4:∀p:bK w1,p.to.cell? ⟨c.B,4,none⟩=some (.slice (some ⟨eb,eo,none⟩) bl c.ec):=fun p=>(p.h.cell (p:=⟨c.B,4,none⟩) TQ).trans d4
   have g5:∀p:bK w1,p.to.cell? ⟨c.B,5,none⟩=some (.slice (some ⟨sb,so,none⟩) bl c.bc):=fun p=>(p.h.cell (p:=⟨c.B,5,none⟩) TQ).trans d5
   have gE:∀p:bK w1,p.to.cell? ⟨eb,eo+t,none⟩=some (.int .i64 z):=fun p=>(p.h.cell (p:=⟨eb,eo+t,none⟩) lE).trans cE
   have gH:∀p:bK w1,p.to.cell? ⟨hb',ho'+t,none⟩=some (.int .i64 u):=fun p=>(p.h.cell (p:=⟨hb',ho'+t,none⟩) lH).trans cH
   have gS:∀pz:bK w1,pz.to.cell? ⟨sb,so+t*2+1,none⟩=some (.int .i64 q):=fun pz=>(pz.h.cell (p:=⟨sb,so+t*2+1,none⟩) lS).trans cS2
   obtain⟨al,TR⟩:=aF (A.length)
   rw[TR]at hdZ hlt hge hal ⊢
   clear harm Ae hS1 hE1 hH1 hxt hdt et hp hq hu hz hb1 hb2 TR hJ HLa ee eh es d2 d6
   by_cases h9':p=9
   · subst h9'
     clear g3 g4 g5 gE gH gS
     go_wp2
     go_ret3
     exact⟨by rw[HL.out];rfl,HB.out⟩
   · by_cases h10:p=10
     · subst h10
       go_wp2
       refine bV (by kernel_rfl) (by kernel_rfl) ?_
       repeat(go_big_quiet_step (first|exact lX (HX1.out _)))
       refine nD ?_
       rintro _⟨pz,rfl⟩
       have hBz:=pz.h
       clear g3 g4 g5 gE gH gS
       generalize pz.to=w7 at*
       go_wp2
       go_ret3
       exact⟨by rw[HL.out];rfl,HB.out.trans (hBz.mono HB.out.size)⟩
     · have e9:(p==9)=false:=by simpa using h9'
       have e10:(p==10)=false:=by simpa using h10
       go_wp2
       refine bV (by kernel_rfl) (by kernel_rfl) ?_
       repeat(go_big_quiet_step (first|exact lX (HX2.out _)))
       refine nD ?_
       rintro _⟨pz,rfl⟩
       have hBz:=pz.h
       clear g3 g4 g5 gE gH gS
       generalize pz.to=w7 at*
       go_wp2
       go_ret3
       exact⟨by rw[HL.out,ax h9',ax h10];rfl,HB.out.trans (hBz.mono HB.out.size)⟩
 · have hge:(A.length:Int)<=dp:=by omega
   have HL:Hid (L=((bl:Int)-1,Lw.bx c.f 0,c.f.g)):=by
     show _=_
     rw[HLa.out.2 hlt,HT.out.2.2.1]
   have HX0:=ae (fun(p:bK w1)=>bq.out p 0 (by omega) (by omega))
   have g5:∀p:bK w1,p.to.cell? ⟨c.B,5,none⟩=some (.slice c.ba bl c.bc):=fun p=>(p.h.cell (p:=⟨c.B,5,none⟩) TQ).trans d5
   have g6:∀p:bK w1,p.to.cell? ⟨c.B,6,none⟩=some (.int .i64 c.f.g):=fun p=>(p.h.cell (p:=⟨c.B,6,none⟩) TQ).trans d6
   obtain⟨bz,hbz⟩:=aF (Lw.bx c.f 0)
   rw[hbz]at HL HX0
   clear harm Ae hS1 hE1 hH1 hJ hal hbz d2 d3 d4 d5 d6
   go_wp2
   refine bV (by kernel_rfl) (by kernel_rfl) ?_
   repeat(go_big_quiet_step (first|exact lX (HX0.out _)))
   refine nD ?_
   rintro _⟨pz,rfl⟩
   have hBz:=pz.h
   generalize pz.to=w7 at*
   go_wp2
   go_ret3
   exact⟨by rw[HL.out];rfl,HB.out.trans (hBz.mono HB.out.size)⟩
theorem af6{c:LX}{out:List (Ln×Int)}(T:TX c W0)(K:MK c W0 W v vg out P)(fa:Option Addr)(fl fc:Nat)(d:ByteArray)(oa:Option Addr)(oc:Nat)(hF:FL W0 fa fl c.fs)(hO:IL W0 oa c.f.b.length c.O)(at':Nat)(hat:at'<c.f.b.length)(hr:0<=c.H.getD at' 0)(hlen:out.length<=900)(p:Int)(hp:aM.op c.f.b at'=p)(hk:p=7\/p=8\/p=9\/p=12\/p=20\/p=1\/p=2\/p=3\/p=4\/p=5\/p=6\/p=17\/p=18\/p=19):Calls Tryz.prog 63 #[.pointer (some ⟨c.B,0,none⟩), .agg #[.slice fa fl fc, .string d], .slice oa c.f.b.length oc, .int .i64 at'] W fun e w'=>∃v' qJ,e= .returned (.tuple #[])/\MK c W0 w' v' qJ (out++Lw.step c.fs c.f c.E c.O c.H at') (fun g=>P g\/W.heap.size<=g)/\FX c v vg v' qJ W w':=by have hty:=T.acc.typ at' hat hr;obtain⟨hH,hE,hS⟩:=T.il K;have TS:=hO.kept K.fU;have hF1:=hF.kept K.fU;have hLen:=T.ok.2.2.2.2.2;have htop:=T.acc.dU at' hat;have hW:=T.lt;have hwd:0<=Lw.wd c.f/\Lw.wd c.f<=6:=by{have:=T.ok;unfold Lw.wd;omega};have HST:Hid (Lw.step c.fs c.f c.E c.O c.H at'=Lw.vo c.fs c.f c.E c.O c.H at' p (Hg.arg c.f.b at') (Lw.bx c.f (c.H.getD at' 0-1))):=by{show _=_;unfold Lw.step;rw[hp]};have hbx0:=K.box;unfold LX.dY at hbx0;obtain⟨bl,hbl⟩:∃n,c.f.b.length=n:=⟨_,rfl⟩;rw[hbl]at hH hE hS TS hLen hat hbx0 ⊢;have nE:(at':Int)<(bl:Int):=by{omega};have cS:∃b o,c.ba=some ⟨b,o,none⟩/\b<W.heap.size/\W.cell? ⟨b,o+at'*2,none⟩=some (.int .i64 (aM.op c.f.b at'))/\W.cell? ⟨b,o+at'*2+1,none⟩=some (.int .i64 (Hg.arg c.f.b at')):=by{obtain⟨hl,-,h3|⟨b,o,e,hb,hh⟩⟩:=hS;{omega};exact⟨b,o,e,hb,(hh at' hat).1,(hh at' hat).2⟩};obtain⟨sb,so,es,lS,Mr,cS2⟩:=cS;have cH:∃b o,c.ha=some ⟨b,o,none⟩/\b<W.heap.size/\W.cell? ⟨b,o+at',none⟩=some (.int .i64 (c.H.getD at' 0)):=by{obtain⟨hl,-,h3|⟨b,o,e,hb,hh⟩⟩:=hH;{omega};exact⟨b,o,e,hb,hh at' hat⟩};obtain⟨hb',ho',eh,lH,cH⟩:=cH;have cE:∃b o,c.ea=some ⟨b,o,none⟩/\b<W.heap.size/\W.cell? ⟨b,o+at',none⟩=some (.int .i64 (aM.aI c.E at')):=by{obtain⟨hl,-,h3|⟨b,o,e,hb,hh⟩⟩:=hE;{omega};refine⟨b,o,e,hb,?_⟩;rw[hh at' hat];unfold aM.aI;rw[ah,ah,ai (by omega)];rfl};obtain⟨eb,eo,ee,lE,cE⟩:=cE;have cO:∃b o,oa=some ⟨b,o,none⟩/\b<W.heap.size/\W.cell? ⟨b,o+at',none⟩=some (.int .i64 (aM.aI c.O at')):=by{obtain⟨hl,-,h3|⟨b,o,e,hb,hh⟩⟩:=TS;{omega};refine⟨b,o,e,hb,?_⟩;rw[hh at' hat];unfold aM.aI;rw[ah,ah,ai (by omega)];rfl};obtain⟨ob,oo,rfl,lO,cO⟩:=cO;rw[hp]at Mr;obtain⟨q,hq⟩:=aF (Hg.arg c.f.b at');obtain⟨u,hu⟩:=aF (c.H.getD at' 0);rw[hq]at cS2 HST;rw[hu]at cH htop hr HST;have d2:=(hbx0.2 2 _ rfl).1;have d3:=(hbx0.2 3 _ rfl).1;have d4:=(hbx0.2 4 _ rfl).1;have d5:=(hbx0.2 5 _ rfl).1;have TQ:=hbx0.1;rw[eh]at d3;rw[ee]at d4;rw[es]at d5;have hB1:=aB W (.cells #[.slice fa fl fc, .string d] 26);have hA1:dG (W.alloc (.cells #[.slice fa fl fc, .string d] 26)) W.heap.size 26 [.slice fa fl fc, .string d]:=qo W _;obtain⟨W1,hW1⟩:∃X,W.alloc (.cells #[.slice fa fl fc, .string d] 26)=X:=⟨_,rfl⟩;rw[hW1]at hB1 hA1;have hB2:=aB W1 (.cells #[.int .i64 (p), .int .i64 q] 95);have hA2:dG (W1.alloc (.cells #[.int .i64 (p), .int .i64 q] 95)) W1.heap.size 95 [.int .i64 (p), .int .i64 q]:=qo W1 _;obtain⟨W2,hW2⟩:∃X,W1.alloc (.cells #[.int .i64 (p), .int .i64 q] 95)=X:=⟨_,rfl⟩;rw[hW2]at hB2 hA2;have hB:=hB1.trans (hB2.mono hB1.size);have K2:=K.kept hB;have mO:=hA1.kept hB2;have hcon:=mW T K2 (u-1) (by omega) (by omega);have htt:-1<=Lw.bx c.f (u-1)/\Lw.bx c.f (u-1)<=26:=by{unfold Lw.bx;omega};obtain⟨tt,Kk⟩:=aF (Lw.bx c.f (u-1));rw[Kk]at hcon htt HST;have c3:=bA hB1 d3;have k3:=bA hB d3;have k4:=bA hB d4;have c5:=bA hB1 d5;have c6:=bA hB1 Mr;have c7:=bA hB1 cS2;have c8:=bA hB cH;have AL:=bA hB cE;have AO:=bA hB cO;have k2:=bA hB d2;have s0:=hA2.cell (j:=0) rfl;have s1:=hA2.cell (j:=1) rfl;have m0:=mO.cell (j:=0) rfl;have F0:FX c v vg v vg W W2:=FX.below hB;have hF2:=hF1.kept hB;have HQ:=ae (ak hp (ak hq (ak hbl (ak hu hty))));clear hH hE hS hO TS hF hF1 d2 d3 d4 d5 Mr cS2 cH cE cO hbx0 hA1 hB1 hB2 K hu Kk hp hq hbl;go_enter Tryz.func63,Tryz.ntmps63;go_wp2_with fail;refine hcon.mono ?_;rintro e w3⟨rfl,dC⟩;subst w3;dsimp only;clear hcon;rcases hk with rfl|rfl|rfl|rfl|rfl|rfl|rfl|rfl|rfl|rfl|rfl|rfl|rfl|rfl;{replace HST:Hid (Lw.step c.fs c.f c.E c.O c.H at'=[]):=HST;clear c3 k3 k4 c5 c6 c7 c8 AL AO k2 m0 mO hA2 hW1 hW2 hty hF2;go_wp2;(try simp only[Exit.inBlock,Exit.then]);refine fG (fE rfl _ _ _) rfl ⟨v,vg,rfl,?_,F0⟩;rw[HST.out];refine MK.jG ?_ (fun g h=> .inl h);simpa[oJ]using K2};{replace HST:Hid (Lw.step c.fs c.f c.E c.O c.H at'=[]):=HST;clear c3 k3 k4 c5 c6 c7 c8 AL AO k2 m0 mO hA2 hW1 hW2 hty hF2;go_wp2;(try simp only[Exit.inBlock,Exit.then]);refine fG (fE rfl _ _ _) rfl ⟨v,vg,rfl,?_,F0⟩;rw[HST.out];refine MK.jG ?_ (fun g h=> .inl h);simpa[oJ]using K2};{replace HST:Hid (Lw.step c.fs c.f c.E c.O c.H at'=[]):=HST;clear c3 k3 k4 c5 c6 c7 c8 AL AO k2 m0 mO hA2 hW1 hW2 hty hF2;go_wp2;(try simp only[Exit.inBlock,Exit.then]);refine fG (fE rfl _ _ _) rfl ⟨v,vg,rfl,?_,F0⟩;rw[HST.out];refine MK.jG ?_ (fun g h=> .inl h);simpa[oJ]using K2};{replace HST:Hid (Lw.step c.fs c.f c.E c.O c.H at'=[]):=HST;clear c3 k3 k4 c5 c6 c7 c8 AL AO k2 m0 mO hA2 hW1 hW2 hty hF2;go_wp2;(try simp only[Exit.inBlock,Exit.then]);refine fG (fE rfl _ _ _) rfl ⟨v,vg,rfl,?_,F0⟩;rw[HST.out];refine MK.jG ?_ (fun g h=> .inl h);simpa[oJ]using K2};{replace HST:Hid (Lw.step c.fs c.f c.E c.O c.H at'=[]):=HST;clear c3 k3 k4 c5 c6 c7 c8 AL AO k2 m0 mO hA2 hW1 hW2 hty hF2;go_wp2;(try simp only[Exit.inBlock,Exit.then]);refine fG (fE rfl _ _ _) rfl ⟨v,vg,rfl,?_,F0⟩;rw[HST.out];refine MK.jG ?_ (fun g h=> .inl h);simpa[oJ]using K2};{replace HST:Hid (Lw.step c.fs c.f c.E c.O c.H at'=[(⟨1,tt+1,0,0,q,[]⟩,-1)]):=HST;clear c3 k3 k4 c5 c6 c7 c8 AL AO k2 m0 mO hA2 hW1 hW2 hty hF2;go_wp2_with fail;refine(aW c W0 W2 v vg (out) P hW K2 ⟨1,tt+1,0,0,q,[]⟩ none 0 0 (OI.nil _ _) (fun g e=>by cases e) (-1) (by omega)).mono ?_;rintro e X1⟨v1,mJ,rfl,K1,F1⟩;dsimp only;clear s0 s1;have G1:=F0.trans F1;clear K2 F1 F0;go_wp2;(try simp only[Exit.inBlock,Exit.then]);refine fG (fE rfl _ _ _) rfl ⟨v1,mJ,rfl,?_,G1⟩;rw[HST.out];refine MK.jG ?_ (fun g h=> .inl h);simpa[oJ]using K1};{replace HST:Hid (Lw.step c.fs c.f c.E c.O c.H at'=[(⟨2,tt+1,q,0,0,[]⟩,-1)]):=HST;clear c3 k3 k4 c5 c6 c7 c8 AL AO k2 m0 mO hA2 hW1 hW2 hty hF2;go_wp2_with fail;refine(aW c W0 W2 v vg (out) P hW K2 ⟨2,tt+1,q,0,0,[]⟩ none 0 0 (OI.nil _ _) (fun g e=>by cases e) (-1) (by omega)).mono ?_;rintro e X1⟨v1,mJ,rfl,K1,F1⟩;dsimp only;clear s0 s1;have G1:=F0.trans F1;clear K2 F1 F0;go_wp2;(try simp only[Exit.inBlock,Exit.then]);refine fG (fE rfl _ _ _) rfl ⟨v1,mJ,rfl,?_,G1⟩;rw[HST.out];refine MK.jG ?_ (fun g h=> .inl h);simpa[oJ]using K1};{replace HST:Hid (Lw.step c.fs c.f c.E c.O c.H at'=[(⟨2,q,tt,0,0,[]⟩,-1)]):=HST;clear c3 k3 k4 c5 c6 c7 c8 AL AO k2 m0 mO hA2 hW1 hW2 hty hF2;go_wp2_with fail;refine(aW c W0 W2 v vg (out) P hW K2 ⟨2,q,tt,0,0,[]⟩ none 0 0 (OI.nil _ _) (fun g e=>by cases e) (-1) (by omega)).mono ?_;rintro e X1⟨v1,mJ,rfl,K1,F1⟩;dsimp only;clear s0 s1;have G1:=F0.trans F1;clear K2 F1 F0;go_wp2;(try simp only[Exit.inBlock,Exit.then]);refine fG (fE rfl _ _ _) rfl ⟨v1,mJ,rfl,?_,G1⟩;rw[HST.out];refine MK.jG ?_ (fun g h=> .inl h);simpa[oJ]using K1};{replace HST:Hid (Lw.step c.fs c.f c.E c.O c.H at'=[(⟨2,q,tt,0,0,[]⟩,-1)]):=HST;clear c3 k3 k4 c5 c6 c7 c8 AL AO k2 m0 mO hA2 hW1 hW2 hty hF2;go_wp2_with fail;refine(aW c W0 W2 v vg (out) P hW K2 ⟨2,q,tt,0,0,[]⟩ none 0 0 (OI.nil _ _) (fun g e=>by cases e) (-1) (by omega)).mono ?_;rintro e X1⟨v1,mJ,rfl,K1,F1⟩;dsimp only;clear s0 s1;have G1:=F0.trans F1;clear K2 F1 F0;go_wp2;(try simp only[Exit.inBlock,Exit.then]);refine fG (fE rfl _ _ _) rfl ⟨v1,mJ,rfl,?_,G1⟩;rw[HST.out];refine MK.jG ?_ (fun g h=> .inl h);simpa[oJ]using K1};{replace HST:Hid (Lw.step c.fs c.f c.E c.O c.H at'=[(⟨3,tt-1,tt-1,tt,q,[]⟩,-1)]):=HST;clear c3 k3 k4 c5 c6 c7 c8 AL AO k2 m0 mO hA2 hW1 hW2 hty hF2;go_wp2_with fail;refine(aW c W0 W2 v vg (out) P hW K2 ⟨3,tt-1,tt-1,tt,q,[]⟩ none 0 0 (OI.nil _ _) (fun g e=>by cases e) (-1) (by omega)).mono ?_;rintro e X1⟨v1,mJ,rfl,K1,F1⟩;dsimp only;clear s0 s1;have G1:=F0.trans F1;clear K2 F1 F0;go_wp2;(try simp only[Exit.inBlock,Exit.then]);refine fG (fE rfl _ _ _) rfl ⟨v1,mJ,rfl,?_,G1⟩;rw[HST.out];refine MK.jG ?_ (fun g h=> .inl h);simpa[oJ]using K1};{replace HST:Hid (Lw.step c.fs c.f c.E c.O c.H at'=[(⟨4,tt,tt,0,0,[]⟩,-1)]):=HST;clear c3 k3 k4 c5 c6 c7 c8 AL AO k2 m0 mO hA2 hW1 hW2 hty hF2;go_wp2_with fail;refine(aW c W0 W2 v vg (out) P hW K2 ⟨4,tt,tt,0,0,[]⟩ none 0 0 (OI.nil _ _) (fun g e=>by cases e) (-1) (by omega)).mono ?_;rintro e X1⟨v1,mJ,rfl,K1,F1⟩;dsimp only;clear s0 s1;have G1:=F0.trans F1;clear K2 F1 F0;go_wp2;(try simp only[Exit.inBlock,Exit.then]);refine fG (fE rfl _ _ _) rfl ⟨v1,mJ,rfl,?_,G1⟩;rw[HST.out];refine MK.jG ?_ (fun g h=> .inl h);simpa[oJ]using K1};{replace HST:Hid (Lw.step c.fs c.f c.E c.O c.H at'=[(⟨8,tt,tt,0,q,[]⟩,-1)]):=HST;clear c3 k3 k4 c5 c6 c7 c8 AL AO k2 m0 mO hA2 hW1 hW2 hty hF2;go_wp2_with fail;refine(aW c W0 W2 v vg (out) P hW K2 ⟨8,tt,tt,0,q,[]⟩ none 0 0 (OI.nil _ _) (fun g e=>by cases e) (-1) (by omega)).mono ?_;rintro e X1⟨v1,mJ,rfl,K1,F1⟩;dsimp only;clear s0 s1;have G1:=F0.trans F1;clear K2 F1 F0;go_wp2;(try simp only[Exit.inBlock,Exit.then]);refine fG (fE rfl _ _ _) rfl ⟨v1,mJ,rfl,?_,G1⟩;rw[HST.out];refine MK.jG ?_ (fun g h=> .inl h);simpa[oJ]using K1};{replace HST:Hid (Lw.step c.fs c.f c.E c.O c.H at'=[(⟨9,0,tt-1,tt,q,[]⟩,-1)]):=HST;clear c3 k3 k4 c5 c6 c7 c8 AL AO k2 m0 mO hA2 hW1 hW2 hty hF2;go_wp2_with fail;refine(aW c W0 W2 v vg (out) P hW K2 ⟨9,0,tt-1,tt,q,[]⟩ none 0 0 (OI.nil _ _) (fun g e=>by cases e) (-1) (by omega)).mono ?_;rintro e X1⟨v1,mJ,rfl,K1,F1⟩;dsimp only;clear s0 s1;have G1:=F0.trans F1;clear K2 F1 F0;go_wp2;(try simp only[Exit.inBlock,Exit.then]);refine fG (fE rfl _ _ _) rfl ⟨v1,mJ,rfl,?_,G1⟩;rw[HST.out];refine MK.jG ?_ (fun g h=> .inl h);simpa[oJ]using K1};replace HST:Hid (Lw.step c.fs c.f c.E c.O c.H at'=[(⟨11,0,0,0,0,[]⟩,-1)]):=HST;clear c3 k3 k4 c5 c6 c7 c8 AL AO k2 m0 mO hA2 hW1 hW2 hty hF2;go_wp2_with fail;refine(aW c W0 W2 v vg (out) P hW K2 ⟨11,0,0,0,0,[]⟩ none 0 0 (OI.nil _ _) (fun g e=>by cases e) (-1) (by omega)).mono ?_;rintro e X1⟨v1,mJ,rfl,K1,F1⟩;dsimp only;clear s0 s1;have G1:=F0.trans F1;clear K2 F1 F0;go_wp2;(try simp only[Exit.inBlock,Exit.then]);refine fG (fE rfl _ _ _) rfl ⟨v1,mJ,rfl,?_,G1⟩;rw[HST.out];refine MK.jG ?_ (fun g h=> .inl h);simpa[oJ]using K1
theorem Lw.Qi{c:LX}(T:TX c W0)(hat:at'<c.f.b.length)(h:aM.op c.f.b at'=13\/aM.op c.f.b at'=14):0<=Hg.arg c.f.b at'/\Hg.arg c.f.b at'<=9:=by have hok:St.ok (aM.op c.f.b at') (Hg.arg c.f.b at')=true:=St.bg T.all hat;simp only[St.ok,au,Wd.aZ]at hok;(have h1:St.least (aM.op c.f.b at')=0:=by rcases h with h|h<;>rw[h]<;>rfl);(have h2:St.di (aM.op c.f.b at')=9:=by rcases h with h|h<;>rw[h]<;>rfl);omega
theorem Lw.low{f:Fn}{hh:Int}(hJ:Hg.jL f E H j hh a):∀t:Nat,a.toNat<(aM.dK f.b E j j).length->(aM.dK f.b E j j).getD a.toNat (-1)=(t:Int)->0<=H.getD t 0:=fun t hlt ht=>by
 obtain⟨t',e',-,-,h0,-⟩:=hJ.1 hlt
 rw[ht]at e'
 have:t=t':=by omega
 rw[this]
 exact h0
theorem agt{c:LX}{out:List (Ln×Int)}(T:TX c W0)(K:MK c W0 W v vg out P)(fa:Option Addr)(fl fc:Nat)(d:ByteArray)(oa:Option Addr)(oc:Nat)(hF:FL W0 fa fl c.fs)(hO:IL W0 oa c.f.b.length c.O)(at':Nat)(hat:at'<c.f.b.length)(hr:0<=c.H.getD at' 0)(hlen:out.length<=900)(p:Int)(hp:aM.op c.f.b at'=p)(hk:p=10\/p=11\/p=13\/p=15\/p=14):Calls Tryz.prog 63 #[.pointer (some ⟨c.B,0,none⟩), .agg #[.slice fa fl fc, .string d], .slice oa c.f.b.length oc, .int .i64 at'] W fun e w'=>∃v' qJ,e= .returned (.tuple #[])/\MK c W0 w' v' qJ (out++Lw.step c.fs c.f c.E c.O c.H at') (fun g=>P g\/W.heap.size<=g)/\FX c v vg v' qJ W w':=by have hty:=T.acc.typ at' hat hr;obtain⟨hH,hE,hS⟩:=T.il K;have TS:=hO.kept K.fU;have hF1:=hF.kept K.fU;have hLen:=T.ok.2.2.2.2.2;have htop:=T.acc.dU at' hat;have hW:=T.lt;have hwd:0<=Lw.wd c.f/\Lw.wd c.f<=6:=by{have:=T.ok;unfold Lw.wd;omega};have HST:Hid (Lw.step c.fs c.f c.E c.O c.H at'=Lw.vo c.fs c.f c.E c.O c.H at' p (Hg.arg c.f.b at') (Lw.bx c.f (c.H.getD at' 0-1))):=by{show _=_;unfold Lw.step;rw[hp]};have hbx0:=K.box;unfold LX.dY at hbx0;obtain⟨bl,hbl⟩:∃n,c.f.b.length=n:=⟨_,rfl⟩;rw[hbl]at hH hE hS TS hLen hat hbx0 ⊢;have nE:(at':Int)<(bl:Int):=by{omega};have cS:∃b o,c.ba=some ⟨b,o,none⟩/\b<W.heap.size/\W.cell? ⟨b,o+at'*2,none⟩=some (.int .i64 (aM.op c.f.b at'))/\W.cell? ⟨b,o+at'*2+1,none⟩=some (.int .i64 (Hg.arg c.f.b at')):=by{obtain⟨hl,-,h3|⟨b,o,e,hb,hh⟩⟩:=hS;{omega};exact⟨b,o,e,hb,(hh at' hat).1,(hh at' hat).2⟩};obtain⟨sb,so,es,lS,Mr,cS2⟩:=cS;have cH:∃b o,c.ha=some ⟨b,o,none⟩/\b<W.heap.size/\W.cell? ⟨b,o+at',none⟩=some (.int .i64 (c.H.getD at' 0)):=by{obtain⟨hl,-,h3|⟨b,o,e,hb,hh⟩⟩:=hH;{omega};exact⟨b,o,e,hb,hh at' hat⟩};obtain⟨hb',ho',eh,lH,cH⟩:=cH;have cE:∃b o,c.ea=some ⟨b,o,none⟩/\b<W.heap.size/\W.cell? ⟨b,o+at',none⟩=some (.int .i64 (aM.aI c.E at')):=by{obtain⟨hl,-,h3|⟨b,o,e,hb,hh⟩⟩:=hE;{omega};refine⟨b,o,e,hb,?_⟩;rw[hh at' hat];unfold aM.aI;rw[ah,ah,ai (by omega)];rfl};obtain⟨eb,eo,ee,lE,cE⟩:=cE;have cO:∃b o,oa=some ⟨b,o,none⟩/\b<W.heap.size/\W.cell? ⟨b,o+at',none⟩=some (.int .i64 (aM.aI c.O at')):=by{obtain⟨hl,-,h3|⟨b,o,e,hb,hh⟩⟩:=TS;{omega};refine⟨b,o,e,hb,?_⟩;rw[hh at' hat];unfold aM.aI;rw[ah,ah,ai (by omega)];rfl};obtain⟨ob,oo,rfl,lO,cO⟩:=cO;rw[hp]at Mr;obtain⟨q,hq⟩:=aF (Hg.arg c.f.b at');obtain⟨u,hu⟩:=aF (c.H.getD at' 0);rw[hq]at cS2 HST;rw[hu]at cH htop hr HST;have d2:=(hbx0.2 2 _ rfl).1;have d3:=(hbx0.2 3 _ rfl).1;have d4:=(hbx0.2 4 _ rfl).1;have d5:=(hbx0.2 5 _ rfl).1;have TQ:=hbx0.1;rw[eh]at d3;rw[ee]at d4;rw[es]at d5;have hB1:=aB W (.cells #[.slice fa fl fc, .string d] 26);have hA1:dG (W.alloc (.cells #[.slice fa fl fc, .string d] 26)) W.heap.size 26 [.slice fa fl fc, .string d]:=qo W _;obtain⟨W1,hW1⟩:∃X,W.alloc (.cells #[.slice fa fl fc, .string d] 26)=X:=⟨_,rfl⟩;rw[hW1]at hB1 hA1;have hB2:=aB W1 (.cells #[.int .i64 (p), .int .i64 q] 95);have hA2:dG (W1.alloc (.cells #[.int .i64 (p), .int .i64 q] 95)) W1.heap.size 95 [.int .i64 (p), .int .i64 q]:=qo W1 _;obtain⟨W2,hW2⟩:∃X,W1.alloc (.cells #[.int .i64 (p), .int .i64 q] 95)=X:=⟨_,rfl⟩;rw[hW2]at hB2 hA2;have hB:=hB1.trans (hB2.mono hB1.size);have K2:=K.kept hB;have mO:=hA1.kept hB2;have hcon:=mW T K2 (u-1) (by omega) (by omega);have htt:-1<=Lw.bx c.f (u-1)/\Lw.bx c.f (u-1)<=26:=by{unfold Lw.bx;omega};obtain⟨tt,Kk⟩:=aF (Lw.bx c.f (u-1));rw[Kk]at hcon htt HST;have c3:=bA hB1 d3;have k3:=bA hB d3;have k4:=bA hB d4;have c5:=bA hB1 d5;have c6:=bA hB1 Mr;have c7:=bA hB1 cS2;have c8:=bA hB cH;have AL:=bA hB cE;have AO:=bA hB cO;have k2:=bA hB d2;have s0:=hA2.cell (j:=0) rfl;have s1:=hA2.cell (j:=1) rfl;have m0:=mO.cell (j:=0) rfl;have F0:FX c v vg v vg W W2:=FX.below hB;have hF2:=hF1.kept hB;have HQ:=ae (ak hp (ak hq (ak hbl (ak hu hty))));clear hH hE hS hO TS hF hF1 d2 d3 d4 d5 Mr cS2 cH cE cO hbx0 hA1 hB1 hB2 K hu Kk hp hq hbl;go_enter Tryz.func63,Tryz.ntmps63;go_wp2_with fail;refine hcon.mono ?_;rintro e w3⟨rfl,dC⟩;subst w3;dsimp only;clear hcon;rcases hk with rfl|rfl|rfl|rfl|rfl;{obtain⟨z,hz⟩:=aF (aM.aI c.E at');obtain⟨y,hy⟩:=aF (aM.aI c.O at');have acz:0<=y->y<=80:=fun h0=>by{have f2:=T.acc.Mq.f2 at' (by rw[HQ.out.2.2.1];exact hat) (by rw[hy];exact h0);have f3:=T.acc.Mq.f3 at' (by rw[HQ.out.2.2.1];exact hat) (by omega);rw[HQ.out.2.2.1]at f3;omega};rw[hz]at AL;rw[hy]at AO;by_cases hy0:0<=y;{have hyb:=acz hy0;replace HST:Hid (Lw.step c.fs c.f c.E c.O c.H at'=[(⟨4,tt,tt,0,0,[]⟩,-1),(⟨6,0,tt,0,0,[]⟩,y+1)]):=by{show _=_;rw[HST.out,←hy];show[_,(_,if 0<=aM.aI c.O at' then _ else _)]=_;rw[az (by rw[hy];exact hy0)]};clear acz hz hy;clear c3 k3 c5 c6 c7 c8 k2 m0 mO hA2 hW1 hW2 hty hF2;go_wp2_with fail;refine(aW c W0 W2 v vg (out) P hW K2 ⟨4,tt,tt,0,0,[]⟩ none 0 0 (OI.nil _ _) (fun g e=>by cases e) (-1) (by omega)).mono ?_;rintro e X1⟨v1,mJ,rfl,K1,F1⟩;dsimp only;clear s0 s1;have G1:=F0.trans F1;clear K2 F1 F0;go_wp2_with fail;refine(aW c W0 X1 v1 mJ (out++[(⟨4,tt,tt,0,0,[]⟩,(-1))]) P hW K1 ⟨6,0,tt,0,0,[]⟩ none 0 0 (OI.nil _ _) (fun g e=>by cases e) (y+1) (by simp only[jy,AQ];omega)).mono ?_;rintro e X2⟨v2,Cw,rfl,K2,F2⟩;dsimp only;have G2:=G1.trans F2;clear K1 F2 G1;go_wp2;(try simp only[Exit.inBlock,Exit.then]);refine fG (fE rfl _ _ _) rfl ⟨v2,Cw,rfl,?_,G2⟩;rw[HST.out];refine MK.jG ?_ (fun g h=> .inl h);simpa[oJ]using K2};replace HST:Hid (Lw.step c.fs c.f c.E c.O c.H at'=[(⟨4,tt,tt,0,0,[]⟩,-1),(⟨6,0,tt,0,0,[]⟩,z)]):=by{show _=_;rw[HST.out,←hz];show[_,(_,if 0<=aM.aI c.O at' then _ else _)]=_;rw[ax (by rw[hy];exact hy0)]};clear acz hz hy;clear c3 k3 c5 c6 c7 c8 k2 m0 mO hA2 hW1 hW2 hty hF2;go_wp2_with fail;refine(aW c W0 W2 v vg (out) P hW K2 ⟨4,tt,tt,0,0,[]⟩ none 0 0 (OI.nil _ _) (fun g e=>by cases e) (-1) (by omega)).mono ?_;rintro e X1⟨v1,mJ,rfl,K1,F1⟩;dsimp only;clear s0 s1;have G1:=F0.trans F1;clear K2 F1 F0;go_wp2_with fail;refine(aW c W0 X1 v1 mJ (out++[(⟨4,tt,tt,0,0,[]⟩,(-1))]) P hW K1 ⟨6,0,tt,0,0,[]⟩ none 0 0 (OI.nil _ _) (fun g e=>by cases e) (z) (by simp only[jy,AQ];omega)).mono ?_;rintro e X2⟨v2,Cw,rfl,K2,F2⟩;dsimp only;have G2:=G1.trans F2;clear K1 F2 G1;go_wp2;(try simp only[Exit.inBlock,Exit.then]);refine fG (fE rfl _ _ _) rfl ⟨v2,Cw,rfl,?_,G2⟩;rw[HST.out];refine MK.jG ?_ (fun g h=> .inl h);simpa[oJ]using K2};{obtain⟨z,hz⟩:=aF (aM.aI c.E at');rw[hz]at AL;replace HST:Hid (Lw.step c.fs c.f c.E c.O c.H at'=[(⟨5,0,0,0,0,[]⟩,z)]):=by{show _=_;rw[HST.out,←hz];rfl};clear hz;clear c3 k3 c5 c6 c7 c8 AO k2 m0 mO hA2 hW1 hW2 hty hF2;go_wp2_with fail;refine(aW c W0 W2 v vg (out) P hW K2 ⟨5,0,0,0,0,[]⟩ none 0 0 (OI.nil _ _) (fun g e=>by cases e) (z) (by omega)).mono ?_;rintro e X1⟨v1,mJ,rfl,K1,F1⟩;dsimp only;clear s0 s1;have G1:=F0.trans F1;clear K2 F1 F0;go_wp2;(try simp only[Exit.inBlock,Exit.then]);refine fG (fE rfl _ _ _) rfl ⟨v1,mJ,rfl,?_,G1⟩;rw[HST.out];refine MK.jG ?_ (fun g h=> .inl h);simpa[oJ]using K1};{have hq9:0<=q/\q<=9:=by{have:=Lw.Qi T (at':=at') (by rw[HQ.out.2.2.1];exact hat) (by rw[HQ.out.1];omega);rw[HQ.out.2.1]at this;exact this};have hlow:=Lw.low (HQ.out.2.2.2.2.jump HQ.out.1);rw[HQ.out.2.1]at hlow;have hL:=ny T K2 at' (by rw[HQ.out.2.2.1];exact hat) q (by omega) (by omega) hlow;obtain⟨⟨l1,l2,l3⟩,hl⟩:∃l,Lw.fM c.f c.E c.H at' q=l:=⟨_,rfl⟩;rw[hl]at hL;replace HST:Hid (Lw.step c.fs c.f c.E c.O c.H at'=(if l3=1/\l2≠tt then[(⟨2,l2,tt,0,0,[]⟩,-1)]else[])++[(⟨5,0,0,0,0,[]⟩,l1)]):=by{show _=_;rw[HST.out];show(((if(Lw.fM c.f c.E c.H at' q).2.2=1/\(Lw.fM c.f c.E c.H at' q).2.1≠tt then[(⟨2,(Lw.fM c.f c.E c.H at' q).2.1,tt,0,0,[]⟩,-1)]else[])++[(⟨5,0,0,0,0,[]⟩,(Lw.fM c.f c.E c.H at' q).1)]):List (Ln×Int))=_;rw[hl]};clear c3 k3 k4 c5 c6 c7 c8 AL AO k2 m0 mO hA2 hW1 hW2 hty hF2;clear hl hlow;go_wp2_with fail;refine hL.mono ?_;rintro e X0⟨rfl,hBL⟩;dsimp only;have K0:=K2.kept hBL;have Cx:=F0.trans (FX.below (c:=c) (v:=v) (vg:=vg) hBL);clear hL K2 F0 hBL s0 s1;by_cases h3:l3=1;{subst h3;by_cases h2:l2=tt;{replace HST:Hid (Lw.step c.fs c.f c.E c.O c.H at'=[(⟨5,0,0,0,0,[]⟩,l1)]):=by{show _=_;rw[HST.out,ax (fun h=>h.2 h2)];rfl};subst h2;go_wp2_with fail;refine(aW c W0 X0 v vg (out) P hW K0 ⟨5,0,0,0,0,[]⟩ none 0 0 (OI.nil _ _) (fun g e=>by cases e) (l1) (by omega)).mono ?_;rintro e X1⟨v1,mJ,rfl,K1,F1⟩;dsimp only;have G1:=Cx.trans F1;clear K0 F1 Cx;go_wp2;(try simp only[Exit.inBlock,Exit.then]);refine fG (fE rfl _ _ _) rfl ⟨v1,mJ,rfl,?_,G1⟩;rw[HST.out];refine MK.jG ?_ (fun g h=> .inl h);simpa[oJ]using K1};replace HST:Hid (Lw.step c.fs c.f c.E c.O c.H at'=[(⟨2,l2,tt,0,0,[]⟩,-1),(⟨5,0,0,0,0,[]⟩,l1)]):=by{show _=_;rw[HST.out,az ⟨rfl,h2⟩];rfl};go_wp2_with fail;refine(aW c W0 X0 v vg (out) P hW K0 ⟨2,l2,tt,0,0,[]⟩ none 0 0 (OI.nil _ _) (fun g e=>by cases e) (-1) (by omega)).mono ?_;rintro e X1⟨v1,mJ,rfl,K1,F1⟩;dsimp only;have G1:=Cx.trans F1;clear K0 F1 Cx;go_wp2_with fail;refine(aW c W0 X1 v1 mJ (out++[(⟨2,l2,tt,0,0,[]⟩,(-1))]) P hW K1 ⟨5,0,0,0,0,[]⟩ none 0 0 (OI.nil _ _) (fun g e=>by cases e) (l1) (by simp only[jy,AQ];omega)).mono ?_;rintro e X2⟨v2,Cw,rfl,K2,F2⟩;dsimp only;have G2:=G1.trans F2;clear K1 F2 G1;go_wp2;(try simp only[Exit.inBlock,Exit.then]);refine fG (fE rfl _ _ _) rfl ⟨v2,Cw,rfl,?_,G2⟩;rw[HST.out];refine MK.jG ?_ (fun g h=> .inl h);simpa[oJ]using K2};replace HST:Hid (Lw.step c.fs c.f c.E c.O c.H at'=[(⟨5,0,0,0,0,[]⟩,l1)]):=by{show _=_;rw[HST.out,ax (fun h=>h3 h.1)];rfl};have h3e:(l3==1)=false:=by{simpa using h3};go_wp2_with fail;refine(aW c W0 X0 v vg (out) P hW K0 ⟨5,0,0,0,0,[]⟩ none 0 0 (OI.nil _ _) (fun g e=>by cases e) (l1) (by omega)).mono ?_;rintro e X1⟨v1,mJ,rfl,K1,F1⟩;dsimp only;have G1:=Cx.trans F1;clear K0 F1 Cx;go_wp2;(try simp only[Exit.inBlock,Exit.then]);refine fG (fE rfl _ _ _) rfl ⟨v1,mJ,rfl,?_,G1⟩;rw[HST.out];refine MK.jG ?_ (fun g h=> .inl h);simpa[oJ]using K1};{have hlow:∀t:Nat,(99:Int).toNat<(aM.dK c.f.b c.E at' at').length->(aM.dK c.f.b c.E at' at').getD (99:Int).toNat (-1)=(t:Int)->0<=c.H.getD t 0:=fun t h=>by{have:=aM.wY c.f.b c.E at' at';have e:(99:Int).toNat=99:=rfl;omega};have hL:=ny T K2 at' (by rw[HQ.out.2.2.1];exact hat) 99 (by omega) (by omega) hlow;obtain⟨⟨l1,l2,l3⟩,hl⟩:∃l,Lw.fM c.f c.E c.H at' 99=l:=⟨_,rfl⟩;rw[hl]at hL;replace HST:Hid (Lw.step c.fs c.f c.E c.O c.H at'=(if l3=1/\l2≠tt then[(⟨2,l2,tt,0,0,[]⟩,-1)]else[])++[(⟨5,0,0,0,0,[]⟩,l1)]):=by{show _=_;rw[HST.out];show(((if(Lw.fM c.f c.E c.H at' 99).2.2=1/\(Lw.fM c.f c.E c.H at' 99).2.1≠tt then[(⟨2,(Lw.fM c.f c.E c.H at' 99).2.1,tt,0,0,[]⟩,-1)]else[])++[(⟨5,0,0,0,0,[]⟩,(Lw.fM c.f c.E c.H at' 99).1)]):List (Ln×Int))=_;rw[hl]};clear c3 k3 k4 c5 c6 c7 c8 AL AO k2 m0 mO hA2 hW1 hW2 hty hF2;clear hl hlow;go_wp2_with fail;refine hL.mono ?_;rintro e X0⟨rfl,hBL⟩;dsimp only;have K0:=K2.kept hBL;have Cx:=F0.trans (FX.below (c:=c) (v:=v) (vg:=vg) hBL);clear hL K2 F0 hBL s0 s1;by_cases h3:l3=1;{subst h3;by_cases h2:l2=tt;{replace HST:Hid (Lw.step c.fs c.f c.E c.O c.H at'=[(⟨5,0,0,0,0,[]⟩,l1)]):=by{show _=_;rw[HST.out,ax (fun h=>h.2 h2)];rfl};subst h2;go_wp2_with fail;refine(aW c W0 X0 v vg (out) P hW K0 ⟨5,0,0,0,0,[]⟩ none 0 0 (OI.nil _ _) (fun g e=>by cases e) (l1) (by omega)).mono ?_;rintro e X1⟨v1,mJ,rfl,K1,F1⟩;dsimp only;have G1:=Cx.trans F1;clear K0 F1 Cx;go_wp2;(try simp only[Exit.inBlock,Exit.then]);refine fG (fE rfl _ _ _) rfl ⟨v1,mJ,rfl,?_,G1⟩;rw[HST.out];refine MK.jG ?_ (fun g h=> .inl h);simpa[oJ]using K1};replace HST:Hid (Lw.step c.fs c.f c.E c.O c.H at'=[(⟨2,l2,tt,0,0,[]⟩,-1),(⟨5,0,0,0,0,[]⟩,l1)]):=by{show _=_;rw[HST.out,az ⟨rfl,h2⟩];rfl};go_wp2_with fail;refine(aW c W0 X0 v vg (out) P hW K0 ⟨2,l2,tt,0,0,[]⟩ none 0 0 (OI.nil _ _) (fun g e=>by cases e) (-1) (by omega)).mono ?_;rintro e X1⟨v1,mJ,rfl,K1,F1⟩;dsimp only;have G1:=Cx.trans F1;clear K0 F1 Cx;go_wp2_with fail;refine(aW c W0 X1 v1 mJ (out++[(⟨2,l2,tt,0,0,[]⟩,(-1))]) P hW K1 ⟨5,0,0,0,0,[]⟩ none 0 0 (OI.nil _ _) (fun g e=>by cases e) (l1) (by simp only[jy,AQ];omega)).mono ?_;rintro e X2⟨v2,Cw,rfl,K2,F2⟩;dsimp only;have G2:=G1.trans F2;clear K1 F2 G1;go_wp2;(try simp only[Exit.inBlock,Exit.then]);refine fG (fE rfl _ _ _) rfl ⟨v2,Cw,rfl,?_,G2⟩;rw[HST.out];refine MK.jG ?_ (fun g h=> .inl h);simpa[oJ]using K2};replace HST:Hid (Lw.step c.fs c.f c.E c.O c.H at'=[(⟨5,0,0,0,0,[]⟩,l1)]):=by{show _=_;rw[HST.out,ax (fun h=>h3 h.1)];rfl};have h3e:(l3==1)=false:=by{simpa using h3};go_wp2_with fail;refine(aW c W0 X0 v vg (out) P hW K0 ⟨5,0,0,0,0,[]⟩ none 0 0 (OI.nil _ _) (fun g e=>by cases e) (l1) (by omega)).mono ?_;rintro e X1⟨v1,mJ,rfl,K1,F1⟩;dsimp only;have G1:=Cx.trans F1;clear K0 F1 Cx;go_wp2;(try simp only[Exit.inBlock,Exit.then]);refine fG (fE rfl _ _ _) rfl ⟨v1,mJ,rfl,?_,G1⟩;rw[HST.out];refine MK.jG ?_ (fun g h=> .inl h);simpa[oJ]using K1};have hq9:0<=q/\q<=9:=by{have:=Lw.Qi T (at':=at') (by rw[HQ.out.2.2.1];exact hat) (by rw[HQ.out.1];omega);rw[HQ.out.2.1]at this;exact this};have hlow:=Lw.low (HQ.out.2.2.2.2.jif HQ.out.1);rw[HQ.out.2.1]at hlow;have hL:=ny T K2 at' (by rw[HQ.out.2.2.1];exact hat) q (by omega) (by omega) hlow;obtain⟨⟨l1,l2,l3⟩,hl⟩:∃l,Lw.fM c.f c.E c.H at' q=l:=⟨_,rfl⟩;rw[hl]at hL;replace HST:Hid (Lw.step c.fs c.f c.E c.O c.H at'=if l3=1/\l2≠tt-1 then[(⟨4,tt,tt,0,0,[]⟩,-1),(⟨6,0,tt,0,0,[]⟩,(at':Int)+1),(⟨2,l2,tt-1,0,0,[]⟩,-1),(⟨5,0,0,0,0,[]⟩,l1)]else[(⟨6,0,tt,0,0,[]⟩,l1)]):=by{show _=_;rw[HST.out];show((if(Lw.fM c.f c.E c.H at' q).2.2=1/\(Lw.fM c.f c.E c.H at' q).2.1≠tt-1 then[(⟨4,tt,tt,0,0,[]⟩,-1),(⟨6,0,tt,0,0,[]⟩,(at':Int)+1),(⟨2,(Lw.fM c.f c.E c.H at' q).2.1,tt-1,0,0,[]⟩,-1),(⟨5,0,0,0,0,[]⟩,(Lw.fM c.f c.E c.H at' q).1)]else[(⟨6,0,tt,0,0,[]⟩,(Lw.fM c.f c.E c.H at' q).1)]):List (Ln×Int))=_;rw[hl]};clear c3 k3 k4 c5 c6 c7 c8 AL AO k2 m0 mO hA2 hW1 hW2 hty hF2;clear hl hlow;go_wp2_with fail;refine hL.mono ?_;rintro e X0⟨rfl,hBL⟩;dsimp only;have K0:=K2.kept hBL;have Cx:=F0.trans (FX.below (c:=c) (v:=v) (vg:=vg) hBL);clear hL K2 F0 hBL s0 s1;by_cases h3:l3=1;{subst h3;by_cases h2:l2=tt-1;{replace HST:Hid (Lw.step c.fs c.f c.E c.O c.H at'=[(⟨6,0,tt,0,0,[]⟩,l1)]):=by{show _=_;rw[HST.out,ax (fun h=>h.2 h2)]};subst h2;go_wp2_with fail;refine(aW c W0 X0 v vg (out) P hW K0 ⟨6,0,tt,0,0,[]⟩ none 0 0 (OI.nil _ _) (fun g e=>by cases e) (l1) (by omega)).mono ?_;rintro e X1⟨v1,mJ,rfl,K1,F1⟩;dsimp only;have G1:=Cx.trans F1;clear K0 F1 Cx;go_wp2;(try simp only[Exit.inBlock,Exit.then]);refine fG (fE rfl _ _ _) rfl ⟨v1,mJ,rfl,?_,G1⟩;rw[HST.out];refine MK.jG ?_ (fun g h=> .inl h);simpa[oJ]using K1};replace HST:Hid (Lw.step c.fs c.f c.E c.O c.H at'=[(⟨4,tt,tt,0,0,[]⟩,-1),(⟨6,0,tt,0,0,[]⟩,(at':Int)+1),(⟨2,l2,tt-1,0,0,[]⟩,-1),(⟨5,0,0,0,0,[]⟩,l1)]):=by{show _=_;rw[HST.out,az ⟨rfl,h2⟩]};go_wp2_with fail;refine(aW c W0 X0 v vg (out) P hW K0 ⟨4,tt,tt,0,0,[]⟩ none 0 0 (OI.nil _ _) (fun g e=>by cases e) (-1) (by omega)).mono ?_;rintro e X1⟨v1,mJ,rfl,K1,F1⟩;dsimp only;have G1:=Cx.trans F1;clear K0 F1 Cx;go_wp2_with fail;refine(aW c W0 X1 v1 mJ (out++[(⟨4,tt,tt,0,0,[]⟩,(-1))]) P hW K1 ⟨6,0,tt,0,0,[]⟩ none 0 0 (OI.nil _ _) (fun g e=>by cases e) ((at':Int)+1) (by simp only[jy,AQ];omega)).mono ?_;rintro e X2⟨v2,Cw,rfl,K2,F2⟩;dsimp only;have G2:=G1.trans F2;clear K1 F2 G1;go_wp2_with fail;refine(aW c W0 X2 v2 Cw (out++[(⟨4,tt,tt,0,0,[]⟩,(-1))]++[(⟨6,0,tt,0,0,[]⟩,((at':Int)+1))]) P hW K2 ⟨2,l2,tt-1,0,0,[]⟩ none 0 0 (OI.nil _ _) (fun g e=>by cases e) (-1) (by simp only[jy,AQ];omega)).mono ?_;rintro e X3⟨v3,vg3,rfl,K3,F3⟩;dsimp only;have G3:=G2.trans F3;clear K2 F3 G2;go_wp2_with fail;refine(aW c W0 X3 v3 vg3 (out++[(⟨4,tt,tt,0,0,[]⟩,(-1))]++[(⟨6,0,tt,0,0,[]⟩,((at':Int)+1))]++[(⟨2,l2,tt-1,0,0,[]⟩,(-1))]) P hW K3 ⟨5,0,0,0,0,[]⟩ none 0 0 (OI.nil _ _) (fun g e=>by cases e) (l1) (by simp only[jy,AQ];omega)).mono ?_;rintro e X4⟨v4,vg4,rfl,K4,F4⟩;dsimp only;have G4:=G3.trans F4;clear K3 F4 G3;go_wp2;(try simp only[Exit.inBlock,Exit.then]);refine iw (fE rfl _ _ _) rfl ⟨v4,vg4,rfl,?_,G4⟩;rw[HST.out];refine MK.jG ?_ (fun g h=> .inl h);simpa[oJ]using K4};replace HST:Hid (Lw.step c.fs c.f c.E c.O c.H at'=[(⟨6,0,tt,0,0,[]⟩,l1)]):=by{show _=_;rw[HST.out,ax (fun h=>h3 h.1)]};have h3e:(l3==1)=false:=by{simpa using h3};go_wp2_with fail;refine(aW c W0 X0 v vg (out) P hW K0 ⟨6,0,tt,0,0,[]⟩ none 0 0 (OI.nil _ _) (fun g e=>by cases e) (l1) (by omega)).mono ?_;rintro e X1⟨v1,mJ,rfl,K1,F1⟩;dsimp only;have G1:=Cx.trans F1;clear K0 F1 Cx;go_wp2;(try simp only[Exit.inBlock,Exit.then]);refine fG (fE rfl _ _ _) rfl ⟨v1,mJ,rfl,?_,G1⟩;rw[HST.out];refine MK.jG ?_ (fun g h=> .inl h);simpa[oJ]using K1
end Go.Proofs.YthkjdjmjdlimnaaGreat
