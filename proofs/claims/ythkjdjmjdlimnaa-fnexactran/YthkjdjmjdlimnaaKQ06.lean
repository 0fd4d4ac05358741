/-
  Own texts for a law: SlOf Arr0 Mem1 Mem3 Hgt2 HgtI HgtF
-/
import Derived.Test.YthkjdjmjdlimnaaKQ04
import Derived.Test.YthkjdjmjdlimnaaKQ05
import Derived.OpenShut
import Derived.Deep.SlicePairs
import Derived.Deep.WholeRow
import Derived.Stop.BytesEq
import Derived.Laws.CopyOwn
import Derived.Laws.ResultCell
import Derived.Deep.LoopGhost
import Derived.Deep.DeepCutAuto
namespace Go.Proofs.Ythkjdjmjdlimnaa
open Go.RowKit Go.Shelf
set_option linter.all false
set_option maxRecDepth 100000
set_option maxHeartbeats 16000000
section
open Go.ChangeShapes Go.WideShapes Go.ChangeAt Go.RowKit Go.Shelf Go.Deep
theorem OI.il {W:World}{n₀:Nat}{a:Option Addr}{n c:Nat}{xs:List Int}(h:OI W n₀ (.slice a n c) xs):n=xs.length/\IL W a n xs:=by obtain⟨a',c',e,hil⟩:=h.slice;simp only[Value.slice.injEq]at e;obtain⟨rfl,rfl,rfl⟩:=e;exact⟨rfl,hil⟩
theorem gq {W W':World}(h:W.grownBy W' none):Below W.heap.size W W':=⟨h.os,h.tape,h.output,h.size,fun k hk=>h.block k hk (by simp)⟩
end
structure Still (p:Prop):Prop where
 out:p
def bv (x:Int):Value:= .int .u8 x
def bS (W:World)(g:Nat)(t:TypeId)(vs:List Value):Prop:=W.heap[g]?=some (.cells vs.toArray t (0,0))
theorem bS.lt {W:World}{g:Nat}{t:TypeId}{vs:List Value}(h:bS W g t vs):g<W.heap.size:=(Array.getElem?_eq_some_iff.1 h).1
theorem bS.cell {W:World}{g:Nat}{t:TypeId}{vs:List Value}(h:bS W g t vs){j:Nat}{v:Value}(hj:vs[j]?=some v):W.cell? ⟨g,j,none⟩=some v:=by rw[cell_of_row W g j _ t _ h];simpa using hj
theorem bS.frozen {W:World}{g:Nat}{t:TypeId}{vs:List Value}(h:bS W g t vs)(j:Nat):W.frozen? ⟨g,j,none⟩=false:=frozen_of_row W g j _ t h
theorem bS.kept {W W':World}{g:Nat}{t:TypeId}{vs:List Value}(h:bS W g t vs)(hB:Below W.heap.size W W'):bS W' g t vs:=(hB.block g h.lt).trans h
theorem bS.fO {W W':World}{g:Nat}{t:TypeId}{vs:List Value}{row:Option Nat}(h:bS W g t vs)(hg:W.grownBy W' row)(hne:some g≠row):bS W' g t vs:=(hg.block g h.lt hne).trans h
theorem bS.set {W:World}{g:Nat}{t:TypeId}{vs:List Value}(h:bS W g t vs)(j:Nat)(v:Value):bS (W.setCell ⟨g,j,none⟩ v) g t (vs.set j v):=by have:=heap_setCell_same W g j vs.toArray t v h;unfold bS;rw[this];simp
theorem bS.row {W:World}{g:Nat}{t:TypeId}{vs:List Value}(h:bS W g t vs)(ws:List Value):bS (W.setRow g ws.toArray) g t ws:=setRow_heap W g _ _ t _ h
theorem ja (W:World)(g:Nat)(cs:Array Value):W.grownBy (W.setRow g cs) (some g):=
 ⟨rfl,rfl,rfl,by simp[World.setRow],fun k _ hk=>setRow_other W g k cs (fun e=>hk (by rw[e]))⟩
theorem aG {w w1 w2:World}{r:Nat}(h:Below w.heap.size w w1)(hg:w1.grownBy w2 (some r))(hr:w.heap.size<=r):Below w.heap.size w w2:=
 ⟨hg.os.trans h.os,hg.tape.trans h.tape,hg.output.trans h.output,Nat.le_trans h.size hg.size,fun k hk=>(hg.block k (ai hk h.size) (by simp only[ne_eq,af];omega)).trans (h.block k hk)⟩
section
variable {P : Program}
theorem bK {ops:Array Oper}{rest:List Oper}{o:Oper}{a:Act}{w:World}{Q:Exit->Act->World->Prop}(hgd:o.guard=none)(t:TypeId)(ho:o.op= .alloc t)(zs:List Value)(n:Nat)(hz:(P.info? t).map (fun i=>(i.zero,i.size))=some (some (.agg zs.toArray),n))(h:∀g w',Hid (g=w.heap.size)->bS w' g t zs->Below w.heap.size w w'->wpList P ops Q rest (a.put o.dst (.pointer (some ⟨g,0,none⟩))) w'):wpList P ops Q (o::rest) a w:=by refine wpList_plain hgd fun K hK=>?_;have hrun:=(zero_of_info hz).1;unfold Oper.wp execOp;simp only[ho,Instr.alloc,Sem.run_bind,hrun,Result.andThen_ok];simp[newVar,Value.cells];exact hK _ _ (h w.heap.size (w.alloc (.cells zs.toArray t)) rfl (heap_alloc_last w _) (Below.alloc (Below.refl _ _) (Nat.le_refl _) _))
theorem eY {ops:Array Oper}{rest:List Oper}{o:Oper}{a:Act}{w:World}{Q:Exit->Act->World->Prop}(hgd:o.guard=none)(t:TypeId)(x:Operand)(ho:o.op= .box t x)(zs:List Value)(hx:a.eval x= .agg zs.toArray)(h:∀g w',Hid (g=w.heap.size)->bS w' g t zs->Below w.heap.size w w'->wpList P ops Q rest (a.put o.dst (.pointer (some ⟨g,0,none⟩))) w'):wpList P ops Q (o::rest) a w:=by refine wpList_plain hgd fun K hK=>?_;unfold Oper.wp execOp;simp only[ho,hx,Instr.box,Sem.run_bind];simp[newVar,Value.cells];exact hK _ _ (h w.heap.size (w.alloc (.cells zs.toArray t)) rfl (heap_alloc_last w _) (Below.alloc (Below.refl _ _) (Nat.le_refl _) _))
theorem cB {ops:Array Oper}{rest:List Oper}{o:Oper}{a:Act}{w:World}{Q:Exit->Act->World->Prop}(hgd:o.guard=none)(ty:TypeId)(x:Operand)(ho:o.op= .load ty x)
   (g:Nat) (hx:a.eval x= .pointer (some ⟨g,0,none⟩)) (t:TypeId) (vs:List Value) (hg:bS w g t vs) (n:Nat) (e:TypeId) (hu:P.underlying ty=some (.array n e)) (hi:(P.info? ty).map (·.size)=some vs.length)
   (h:wpList P ops Q rest (a.put o.dst (.agg vs.toArray)) w):wpList P ops Q (o::rest) a w:=
 wpList_load_row hgd ty x ho g hx t vs.toArray (0,0) _ hg hu rfl (by simpa using hi) h
theorem bW {ops:Array Oper}{rest:List Oper}{o:Oper}{a:Act}{w:World}{Q:Exit->Act->World->Prop}(hgd:o.guard=none)(ty:TypeId)(x y:Operand)(ho:o.op= .store ty x y)
   (g:Nat) (cells:List Value) (hx:a.eval x= .pointer (some ⟨g,0,none⟩)) (hy:a.eval y= .agg cells.toArray) (t:TypeId) (old:List Value) (hg:bS w g t old) (hi:(P.info? ty).map (·.size)=some cells.length)
   (hold:old.length=cells.length) (h1:∀v∈cells,v.oneCell'=true)
   (h:∀w',bS w' g t cells->w.grownBy w' (some g)->wpList P ops Q rest (a.put o.dst undef) w'):wpList P ops Q (o::rest) a w:=
 wpList_store_row hgd ty x y ho g cells.toArray hx hy t old.toArray hg (by simpa using hi) (by simpa using hold) (Array.all_eq_true_iff_forall_mem.2 (fun v hv=>h1 v (by simpa using hv))) (h _ (hg.row _) (ja _ _ _))
theorem jB {ops:Array Oper}{rest:List Oper}{o:Oper}{a:Act}{w:World}{Q:Exit->Act->World->Prop}(hgd:o.guard=none)(ty:TypeId)(x y:Operand)(ho:o.op= .index ty x y)(vs:List Value)(k:Nat)(hx:a.eval x= .agg vs.toArray)(hy:a.eval y= .int .i64 k)(n:Nat)(e:TypeId)(hu:P.underlying ty=some (.array n e))(hk:k<n)(hs:∀w,(sizeOf e).run P w= .ok 1 w)(ha:∀w,(isAgg e).run P w= .ok false w)(v:Value)(hv:vs[k]?=some v)(h:wpList P ops Q rest (a.put o.dst v) w):wpList P ops Q (o::rest) a w:=by refine wpList_plain hgd fun K hK=>?_;have hrun:(Instr.index ty (.agg vs.toArray) (.int .i64 k)).run P w= .ok v w:=by{simp[Instr.index,asIntOf,Sem.run_bind,run_underlying hu,hs,part,ha,hv];omega};unfold Oper.wp execOp;simp only[ho,hx,hy,Sem.run_bind,hrun,Result.andThen_ok];exact hK _ _ h
theorem cK {ops:Array Oper}{rest:List Oper}{o:Oper}{a:Act}{w:World}{Q:Exit->Act->World->Prop}(t:TypeId)(ho:o.op= .alloc t)(h:Still (wpList P ops Q (o::rest) a w)):wpList P ops Q (o::rest) a w:=h.out
theorem jc {ops:Array Oper}{rest:List Oper}{o:Oper}{a:Act}{w:World}{Q:Exit->Act->World->Prop}(t:TypeId)(x:Operand)(ho:o.op= .box t x)(h:Still (wpList P ops Q (o::rest) a w)):wpList P ops Q (o::rest) a w:=h.out
theorem dY {ops:Array Oper}{rest:List Oper}{o:Oper}{a:Act}{w:World}{Q:Exit->Act->World->Prop}(t:TypeId)(x:Operand)(ho:o.op= .load t x)(h:Still (wpList P ops Q (o::rest) a w)):wpList P ops Q (o::rest) a w:=h.out
theorem dU {ops:Array Oper}{rest:List Oper}{o:Oper}{a:Act}{w:World}{Q:Exit->Act->World->Prop}(t:TypeId)(x y:Operand)(ho:o.op= .store t x y)(h:Still (wpList P ops Q (o::rest) a w)):wpList P ops Q (o::rest) a w:=h.out
theorem lW {ops:Array Oper}{rest:List Oper}{o:Oper}{a:Act}{w:World}{Q:Exit->Act->World->Prop}(t:TypeId)(x y:Operand)(ho:o.op= .index t x y)(h:Still (wpList P ops Q (o::rest) a w)):wpList P ops Q (o::rest) a w:=h.out
theorem iC {ops:Array Oper}{rest:List Oper}{o:Oper}{a:Act}{w:World}{Q:Exit->Act->World->Prop}(t:TypeId)(ps:Array (Nat×Operand))(ho:o.op= .build t ps)(h:Still (wpList P ops Q (o::rest) a w)):wpList P ops Q (o::rest) a w:=h.out
theorem xJ {ops:Array Oper}{rest:List Oper}{o:Oper}{a:Act}{w:World}{Q:Exit->Act->World->Prop}(x y:Operand)(s t:TypeId)(ho:o.op= .call {callee:= .builtin .copy,args:=#[x,y],argTypes:=#[s,t]})(h:Still (wpList P ops Q (o::rest) a w)):wpList P ops Q (o::rest) a w:=h.out
theorem l9 (xs ys:List Int)(h:xs.length=ys.length):(List.range xs.length).all (fun i=>xs.getD i 0==ys.getD i 0)=(xs==ys):=by rw[Bool.eq_iff_iff];simp only[List.all_eq_true,List.mem_range,beq_iff_eq];constructor;{intro hh;apply List.ext_getElem h;intro i h1 h2;have:=hh i h1;simpa[ag,ah h1,ah h2]using this};rintro rfl i _;rfl
theorem kL (w:World)(d:Nat)(t e:TypeId)(n:Nat)(ht:P.underlying t=some (.array n e))(he:P.underlying e=some (.int .i64))(hsz:∀w,(sizeOf e).run P w= .ok 1 w)(xs ys:List Int)(hx:xs.length=n)(hy:ys.length=n):(Op.equalIn (d+2) t (.agg (xs.map iv).toArray) (.agg (ys.map iv).toArray)).run P w= .ok (xs==ys) w:=by
 rw[←l9 xs ys (hx.trans hy.symm),hx,List.range_eq_range',Op.equalIn]
 simp only[Sem.run_bind,run_underlying ht,Result.andThen_ok,hsz,Std.Legacy.Range.forIn_eq_forIn_range',Std.Legacy.Range.size,Nat.sub_zero,Nat.add_sub_cancel,Nat.div_one]
 have hl:∀i∈List.range' 0 n 1,i<n:=fun i hi=>by simpa using(List.mem_range'_1.1 hi).2
 generalize List.range' 0 n 1=l at hl ⊢
 induction l with
 |nil=>simp
 |cons i l ih=>
  have hi:i<n:=hl i (by simp)
  have px:(part e (xs.map iv).toArray (i*1)).run P w= .ok (iv (xs.getD i 0)) w:=by simp[part,isAgg,run_underlying he,List.getD,ah (show i<xs.length by omega)]
  have py:(part e (ys.map iv).toArray (i*1)).run P w= .ok (iv (ys.getD i 0)) w:=by simp[part,isAgg,run_underlying he,List.getD,ah (show i<ys.length by omega)]
  have pe:(Op.equalIn (d+1) e (iv (xs.getD i 0)) (iv (ys.getD i 0))).run P w= .ok (xs.getD i 0==ys.getD i 0) w:=by rw[iv,iv,run_equalIn_int w d e .i64 .i64 _ _ he]
  simp only[List.forIn_cons,Sem.run_bind,px,py,pe,Result.andThen_ok,List.all_cons]
  cases hb:(xs.getD i 0==ys.getD i 0)
  · simp
  · simp only[Bool.not_true,Bool.false_eq_true,if_false,Sem.run_pure,Result.andThen_ok,Bool.true_and];exact ih fun j hj=>hl j (by simp[hj])
theorem qF (w:World)(t e:TypeId)(n:Nat)(ht:P.underlying t=some (.array n e))(he:P.underlying e=some (.int .i64))(hsz:∀w,(sizeOf e).run P w= .ok 1 w)(xs ys:List Int)(hx:xs.length=n)(hy:ys.length=n):(binOp .neq t (.agg (xs.map iv).toArray) (.agg (ys.map iv).toArray)).run P w= .ok (.bool (!(xs==ys))) w:=by rw[run_neq_struct,kL w 9998 t e n ht he hsz xs ys hx hy];rfl
theorem gK {fn:Func}{p u:Tmp}{ty:TypeId}(h:fn.results=#[.cell p ty, .tmp u])(tmps:Array Value)(w:World)(g:Nat)(t:TypeId)(vs:List Value)(y:Value)(n:Nat)(e:TypeId)(hp:tmps.getD p undef= .pointer (some ⟨g,0,none⟩))(hy:tmps.getD u undef=y)(hg:bS w g t vs)(hu:P.underlying ty=some (.array n e))(hi:(P.info? ty).map (·.size)=some vs.length):(results fn tmps).run P w= .ok (.tuple #[.agg vs.toArray,y]) w:=by rw[results_cell_tmp h,hp,hy];simp[asAddr,run_loadVar_row w g t ty vs.toArray (0,0) _ hg hu rfl (by simpa using hi)]
variable {C : World → Prop}
theorem lg {o:Oper}{a:Act}{K:Act->Prop}(ty:TypeId)(x:Operand)(ho:o.op= .load ty x)(g:Nat)(hx:a.eval x= .pointer (some ⟨g,0,none⟩))(t:TypeId)(vs:List Value)(hg:∀w,C w->bS w g t vs)(n:Nat)(e:TypeId)(hu:P.underlying ty=some (.array n e))(hi:(P.info? ty).map (·.size)=some vs.length)(hk:K (a.put o.dst (.agg vs.toArray))):o.quiet P a C K:=by refine⟨_,fun w hw=>?_,hk⟩;unfold Oper.quietAt execOp;simp only[ho,hx,Instr.loadAt,Instr.sureAddr,Sem.run_bind,Sem.run_pure,Result.andThen_ok,run_loadVar_row w g t ty vs.toArray (0,0) _ (hg w hw) hu rfl (by simpa using hi)];exact⟨rfl,rfl⟩
theorem vk {o:Oper}{a:Act}{K:Act->Prop}(ty ty':TypeId)(x y:Operand)(ho:o.op= .binOp .neq ty x y ty')(xs ys:List Int)(hx:a.eval x= .agg (xs.map iv).toArray)(hy:a.eval y= .agg (ys.map iv).toArray)(n:Nat)(e:TypeId)(hu:P.underlying ty=some (.array n e))(he:P.underlying e=some (.int .i64))(hsz:∀w,(sizeOf e).run P w= .ok 1 w)(hlx:xs.length=n)(Vp:ys.length=n)(hq:P.eqGuardType P.depth ty=false)(hk:K (a.put o.dst (.bool (!(xs==ys))))):o.quiet P a C K:=by refine⟨_,fun w hw=>?_,hk⟩;have hrun:=qF (P:=P) w ty e n hu he hsz xs ys hlx Vp;have hg:(eqGuard .neq ty x y (.agg (xs.map iv).toArray) (.agg (ys.map iv).toArray)).run P w= .ok () w:=by{simp[eqGuard,hq]};unfold Oper.quietAt execOp;simp only[ho,hx,hy,Sem.run_bind,hg,hrun,Result.andThen_ok];exact⟨rfl,rfl⟩
theorem sS {o:Oper}{a:Act}{K:Act->Prop}(f:FuncId)(x:Operand)(ts:Array TypeId)(ho:o.op= .call {callee:= .value (.func f),args:=#[x],argTypes:=ts})(vx v:Value)(hx:a.eval x=vx)(hcf:∀w,(callFunc f #[vx]).run P w= .ok (.enter f #[vx]) w)(hc:∀w,C w->Calls P f #[vx] w (fun e w''=>e= .returned v/\C w''))(hk:K (a.put o.dst v)):o.quiet P a C K:=by refine⟨_,fun w hw=>?_,hk⟩;have:=hc w hw;have he:a.eval (.func f)= .func (.func f) #[] #[]:=rfl;unfold Oper.quietAt execOp;simp[ho,resolve,hx,invoke,Deferred.ofValue,he,hcf];exact⟨rfl,this⟩
end
theorem ve:(Try.prog.info? 89).map (fun i=>(i.zero,i.size))=some (some (.agg ((List.replicate 64 0).map iv).toArray),64):=by kernel_rfl
theorem uM:(Try.prog.info? 60).map (fun i=>(i.zero,i.size))=some (some (.agg ((List.replicate 64 0).map bv).toArray),64):=by kernel_rfl
theorem kE:(Try.prog.info? 89).map (·.size)=some 64:=by kernel_rfl
theorem dS:(Try.prog.info? 60).map (·.size)=some 64:=by kernel_rfl
theorem kR {bs:List Int}:∀v∈bs.map bv,v.oneCell'=true:=by intro v hv;obtain⟨b,_,rfl⟩:=List.mem_map.1 hv;rfl
theorem mF {bs:List Int}:∀v∈bs.map iv,v.oneCell'=true:=by intro v hv;obtain⟨b,_,rfl⟩:=List.mem_map.1 hv;rfl
theorem dP {f:Int->Value}{bs:List Int}{k:Nat}(h:k<bs.length):(bs.map f)[k]?=some (f (bs.getD k 0)):=by rw[List.getElem?_map,ah h,ag,ah h];rfl
theorem mH {n:Nat}{ys:List Int}{f:Nat->Int}{k:Nat}{p:Int}(h:ys.length=n/\∀j,j<k->ys.getD j 0=f j)(hk:k<n)(hp:f k=p):(ys.set k p).length=n/\∀j,j<k+1->(ys.set k p).getD j 0=f j:=by refine⟨by rw[List.length_set];exact h.1,fun j hj=>?_⟩;by_cases e:j=k;{subst e;rw[ag,List.getElem?_set_self (by omega),hp];rfl};rw[←h.2 j (by omega),ag,List.getElem?_set_ne (by omega),←ag]
theorem mJ {n:Nat}{ys bs:List Int}(h:ys.length=n/\∀j,j<n->ys.getD j 0=bs.getD j 0)(hb:bs.length=n):ys=bs:=by apply List.ext_getElem;{rw[h.1,hb]};intro j h1 h2;have:=h.2 j (by omega);simpa[ag,ah h1,ah h2]using this
theorem sW (bs:List Int)(hl:bs.length=64)(hb:∀j,0<=bs.getD j 0/\bs.getD j 0<=255)(w:World):Calls Try.prog 42 #[.agg (bs.map bv).toArray] w fun e w'=>e= .returned (.agg (bs.map iv).toArray)/\Below w.heap.size w w':=by have HL:=ae hl;obtain⟨cs,hcs⟩:∃cs,bs.map bv=cs:=⟨_,rfl⟩;obtain⟨zs,hzs⟩:∃zs,(List.replicate 64 (0:Int)).map iv=zs:=⟨_,rfl⟩;have HZ:=ve;rw[hcs];rw[hzs]at HZ;clear hl;go_enter Try.func42,Try.ntmps42;go_wp2_with(refine jc 60 _ rfl ?_);refine⟨?_⟩;refine eY rfl _ _ rfl cs rfl ?_;intro g1 w1 hg1 hA1 hB1;go_wp2_with(refine cK 89 rfl ?_);refine⟨?_⟩;refine bK rfl _ rfl zs 64 HZ ?_;intro g2 w2 hg2 hA2 hB2;go_wp2_with(refine cK 89 rfl ?_);refine⟨?_⟩;refine bK rfl _ rfl zs 64 HZ ?_;intro g3 w3 hg3 hA3 hB3;go_wp2_with(refine dY 60 _ rfl ?_);refine⟨?_⟩;have qQ:=(hA1.kept hB2).kept hB3;have Kz:cs.length=64:=by{rw[←hcs,List.length_map];exact HL.out};refine cB rfl _ _ rfl g1 rfl _ cs qQ 64 5 Try.underlying60 (by rw[Kz];exact dS) ?_;have lK:=hA2.kept hB3;have hBw:=hB1.trans ((hB2.trans (hB3.mono hB2.size)).mono hB1.size);have HW:=ae hBw;have HG:Hid (w.heap.size<=g1/\w.heap.size<=g2/\w.heap.size<=g3/\g2≠g3):=by{have e1:=hg1.out;have e2:=hg2.out;have e3:=hg3.out;have s1:=hB1.size;have s2:=hB2.size;have s3:=hA2.lt;exact⟨by omega,by omega,by omega,by omega⟩};have HA2:=ae lK;clear hA1 hA2 qQ hB1 hB2 hB3 hBw lK hg1 hg2 hg3;go_wp2;go_loopw [4,5,7,8,9,10,11,12,13,14,15] (fun _ _ i _ _ _ _ _ _ _ _ wr=>∃(k:Nat)(ys:List Int),i= .int .i64 k/\k<=64/\ys.length=64/\(∀j,j<k->ys.getD j 0=bs.getD j 0)/\bS wr g3 89 (ys.map iv)/\bS wr g2 89 zs/\Below w.heap.size w wr) (fun _ _ i _ _ _ _ _ _ _ _ _=>64-(intOf i).toNat);(case atStart=>exact⟨0,List.replicate 64 0,rfl,by omega,by simp,by simp,by rw[hzs];exact hA3,HA2.out,HW.out⟩);case round=>obtain⟨k,ys,rfl,hk,hyl,hys,kU,lK,hB⟩:=hrel;have HY:=ae (aj hyl hys);have HA:=ae lK;clear hA3 lK Kz;by_cases hlt:k<64;{have hget:cs[k]?=some (.int .u8 (bs.getD k 0)):=by{rw[←hcs];exact dP (by rw[HL.out];exact hlt)};have gz:(k:Int)<64:=by{omega};have hc:=kU.cell (dP (f:=iv) (k:=k) (by omega));have hf:=kU.frozen k;have hset:=kU.set k (iv (bs.getD k 0));rw[←List.map_set]at hset;obtain⟨p,hp⟩:∃p,bs.getD k 0=p:=⟨_,rfl⟩;have hp0:=(hb k).1;have hp1:=(hb k).2;rw[hp]at hp0 hp1;obtain⟨q,hq⟩:∃q,ys.getD k 0=q:=⟨_,rfl⟩;rw[hp]at hset hget;rw[hq]at hc;have HP:=ae hp;have HS:=ae hset;have HB:=ae hB;clear hyl hys hp hq hset kU hB hb;unfold iv at hc;go_wp2_with(refine lW 60 _ _ rfl ?_);refine⟨?_⟩;refine jB rfl _ _ _ rfl cs k rfl rfl 64 5 Try.underlying60 hlt (fun _=>Try.sizeOf5 _) (fun _=>Try.isAgg5 _) _ hget ?_;go_wp2;go_roundw;(case rel=>obtain⟨y1,y2⟩:=mH HY.out hlt HP.out;obtain⟨-,-,o3,o4⟩:=HG.out;exact⟨k+1,ys.set k p,by simp,by omega,y1,y2,HS.out,HA.out.fO (aC _ ⟨g3,k,none⟩ _) (by simpa using o4),HB.out.setCell (p:=⟨g3,k,none⟩) o3 _⟩);case measure=>simp[intOf];omega};obtain rfl:k=64:=by{omega};have e:ys=bs:=mJ HY.out HL.out;subst e;have HB:=ae hB;have Oq:(ys.map iv).length=64:=by{rw[List.length_map];exact hyl};clear hyl hys HY hb;go_wp2_with(refine dY 89 _ rfl ?_);refine⟨?_⟩;refine cB rfl _ _ rfl g3 rfl _ _ kU 64 2 Try.underlying89 (by rw[Oq];exact kE) ?_;go_wp2_with(refine dU 89 _ _ rfl ?_);refine⟨?_⟩;refine bW rfl _ _ _ rfl g2 (ys.map iv) rfl rfl _ _ HA.out (by rw[Oq];exact kE) (by rw[Oq,←hzs];simp) mF ?_;intro w5 Bv hg5;have Fp:=ae Bv;go_wp2;obtain⟨-,o2,-,-⟩:=HG.out;refine bodyPost_ret (v:= .agg (ys.map iv).toArray) ?_ rfl ⟨rfl,aG HB.out hg5 o2⟩;exact results_cell_row rfl _ _ g2 _ _ _ _ rfl Fp.out Try.underlying89 rfl (by rw[List.size_toArray,Oq];exact kE)
theorem lY (a o:Int)(w:World):Calls Try.prog 78 #[.int .i64 a, .int .i64 o] w fun e w'=>e= .returned (.tuple #[.int .i64 (if Mm.there a o=true then a+o else 0), .bool (Mm.there a o)])/\w'=w:=by rcases hok:Wd.ok a;{have hth:Mm.there a o=false:=by{simp[Mm.there,hok]};rw[hth];go_enter Try.func78,Try.ntmps78;go_wp2_with(go_at_call 43;refine(aP _ _).mono ?_;rintro e w' ⟨rfl,aQ⟩;subst w';rw[hok]);go_ret2;exact⟨rfl,rfl⟩};have h0:=Wd.aL.1 hok;have ha0:=h0.1;have ha1:=h0.2;clear h0;rcases hin:Wd.bL o 0 255;{have hth:Mm.there a o=false:=by{simp[Mm.there,hin]};rw[hth];go_enter Try.func78,Try.ntmps78;go_wp2_with(first|(go_at_call 43;refine(aP _ _).mono ?_;rintro e w' ⟨rfl,aQ⟩;subst w';rw[hok])|(go_at_call 26;refine(aR _ _ _ _).mono ?_;rintro e w' ⟨rfl,aQ⟩;subst w';rw[hin]));go_ret2;exact⟨rfl,rfl⟩};have h1:=Wd.bf.1 hin;have ho0:=h1.1;have ho1:=h1.2;clear h1;by_cases hle:a+o<=60;{have hth:Mm.there a o=true:=Mm.eT.2 ⟨ha0,ho0,ho1,hle⟩;rw[hth,ax rfl];go_enter Try.func78,Try.ntmps78;go_wp2_with(first|(go_at_call 43;refine(aP _ _).mono ?_;rintro e w' ⟨rfl,aQ⟩;subst w';rw[hok])|(go_at_call 26;refine(aR _ _ _ _).mono ?_;rintro e w' ⟨rfl,aQ⟩;subst w';rw[hin]));go_ret2;exact⟨rfl,rfl⟩};have hth:Mm.there a o=false:=by{rw[Bool.eq_false_iff];intro h;exact hle (Mm.eT.1 h).2.2.2};rw[hth];go_enter Try.func78,Try.ntmps78;go_wp2_with(first|(go_at_call 43;refine(aP _ _).mono ?_;rintro e w' ⟨rfl,aQ⟩;subst w';rw[hok])|(go_at_call 26;refine(aR _ _ _ _).mono ?_;rintro e w' ⟨rfl,aQ⟩;subst w';rw[hin]));go_ret2;exact⟨rfl,rfl⟩
theorem xL (bs:List Int)(hl:bs.length=64)(hb:∀j,0<=bs.getD j 0/\bs.getD j 0<=255)(k:Nat)(hk:k+4<=64)(v:Int)(h0:0<=v)(h1:v<=4294967295)(w:World):Calls Try.prog 72 #[.agg (bs.map bv).toArray, .int .i64 k, .int .u32 v] w fun e w'=>e= .returned (.agg ((Mm.dR bs k v 4).map bv).toArray)/\Below w.heap.size w w':=by have HL:=ae hl;obtain⟨cs,hcs⟩:∃cs,bs.map bv=cs:=⟨_,rfl⟩;obtain⟨zb,hzb⟩:∃zb,(List.replicate 64 (0:Int)).map bv=zb:=⟨_,rfl⟩;have HC:=uM;rw[hzb]at HC;rw[hcs];clear hl;go_enter Try.func72,Try.ntmps72;go_wp2_with(refine jc 60 _ rfl ?_);refine⟨?_⟩;refine eY rfl _ _ rfl cs rfl ?_;intro g1 w1 hg1 hA1 hB1;go_wp2_with(refine cK 60 rfl ?_);refine⟨?_⟩;refine bK rfl _ rfl zb 64 HC ?_;intro g2 w2 hg2 hA2 hB2;have hBw:=hB1.trans (hB2.mono hB1.size);have HW:=ae (aj hBw (aj (hA1.kept hB2) hA2));have HG:Hid (w.heap.size<=g1/\w.heap.size<=g2/\g1≠g2):=by{have e1:=hg1.out;have e2:=hg2.out;have s1:=hB1.size;have s3:=hA1.lt;exact⟨by omega,by omega,by omega⟩};clear hA1 hA2 hB1 hB2 hBw hg1 hg2 HC;go_wp2;go_loopw [7,8,9,10,11,12,13,14,15,16,17,18,19,20] (fun _ i _ _ _ _ _ _ _ _ _ _ _ _ wr=>∃(j:Nat),i= .int .i64 j/\j<=4/\bS wr g1 60 ((Mm.dR bs k v j).map bv)/\bS wr g2 60 zb/\Below w.heap.size w wr) (fun _ i _ _ _ _ _ _ _ _ _ _ _ _ _=>4-(intOf i).toNat);(case atStart=>exact⟨0,rfl,by omega,by rw[Mm.dR,hcs];exact HW.out.2.1,HW.out.2.2,HW.out.1⟩);case round=>obtain⟨j,rfl,hj,hA1,hA2,hB⟩:=hrel;have HA:=ae (aj hA2 hB);by_cases hlt:j<4;{have gz:(j:Int)<4:=by{omega};have hkj:k+j<64:=by{omega};have hc:=hA1.cell (dP (f:=bv) (k:=k+j) (by rw[Mm.fM,HL.out];exact hkj));have hf:=hA1.frozen (k+j);have hset:=hA1.set (k+j) (bv (v / 256 ^ j%256));rw[←List.map_set,←Mm.dR]at hset;obtain⟨q,hq⟩:∃q,(Mm.dR bs k v j).getD (k+j) 0=q:=⟨_,rfl⟩;rw[hq]at hc;have HS:=ae hset;clear hq hset hA1 hA2 hB hb;unfold bv at hc;obtain rfl|rfl|rfl|rfl:j=0\/j=1\/j=2\/j=3:=by{omega};{rw[Nat.add_zero]at hc hf;go_wp2;have e:=HS.out;rw[Nat.add_zero,show v / 256 ^ 0%256=v%256 by simp]at e;exact⟨⟨1,rfl,by omega,e,HA.out.1.fO (aC _ ⟨g1,k,none⟩ _) (by simpa using Ne.symm HG.out.2.2),HA.out.2.setCell (p:=⟨g1,k,none⟩) HG.out.1 _⟩,by simp[intOf]⟩};{go_wp2;have e:=HS.out;rw[show(256:Int) ^ 1=256 from rfl]at e;exact⟨⟨2,rfl,by omega,e,HA.out.1.fO (aC _ ⟨g1,k+1,none⟩ _) (by simpa using Ne.symm HG.out.2.2),HA.out.2.setCell (p:=⟨g1,k+1,none⟩) HG.out.1 _⟩,by simp[intOf]⟩};{go_wp2;have e:=HS.out;rw[show(256:Int) ^ 2=65536 from rfl]at e;exact⟨⟨3,rfl,by omega,e,HA.out.1.fO (aC _ ⟨g1,k+2,none⟩ _) (by simpa using Ne.symm HG.out.2.2),HA.out.2.setCell (p:=⟨g1,k+2,none⟩) HG.out.1 _⟩,by simp[intOf]⟩};go_wp2;have e:=HS.out;rw[show(256:Int) ^ 3=16777216 from rfl,show v / 16777216%256=v / 16777216 by omega]at e;exact⟨⟨4,rfl,by omega,e,HA.out.1.fO (aC _ ⟨g1,k+3,none⟩ _) (by simpa using Ne.symm HG.out.2.2),HA.out.2.setCell (p:=⟨g1,k+3,none⟩) HG.out.1 _⟩,by simp[intOf]⟩};obtain rfl:j=4:=by{omega};have hll:((Mm.dR bs k v 4).map bv).length=64:=by{rw[List.length_map,Mm.fM];exact HL.out};have hlz:zb.length=64:=by{rw[←hzb];simp};obtain⟨ys,hys⟩:∃ys,(Mm.dR bs k v 4).map bv=ys:=⟨_,rfl⟩;have HY:=ae hys;have hone:∀x∈ys,x.oneCell'=true:=by{rw[←hys];exact kR};rw[hys]at hll hA1;clear hys hb hB;go_wp2_with(refine dY 60 _ rfl ?_);refine⟨?_⟩;refine cB rfl _ _ rfl g1 rfl _ _ hA1 64 5 Try.underlying60 (by rw[hll];exact dS) ?_;go_wp2_with(refine dU 60 _ _ rfl ?_);refine⟨?_⟩;refine bW rfl _ _ _ rfl g2 ys rfl rfl _ _ hA2 (by rw[hll];exact dS) (by rw[hll,hlz]) hone ?_;intro w5 Bv hg5;have Fp:=ae Bv;go_wp2;refine bodyPost_ret (v:= .agg ys.toArray) ?_ rfl ⟨by rw[HY.out],aG HA.out.2 hg5 HG.out.2.1⟩;exact results_cell_row rfl _ _ g2 _ _ _ _ rfl Fp.out Try.underlying60 rfl (by rw[List.size_toArray,hll];exact dS)
theorem oO {x q:Int}(i:Nat)(hi:i<=24)(h0:0<=x)(h1:x<2 ^ i)(h2:0<=q)(h3:q<=255):bits .or .u32 x (q*2 ^ i)=x+q*2 ^ i:=by obtain⟨n,rfl⟩:=Int.eq_ofNat_of_zero_le h0;obtain⟨m,rfl⟩:=Int.eq_ofNat_of_zero_le h2;have hn:n<2 ^ i:=by{have:((n:Int))<((2 ^ i:Nat):Int):=by{push_cast;exact h1};exact_mod_cast this};have hm:m<=255:=by{omega};have hp:2 ^ i<=2 ^ 24:=Nat.pow_le_pow_right (by omega) hi;have Xu:m*2 ^ i<=255*2 ^ 24:=Nat.mul_le_mul hm hp;have h:=(bits_nat .u32 32 (by decide) Wd.lN n (m*2 ^ i) (by omega) (by omega)).2;have e:((m*2 ^ i:Nat):Int)=(m:Int)*2 ^ i:=by{push_cast;rfl};rw[e]at h;rw[h,Nat.mul_comm,Nat.or_comm,←Nat.two_pow_add_eq_or_of_lt hn m];push_cast;rw[Int.mul_comm,Int.add_comm]
theorem xH (bs:List Int)(hl:bs.length=64)(hb:∀j,0<=bs.getD j 0/\bs.getD j 0<=255)(k:Nat)(hk:k+4<=64)(w:World):Calls Try.prog 70 #[.agg (bs.map bv).toArray, .int .i64 k] w fun e w'=>e= .returned (.int .u32 (Mm.fB bs k 4))/\Below w.heap.size w w':=by have HL:=ae hl;obtain⟨cs,hcs⟩:∃cs,bs.map bv=cs:=⟨_,rfl⟩;have hbd:=Mm.lM hb k;rw[hcs];clear hl;go_enter Try.func70,Try.ntmps70;go_wp2_with(refine jc 60 _ rfl ?_);refine⟨?_⟩;refine eY rfl _ _ rfl cs rfl ?_;intro g1 w1 hg1 hA1 hB1;have HW:=ae (aj hB1 hA1);clear hA1 hB1 hg1;go_wp2;go_loop [5,6,7,8,9,10,11,12,13,14,15,16,17,18,19,20,21] (fun x _ i _ _ _ _ _ _ _ _ _ _ _ _ _ _=>∃(j:Nat),i= .int .i64 j/\j<=4/\x= .int .u32 (Mm.fB bs k j)) (fun _ _ i _ _ _ _ _ _ _ _ _ _ _ _ _ _=>4-(intOf i).toNat);(case atStart=>exact⟨0,rfl,by omega,rfl⟩);case round=>obtain⟨j,rfl,hj,rfl⟩:=hrel;by_cases hlt:j<4;{have gz:(j:Int)<4:=by{omega};have hkj:k+j<64:=by{omega};have hc:=HW.out.2.cell (hcs▸dP (f:=bv) (bs:=bs) (k:=k+j) (by rw[HL.out];exact hkj));have hp0:=(hb (k+j)).1;have hp1:=(hb (k+j)).2;have hx0:=(hbd j).1;have hx1:=(hbd j).2;have hN:Mm.fB bs k (j+1)=Mm.fB bs k j+bs.getD (k+j) 0*256 ^ j:=rfl;obtain⟨q,hq⟩:∃q,bs.getD (k+j) 0=q:=⟨_,rfl⟩;obtain⟨x,hx⟩:∃x,Mm.fB bs k j=x:=⟨_,rfl⟩;rw[hq]at hc hp0 hp1 hN;rw[hx]at hx0 hx1 hN ⊢;have HN:=ae hN;clear hq hx hN hb hbd;unfold bv at hc;obtain rfl|rfl|rfl|rfl:j=0\/j=1\/j=2\/j=3:=by{omega};{rw[Nat.add_zero]at hc;rw[show(256:Int) ^ 0=1 from rfl]at hx1;go_wp2;have e:=oO 0 (by omega) hx0 hx1 hp0 hp1;have e2:=HN.out;rw[show(2:Int) ^ 0=1 from rfl,Int.mul_one]at e;rw[show(256:Int) ^ 0=1 from rfl,Int.mul_one]at e2;exact⟨⟨1,rfl,by omega,by rw[e];exact congrArg _ e2.symm⟩,by simp[intOf]⟩};{rw[show(256:Int) ^ 1=256 from rfl]at hx1;go_wp2;have e:=oO 8 (by omega) hx0 hx1 hp0 hp1;have e2:=HN.out;rw[show(2:Int) ^ 8=256 from rfl]at e;rw[show(256:Int) ^ 1=256 from rfl]at e2;exact⟨⟨2,rfl,by omega,by rw[e];exact congrArg _ e2.symm⟩,by simp[intOf]⟩};{rw[show(256:Int) ^ 2=65536 from rfl]at hx1;go_wp2;have e:=oO 16 (by omega) hx0 hx1 hp0 hp1;have e2:=HN.out;rw[show(2:Int) ^ 16=65536 from rfl]at e;rw[show(256:Int) ^ 2=65536 from rfl]at e2;exact⟨⟨3,rfl,by omega,by rw[e];exact congrArg _ e2.symm⟩,by simp[intOf]⟩};rw[show(256:Int) ^ 3=16777216 from rfl]at hx1;go_wp2;have e:=oO 24 (by omega) hx0 hx1 hp0 hp1;have e2:=HN.out;rw[show(2:Int) ^ 24=16777216 from rfl]at e;rw[show(256:Int) ^ 3=16777216 from rfl]at e2;exact⟨⟨4,rfl,by omega,by rw[e];exact congrArg _ e2.symm⟩,by simp[intOf]⟩};obtain rfl:j=4:=by{omega};clear hb hbd;go_wp2;go_ret;exact⟨rfl,HW.out.1⟩
namespace Hg
def Lv:Int->List eU->Prop
 |_,[]=>True
 |h,x::S=>(0<=h->0<=x.st)/\x.cm=decide (0<=x.st)/\Lv x.st S
theorem Lv.mono {h h':Int}{S:List eU}(H:Lv h S)(hh:0<=h'->0<=h):Lv h' S:=by
 cases S with
 |nil=>trivial
 |cons x S=>exact⟨fun e=>H.1 (hh e),H.2⟩
theorem Ah {f:Fn}{p a h mo h' gP:Int}{x:eU}{S S':List eU}(H:Lv h (x::S))(h1:lh f p a h mo x S=some (h',gP,S')):Lv h' S':=by have hcm:=H.2.1;have hc:x.cm=true->0<=x.st:=fun e=>by{rw[hcm]at e;simpa using e};unfold lh at h1;split at h1;{simp only[af,Prod.mk.injEq]at h1;obtain⟨rfl,rfl,rfl⟩:=h1;exact⟨id,rfl,H⟩};split at h1;{split at h1;{cases h1};simp only[af,Prod.mk.injEq]at h1;obtain⟨rfl,rfl,rfl⟩:=h1;refine H.mono fun e=>?_;split at e<;>omega};split at h1;{split at h1;{cases h1};simp only[af,Prod.mk.injEq]at h1;obtain⟨rfl,rfl,rfl⟩:=h1;exact H.mono fun e=>by omega};split at h1;{simp only[af,Prod.mk.injEq]at h1;obtain⟨rfl,rfl,rfl⟩:=h1;exact H.mono fun e=>by omega};split at h1;{split at h1;{cases h1};simp only[af,Prod.mk.injEq]at h1;obtain⟨rfl,rfl,rfl⟩:=h1;refine⟨fun e=>?_,H.2⟩;split at e;{exact e};omega};split at h1;{split at h1;{cases h1};simp only[af,Prod.mk.injEq]at h1;obtain⟨rfl,rfl,rfl⟩:=h1;refine H.2.2.mono fun e=>?_;split at e;{rename_i hh;exact hc hh};omega};simp only[af,Prod.mk.injEq]at h1;obtain⟨rfl,rfl,rfl⟩:=h1;exact H
end Hg
def dX:Code->Option Code
 | .loop c=>some c
 | .seq a b=>match dX a with
   |some c=>some c
   |none=>dX b
 | .block _ c=>dX c
 | .scope c=>dX c
 | .cond _ a b=>match dX a with
   |some c=>some c
   |none=>dX b
 |_=>none
theorem aO.mP {xs:List (Int×Int)}:∀(f k:Nat)(E O:List Int)(S:List Nat){Ef Of:List Int},go xs f k E O S=(Ef,Of,true)->S.length=dep xs k->∃i,i+1=xs.length/\op xs i=12/\dep xs i=0
 |0,k,E,O,S,Ef,Of,h,hd=>by simp[go]at h
 | f + 1,k,E,O,S,Ef,Of,h,hd=>by
   by_cases hk:xs.length<=k
   · rw[kJ hk]at h;simp at h
   have hk:k<xs.length:=by omega
   rcases ho:St.opens (op xs k)with _|_
   · by_cases h11:op xs k=11
     · rcases S with _|⟨t,S'⟩
       · rw[iX hk ho h11]at h;simp at h
       · by_cases h2:op xs t=10/\O.getD t (-1)<0
         · rw[fT hk ho h11 h2]at h
           exact mP f (k+1) _ _ _ h (by rw[iq ho (by omega)];exact hd)
         · rw[jd hk ho h11 h2]at h;simp at h
     · by_cases kT:op xs k=12
       · rcases S with _|⟨t,S'⟩
         · rw[jh hk ho h11 kT]at h
           simp only[Prod.mk.injEq,decide_eq_true_eq]at h
           exact⟨k,h.2.2,kT,by rw[←hd];rfl⟩
         · rw[fV hk ho h11 kT]at h
           exact mP f (k+1) _ _ _ h (by rw[qD kT,←hd];simp)
       · rw[fZ hk ho h11 kT]at h
         exact mP f (k+1) _ _ _ h (by rw[iq ho kT];exact hd)
   · rw[fK hk ho]at h
     exact mP f (k+1) _ _ _ h (by rw[kF ho];simp[hd])
theorem aO.wM {xs:List (Int×Int)}(h:isOk xs=true):∃i,i+1=xs.length/\op xs i=12/\dep xs i=0:=by have h2:(all xs).2.2=true:=by{rw[isOk,ak]at h;exact h.2};exact mP (xs.length+1) 0 _ _ [] (Ef:=(all xs).1) (Of:=(all xs).2.1) (by show all xs=_;rw[←h2]) rfl
namespace Hg
theorem dE {a b:Int}(h:b<=a):mx a b=a:=by unfold mx;rw[au (by omega)]
theorem zB {f:Fn}{p a h mo h' gP:Int}{x:eU}{S S':List eU}(h0:0<=mo)(hp:p=13\/p=15\/p=19\/p=11\/p=12->h<=mo)(h1:lh f p a h (mx mo h) x S=some (h',gP,S')):gP=mx mo h':=by unfold lh at h1;split at h1;{simp only[af,Prod.mk.injEq]at h1;obtain⟨rfl,rfl,rfl⟩:=h1;rfl};split at h1;{rename_i Fq;split at h1;{cases h1};simp only[af,Prod.mk.injEq]at h1;obtain⟨rfl,rfl,rfl⟩:=h1;split;{rename_i e;rw[dE (hp (.inl e)),dE (by omega)]};rfl};split at h1;{rename_i e;split at h1;{cases h1};simp only[af,Prod.mk.injEq]at h1;obtain⟨rfl,rfl,rfl⟩:=h1;rw[dE (hp (by omega)),dE (by omega)]};split at h1;{rename_i e;simp only[af,Prod.mk.injEq]at h1;obtain⟨rfl,rfl,rfl⟩:=h1;rw[dE (hp (by omega)),dE (by omega)]};split at h1;{rename_i e;split at h1;{cases h1};simp only[af,Prod.mk.injEq]at h1;obtain⟨rfl,rfl,rfl⟩:=h1;rw[dE (hp (by omega))]};split at h1;{rename_i e;split at h1;{cases h1};simp only[af,Prod.mk.injEq]at h1;obtain⟨rfl,rfl,rfl⟩:=h1;rw[dE (hp (by omega))]};simp only[af,Prod.mk.injEq]at h1;obtain⟨rfl,rfl,rfl⟩:=h1;rfl
theorem mh {fs:List Fn}{p a:Int}(h:p=13\/p=15\/p=19\/p=11\/p=12):tk fs p a=0/\pt fs p a=0:=by rcases h with rfl|rfl|rfl|rfl|rfl<;>exact⟨by simp[tk],by simp[pt]⟩
theorem Aj {fs:List Fn}{f:Fn}{o p a h mo h' gP:Int}{S S':List eU}(h0:0<=mo)(hm:h<=mo)(h1:one fs f o p a h mo S=some (h',gP,S')):gP=mx mo h':=by unfold one at h1;split at h1;{cases h1};split at h1;{cases h1};split at h1;{split at h1;{cases h1};refine zB h0 (fun e=>?_) h1;have:=mh (fs:=fs) (a:=a) e;rw[this.1,this.2];omega};rw[←dE hm]at h1;exact zB h0 (fun _=>hm) h1
end Hg
namespace Hg
theorem wE {fs:List Fn}{f:Fn}{o p a h mo:Int}{x:eU}{S:List eU}{r:Int×Int×List eU}(h1:one fs f o p a h mo (x::S)=some r):∃hh mm,lh f p a hh mm x S=some r:=by unfold one at h1;simp only at h1;split at h1;{cases h1};split at h1;{split at h1;{cases h1};exact⟨_,_,h1⟩};exact⟨_,_,h1⟩
def Bt (f:Fn)(S:List eU):Prop:=∃T,S=T++[⟨0,f.g,true⟩]
theorem EU {f:Fn}{p a h mo h' gP:Int}{x:eU}{S S':List eU}(H:Bt f (x::S))(h1:lh f p a h mo x S=some (h',gP,S'))(hne:S'≠[]):Bt f S':=by have tl:S≠[]->Bt f S:=fun hS=>by{obtain⟨T,hT⟩:=H;rcases T with _|⟨y,T⟩;{simp at hT;exact absurd hT.2 hS};exact⟨T,by simp at hT;exact hT.2⟩};unfold lh at h1;split at h1;{simp only[af,Prod.mk.injEq]at h1;obtain⟨-,-,rfl⟩:=h1;obtain⟨T,hT⟩:=H;exact⟨_::T,by rw[hT];rfl⟩};split at h1;{split at h1;{cases h1};simp only[af,Prod.mk.injEq]at h1;obtain⟨-,-,rfl⟩:=h1;exact H};split at h1;{split at h1;{cases h1};simp only[af,Prod.mk.injEq]at h1;obtain⟨-,-,rfl⟩:=h1;exact H};split at h1;{simp only[af,Prod.mk.injEq]at h1;obtain⟨-,-,rfl⟩:=h1;exact H};split at h1;{split at h1;{cases h1};simp only[af,Prod.mk.injEq]at h1;obtain⟨-,-,rfl⟩:=h1;exact H};split at h1;{split at h1;{cases h1};simp only[af,Prod.mk.injEq]at h1;obtain⟨-,-,rfl⟩:=h1;exact tl hne};simp only[af,Prod.mk.injEq]at h1;obtain⟨-,-,rfl⟩:=h1;exact H
theorem tO (g:Int):∀l:List Int,g<=l.foldl mx g/\(∀x∈l,x<=l.foldl mx g)/\(l.foldl mx g=g\/l.foldl mx g∈l):=by
 intro l
 induction l generalizing g with
 |nil=>exact⟨Int.le_refl _,fun x hx=>absurd hx List.not_mem_nil, .inl rfl⟩
 |cons y l ih=>
  obtain⟨h1,h2,h3⟩:=ih (mx g y)
  have hg:g<=mx g y:=Dm (Int.le_refl _)
  have hy:y<=mx g y:=by unfold mx;split<;>omega
  refine⟨Int.le_trans hg h1,fun x hx=>?_,?_⟩
  · rcases List.mem_cons.1 hx with rfl|hx;{exact Int.le_trans hy h1};exact h2 x hx
  · rcases h3 with h3|h3;{by_cases TI:g<y;{have e:mx g y=y:=ax TI;right;show l.foldl mx (mx g y)∈y::l;rw[h3,e];simp};have e:mx g y=g:=au TI;left;show l.foldl mx (mx g y)=g;rw[h3,e]};exact .inr (List.mem_cons_of_mem _ h3)
theorem Ex {fs:List Fn}{f:Fn}{O:List Int}(lq:aO.isOk f.b=true):∀(n i:Nat)(h mo:Int)(S:List eU)(out:List Int){out':List Int}{gP:Int},i+(n+1)=f.b.length->S.length=aO.dep f.b i+1->Bt f S->0<=mo->mo=(out++[h]).foldl mx f.g->go fs f O (n+1) i h mo S out=some (out',gP)->gP=out'.foldl mx f.g:=by
 intro n
 induction n with
 |zero=>
  intro i h mo S out out' gP hi hd hbt h0 hm e
  rw[go]at e
  split at e
  · cases e
  · rename_i h2 m2 S2 h1;simp only[go,af,Prod.mk.injEq]at e;obtain⟨rfl,rfl⟩:=e;obtain⟨j,hj,h12,hdj⟩:=aO.wM lq;have hji:j=i:=by{omega};subst hji;rw[hdj]at hd;rcases S with _|⟨x,S⟩;{simp at hd};have hS:S=[]:=List.eq_nil_of_length_eq_zero (by simpa using hd);subst hS;obtain⟨T,hT⟩:=hbt;have hx:x=⟨0,f.g,true⟩:=by{rcases T with _|⟨y,T⟩;{simpa using hT};simp at hT};subst hx;have hle:h<=mo:=by{rw[hm,List.foldl_append];show h<=mx _ h;unfold mx;split<;>omega};have hmo:=Aj h0 hle h1;obtain⟨hh,mm,hc⟩:=wE h1;rw[h12]at hc;have Qg:h2=f.g:=by{have e12:lh f 12 (f.b.getD j (0,0)).2 hh mm ⟨0,f.g,true⟩ []=if 0<=hh/\hh-0≠f.g then none else some (0+f.g,mx mm (0+f.g),[]):=rfl;rw[e12]at hc;split at hc;{cases hc};simp only[af,Prod.mk.injEq]at hc;omega};rw[hmo,Qg,hm];exact dE (tO f.g _).1
 |succ n ih=>
  intro i h mo S out out' gP hi hd hbt h0 hm e
  rw[go]at e
  split at e
  · cases e
  · rename_i h2 m2 S2 h1;rcases S with _|⟨x,S⟩;{simp at hd};have hle:h<=mo:=by{rw[hm,List.foldl_append];show h<=mx _ h;unfold mx;split<;>omega};have hmo:=Aj h0 hle h1;obtain⟨hh,mm,hc⟩:=wE h1;have hd2:=CG (xs:=f.b) lq (i:=i) (by omega) (by simpa using hd) hc;refine ih (i+1) h2 m2 S2 (out++[h]) (by omega) hd2 (EU hbt hc (fun e=>by rw[e]at hd2;simp at hd2)) (by rw[hmo];exact Dm h0) ?_ e;rw[hmo,hm,List.foldl_append (l:=out++[h])];rfl
theorem BL {fs:List Fn} {f:Fn} (hg:0<=f.g) {out:List Int} {mo:Int} (h:Bu fs f=some (out,mo)):mo=out.foldl mx f.g/\out.length=f.b.length/\0<f.b.length:=by
 unfold Bu at h
 split at h
 · rename_i lq
   obtain⟨j,hj,-,-⟩:=aO.wM lq
   split at h
   · rename_i o m ha
     split at h
     · simp only[af,Prod.mk.injEq]at h
       obtain⟨rfl,rfl⟩:=h
       have ha':go fs f (aO.eZ f.b) (j+1) 0 0 f.g [⟨0,f.g,true⟩] []=some (o,m):=by rw[hj];exact ha
       refine⟨Ex lq j 0 0 f.g [⟨0,f.g,true⟩] [] (by omega) rfl ⟨[],rfl⟩ hg (by
        show f.g=mx f.g 0
        rw[dE hg]) ha',?_,by omega⟩
       have len:∀(n i:Nat)(h mo:Int)(S:List eU)(out:List Int){out':List Int}{gP:Int},go fs f (aO.eZ f.b) n i h mo S out=some (out',gP)->out'.length=out.length+n:=by
        intro n
        induction n with
        |zero=>intro i h mo S out out' gP e;simp only[go,af,Prod.mk.injEq]at e;rw[e.1];rfl
        |succ n ih=>
         intro i h mo S out out' gP e
         rw[go]at e
         split at e
         · cases e
         · have:=ih _ _ _ _ _ e;simp at this;omega
       have:=len _ _ _ _ _ _ ha'
       simp at this
       omega
     · cases h
   · cases h
 · cases h
end Hg
end Go.Proofs.Ythkjdjmjdlimnaa
