/-
  Own texts for a law: Mv2 Words1 Step1 Leb1 Leb2 Step3 Step4 Quiet Step6 Step7 Ints1 Nest0
-/
import Derived.Test.YthamlonlgnjljabNB01
import Derived.ProofKit
import Derived.Test.YthamlonlgnjljabRows
import Derived.RangeFuncBox
import Derived.RangeFuncNested
import Derived.RangeFuncBound
import Derived.RangeFuncCalls
import Derived.RangeFuncLeaves
import Derived.Shelf.Abstract
import Derived.Shelf.RegionOpen
import Derived.OwnWalkIn
import Derived.TacticsInMore
import Derived.LoopNIn
import Derived.LoopIn
import Derived.Maps.AppendAt
import Derived.Laws.BytesString
import Derived.Laws.IdiomStrings
import Derived.Laws.BytesArg
import Derived.Deep.QuietTactic
import Derived.Deep.Draws
import Derived.Laws.OwnMore
import Derived.BigQuiet
namespace Go.Proofs.Ythamlonlgnjljab
open Go.RowKit Go.Shelf
set_option linter.all false
set_option maxRecDepth 100000
set_option maxHeartbeats 16000000
section
open Go.RowKit
set_option linter.unusedSimpArgs false
namespace Mv
theorem fG {h:Int}(hp:place h=true):0<=h/\h<=163:=by unfold place Hm.hm at hp;simp only[ai,Bool.or_eq_true,decide_eq_true_eq]at hp;omega
structure Ok (l:List M):Prop where
 len:l.length<=8
 pl:∀m∈l,(0<=m.t/\m.t<=163)/\(0<=m.f/\m.f<=163)
 nd:l.Pairwise fun a b=>a.t≠b.t
theorem dJ {l:List M}(h:isOk l=true):Ok l:=by unfold isOk at h;rw[ai,List.all_eq_true,decide_eq_true_eq]at h;obtain⟨h1,h2⟩:=h;have h3:∀i,i<l.length->(place (l.getD i .z).t=true/\place (l.getD i .z).f=true)/\∀k,k<i->(l.getD k .z).t≠(l.getD i .z).t:=fun i hi=>by{have:=h1 i (List.mem_range.2 hi);unfold aQ at this;rw[ai,ai,List.all_eq_true]at this;refine⟨this.1,fun k hk=>?_⟩;have:=this.2 k (List.mem_range.2 hk);simpa using this};refine⟨h2,fun m hm=>?_,?_⟩;{obtain⟨i,hi,rfl⟩:=List.getElem_of_mem hm;have:=(h3 i hi).1;rw[bq hi]at this;exact⟨fG this.1,fG this.2⟩};rw[List.pairwise_iff_getElem];intro i j hi hj hij;have:=(h3 j hj).2 i hij;rwa [bq hi,bq hj]at this
theorem iZ {l:List M}(h:Ok l):Good (bn l):=by have hnd:(bn l).Pairwise fun a b=>a.t≠b.t:=h.nd.sublist List.filter_sublist;have hm:∀i,i<(bn l).length->(bn l).getD i .z∈l/\((bn l).getD i .z).t≠((bn l).getD i .z).f:=fun i hi=>by{rw[bq hi];have:=List.mem_filter.1 (List.getElem_mem hi);exact⟨this.1,by simpa using this.2⟩};refine⟨fun i j hi hj e=>?_,fun i hi=>(hm i hi).2,fun i hi=>?_,fun i j hi hj e1 e2=>?_⟩;{refine Classical.byContradiction fun hne=>?_;rcases Nat.lt_or_gt_of_ne hne with hij|hij;{have:=List.pairwise_iff_getElem.1 hnd i j hi hj hij;rw[bq hi,bq hj]at e;exact this e};have:=List.pairwise_iff_getElem.1 hnd j i hj hi hij;rw[bq hi,bq hj]at e;exact this e.symm};{have:=h.pl _ (hm i hi).1;omega};have:=h.pl _ (hm i hi).1;omega
theorem bA (l:List M):(bn l).length<=l.length:=List.length_filter_le _ _
theorem jl {l:List M}(h:isOk l=true):Told (bn l) (ordered l):=by have hk:=dJ h;unfold ordered;rw[ak h];refine bX 40 _ (iZ hk) (.inl ?_);have:=bA l;have:=hk.len;omega
theorem nN {l:List M}(h:Ok l):¬iG (bn l):=by rintro⟨i,hi,e⟩;rw[bq hi]at e;have:=h.pl _ (List.mem_filter.1 (List.getElem_mem hi)).1;omega
theorem kW {l:List M}(h:isOk l=true):(ordered l).length=(bn l).length+sp (ordered l)/\2*sp (ordered l)<=(bn l).length/\(ordered l).length<=l.length+4/\(ordered l).length<=12:=by have hT:=jl h;have h1:=hT.len;have h2:=hT.nP (nN (dJ h));have h3:=bA l;have h4:=(dJ h).len;exact⟨h1,h2,by omega,by omega⟩
theorem bL (l:List M):(ordered l).length<=12:=by by_cases h:isOk l=true;{exact(kW h).2.2.2};unfold ordered;rw[aj h];exact Nat.zero_le _
end Mv
end
theorem bK (n lo hi:Int)(w:World):Calls Try.prog 28 #[.int .i64 n, .int .i64 lo, .int .i64 hi] w fun e w'=>e= .returned (.bool (Wd.aS n lo hi))/\w'=w:=by by_cases h1:lo<=n;{by_cases h2:n<=hi;{rw[Wd.jK h1 h2];go_enter Try.func28,Try.ntmps28;go_wp2;all_goals(go_ret;first|exact⟨rfl,rfl⟩|exact⟨aV (by simp;omega),rfl⟩)};rw[Wd.iD (by omega)];go_enter Try.func28,Try.ntmps28;go_wp2;all_goals(go_ret;first|exact⟨rfl,rfl⟩|exact⟨aV (by simp;omega),rfl⟩)};rw[Wd.gX (by omega)];go_enter Try.func28,Try.ntmps28;go_wp2;all_goals(go_ret;first|exact⟨rfl,rfl⟩|exact⟨aV (by simp;omega),rfl⟩)
theorem ed (n lo hi:Int)(w:World):Calls Try.prog 26 #[.int .i64 n, .int .i64 lo, .int .i64 hi] w fun e w'=>e= .returned (.bool (Wd.aS n lo hi))/\w'=w:=by by_cases h1:lo<=n;{by_cases h2:n<=hi;{rw[Wd.jK h1 h2];go_enter Try.func26,Try.ntmps26;go_wp2;all_goals(go_ret;first|exact⟨rfl,rfl⟩|exact⟨aV (by simp;omega),rfl⟩)};rw[Wd.iD (by omega)];go_enter Try.func26,Try.ntmps26;go_wp2;all_goals(go_ret;first|exact⟨rfl,rfl⟩|exact⟨aV (by simp;omega),rfl⟩)};rw[Wd.gX (by omega)];go_enter Try.func26,Try.ntmps26;go_wp2;all_goals(go_ret;first|exact⟨rfl,rfl⟩|exact⟨aV (by simp;omega),rfl⟩)
section
open Go.RowKit
namespace St
def least (op:Int):Int:=if op=5 then 1 else 0
def jo (op:Int):Int:=
 if op=1 then 4294967295 else if op=2\/op=3\/op=4 then 5 else if op=5 then 12 else if op=8\/op=10 then 1 else if op=13\/op=14 then 9
 else if op=16 then 3 else if op=17\/op=18 then 255 else 0
def opens (op:Int):Bool:=decide (op=8\/op=9\/op=10)
def ok (op a:Int):Bool:=Wd.aS op 1 20&&Wd.aS a (least op) (jo op)
end St
theorem dM {fn:Func}{p:Tmp}{ty:TypeId}(h:fn.results=#[.cell p ty])(tmps:Array Value)(P:Program)(w:World):(results fn tmps).run P w=((asAddr (tmps.getD p undef)).run P w).andThen fun a w₁=>((loadVar ty a).run P w₁).andThen fun v w₂=> .ok v w₂:=by simp only[results,h];simp[Sem.run_bind,Result.andThen];rcases(asAddr (tmps[p]?.getD undef)).run P w with⟨a,w1⟩|⟨h,w1⟩;{dsimp only;rcases(loadVar ty a).run P w1 with⟨a,w1⟩|⟨h,w1⟩<;>rfl};rfl
theorem iX (w:World)(a b:Obj):Below w.heap.size w ((w.alloc a).alloc b):=
 ((Below.refl _ w).alloc (Nat.le_refl _) _).alloc (by simp) _
theorem aO (w:World)(a:Obj):Below w.heap.size w (w.alloc a):=(Below.refl _ w).alloc (Nat.le_refl _) _
end
section
attribute [local go_sem] Oper.semAt_some

end
section
attribute [local go_sem] Oper.semAt_some
end
namespace St
def aT (xs:List (Int×Int)):Bool:=xs.all fun x=>ok x.1 x.2
theorem iF {op a:Int}(h:ok op a=true):1<=op/\op<=20:=by rw[ok,ai]at h;exact Wd.bG.1 h.1
end St
def SL (w:World)(a:Option Addr)(len:Nat)(xs:List (Int×Int)):Prop:=
 xs.length=len/\len<=maxLen/\(len=0\/∃b off,a=some ⟨b,off,none⟩/\b<w.heap.size/\
   ∀j,j<len->w.cell? ⟨b,off+j*2,none⟩=some (.int .i64 (xs.getD j (0,0)).1)/\w.cell? ⟨b,off+j*2+1,none⟩=some (.int .i64 (xs.getD j (0,0)).2))
theorem SL.kept {w w':World}{a:Option Addr}{len:Nat}{xs:List (Int×Int)}(h:SL w a len xs)(hB:Below w.heap.size w w'):SL w' a len xs:=by obtain⟨h1,h2,h3|⟨b,off,rfl,hb,hx⟩⟩:=h;{exact⟨h1,h2, .inl h3⟩};refine⟨h1,h2, .inr ⟨b,off,rfl,ah hb hB.size,fun j hj=>?_⟩⟩;exact⟨(hB.cell (p:=⟨b,off+j*2,none⟩) hb).trans (hx j hj).1,(hB.cell (p:=⟨b,off+j*2+1,none⟩) hb).trans (hx j hj).2⟩
namespace St
theorem aK {xs:List (Int×Int)}(h:aT xs=true){j:Nat}(hj:j<xs.length):ok (xs.getD j (0,0)).1 (xs.getD j (0,0)).2=true:=by rw[af,ag hj];simp only[aT,List.all_eq_true]at h;exact h _ (List.getElem_mem hj)
end St
section
open Go.RowKit
def dx (w:World):Type:={to:World // Below w.heap.size w to}
def dx.to {w:World}(p:dx w):World:=p.1
theorem dx.h {w:World}(p:dx w):Below w.heap.size w p.to:=p.2
theorem dx.any (w:World):Nonempty (dx w):=⟨⟨w,Below.refl _ _⟩⟩
theorem aM {P:Program}{id:Nat}{Q:Exit->Act->World->Prop}{a:Act}{w:World}{l:List Oper}(hm:P.follows .mixedOrders=true)(hB:Region.lexB .any l.toArray=true)
   (h:wpQuiet P l.toArray (fun w'=>∃p:dx w,w'=p.to) (fun a'=>∀w',(∃p:dx w,w'=p.to)->Q .normal a' w') l a):(Code.region id l.toArray true).wp P Q a w:=
 wp_region_quiet (C:=fun w'=>∃p:dx w,w'=p.to) hm hB ⟨⟨w.drew,(Below.refl _ w).drew⟩,rfl⟩ (by simpa using h)
theorem aX {P:Program}{f:FuncId}{args:Array Value}{w:World}{p:dx w}{v:Value}
   (h:Calls P f args p.to fun e w'=>e= .returned v/\Below p.to.heap.size p.to w'):Calls P f args p.to fun e w''=>e= .returned v/\∃p:dx w,w''=p.to:=
 h.mono fun _ w' ⟨he,hb⟩=>⟨he,⟨w',p.h.trans (hb.mono p.h.size)⟩,rfl⟩
end
def bz (xs:List (Int×Int)):List Value:=xs.flatMap fun x=>[.int .i64 x.1, .int .i64 x.2]
theorem fO (xs:List (Int×Int)):(bz xs).length=xs.length*2:=by
 induction xs with
 |nil=>rfl
 |cons x xs ih=>simp only[bz,List.flatMap_cons,List.length_append,List.length_cons]at ih ⊢;simp only[List.length_nil];omega
theorem bS:∀(xs:List (Int×Int))(j:Nat),j<xs.length->(bz xs)[j*2]?=some (.int .i64 (xs.getD j (0,0)).1)/\(bz xs)[j*2+1]?=some (.int .i64 (xs.getD j (0,0)).2)
 |[],j,h=>by simp at h
 |x::xs,0,_=>⟨rfl,rfl⟩
 | x::xs,j+1,h=>by
   have ih:=bS xs j (by simp at h;omega)
   have e:bz (x::xs)= .int .i64 x.1:: .int .i64 x.2::bz xs:=rfl
   rw[e,show(j+1)*2=j*2+1+1 by omega]
   simpa using ih
theorem dB:∀(xs:List (Int×Int))(k:Nat)(x:Int×Int),bz (xs.set k x)=((bz xs).set (k*2) (.int .i64 x.1)).set (k*2+1) (.int .i64 x.2)
 |[],k,x=>by simp[bz]
 |y::xs,0,x=>rfl
 | y::xs,k+1,x=>by
   have ih:=dB xs k x
   have e:∀(z:Int×Int) zs,bz (z::zs)= .int .i64 z.1:: .int .i64 z.2::bz zs:=fun _ _=>rfl
   rw[List.set_cons_succ,e,e,show(k+1)*2=k*2+1+1 by omega,ih]
   rfl
theorem jb (n:Nat):(madeCells #[.int .i64 0, .int .i64 0] (n*2)).toList=bz (List.replicate n (0,0)):=by
 have h:(madeCells #[.int .i64 0, .int .i64 0] (n*2)).toList=List.replicate (n*2) (.int .i64 0):=by apply List.ext_getElem;{simp[madeCells]};intro i h1 h2;simp only[madeCells,Array.toList_map,Array.toList_range,List.getElem_map,List.getElem_range,List.getElem_replicate];have:i%2=0\/i%2=1:=by{omega};rcases this with e|e<;>simp[e]
 rw[h]
 clear h
 induction n with
 |zero=>rfl
 |succ n ih=>
  rw[List.replicate_succ,show(n+1)*2=n*2+1+1 by omega,List.replicate_succ,List.replicate_succ,ih]
  rfl
theorem aG (W:World)(p:Addr)(v:Value):W.grownBy (W.setCell p v) (some p.block):=
 ⟨rfl,rfl,rfl,by simp[World.setCell],fun i _ hne=>Below.heap_setCell _ _ _ _ (fun e=>hne (by rw[e]))⟩
theorem az {a b c:World}{row:Option Nat}(h:a.grownBy b row)(k:b.grownBy c row):a.grownBy c row:=
 ⟨k.os.trans h.os,k.tape.trans h.tape,k.output.trans h.output,Nat.le_trans h.size k.size,fun i hi hn=>(k.block i (ah hi h.size) hn).trans (h.block i hi hn)⟩
def iv (x:Int):Value:= .int .i64 x
def IL (w:World)(a:Option Addr)(len:Nat)(xs:List Int):Prop:=
 xs.length=len/\len<=maxLen/\(len=0\/∃b off,a=some ⟨b,off,none⟩/\b<w.heap.size/\∀j,j<len->w.cell? ⟨b,off+j,none⟩=some (.int .i64 (xs.getD j 0)))
theorem IL.kept {w w':World}{a:Option Addr}{len:Nat}{xs:List Int}(h:IL w a len xs)(hB:Below w.heap.size w w'):IL w' a len xs:=by obtain⟨h1,h2,h3|⟨b,off,rfl,hb,hx⟩⟩:=h;{exact⟨h1,h2, .inl h3⟩};exact⟨h1,h2, .inr ⟨b,off,rfl,ah hb hB.size,fun j hj=>(hB.cell (p:=⟨b,off+j,none⟩) hb).trans (hx j hj)⟩⟩
def OI (W:World)(n₀:Nat)(v:Value)(xs:List Int):Prop:=W.ownsRow n₀ 2 1 v xs.length (xs.map iv)
theorem OI.slice {W:World}{n₀:Nat}{v:Value}{xs:List Int}(h:OI W n₀ v xs):∃a cap,v= .slice a xs.length cap/\IL W a xs.length xs:=by rcases h.2 with⟨rfl,h0⟩|⟨g,cap,cur,rfl,hb,hc,hn,hm,hs,ht⟩;{exact⟨none,0,by rw[h0],rfl,by rw[h0];exact Nat.zero_le _, .inl h0⟩};refine⟨_,cap,rfl,rfl,Nat.le_trans hn hm, .inr ⟨g,0,rfl,(h.lt g rfl).2,fun j hj=>?_⟩⟩;have:=h.cellAt j (by omega);rw[Nat.zero_add,this,List.getElem?_map,ag hj,af,ag hj];rfl
theorem OI.kept {W W':World}{n₀:Nat}{v:Value}{xs:List Int}(h:OI W n₀ v xs)(hB:Below W.heap.size W W'):OI W' n₀ v xs:=by refine World.ownsRow.kept (row:=none) h ⟨hB.os,hB.tape,hB.output,hB.size,fun k hk _=>hB.block k hk⟩ ?_;rcases hv:v.ownBlock with _|b;{exact .inl rfl};exact .inr (by simp)
theorem OI.cB {W W':World}{n₀ b:Nat}{v:Value}{xs:List Int}(h:OI W n₀ v xs)(hg:W.grownBy W' (some b))(hne:∀g,v.ownBlock=some g->g≠b):OI W' n₀ v xs:=by refine World.ownsRow.kept h hg ?_;rcases hv:v.ownBlock with _|b';{exact .inl rfl};refine .inr ?_;have:=hne b' hv;simp only[ne_eq,ae];omega
theorem OI.mono {W:World}{n₀ n₁:Nat}{v:Value}{xs:List Int}(h:OI W n₁ v xs)(hn:n₀<=n₁):OI W n₀ v xs:=by refine⟨h.1,?_⟩;rcases h.2 with h'|⟨g',cap',cur,h',hb,r⟩;{exact .inl h'};exact .inr ⟨g',cap',cur,h',Nat.le_trans hn hb,r⟩
theorem OI.nil (W:World)(n₀:Nat):OI W n₀ (.slice none 0 0) []:=⟨rfl, .inl ⟨rfl,rfl⟩⟩
theorem OI.empty (W:World):OI (W.alloc (.cells #[] 2)) W.heap.size (.slice (some ⟨W.heap.size,0,none⟩) 0 0) []:=
 ⟨rfl, .inr ⟨W.heap.size,0,#[],rfl,Nat.le_refl _,World.alloc_heap_new W _,Nat.le_refl _,Nat.zero_le _,rfl,rfl⟩⟩
theorem bR:(Try.prog.info? 2).map (fun i=>(i.zero,i.size,i.bytes))=some (some (.int .i64 0),1,8):=by kernel_rfl
theorem aL (a b:Option Addr)(len cap cap':Nat)(xs:List Int)(w:World)(hs:IL w a len xs)(hs':IL w b len xs):Calls Try.prog 9 #[.slice a len cap, .slice b len cap'] w fun e w'=>e= .returned (.bool true)/\Below w.heap.size w w':=by obtain⟨hl,hm,hrow⟩:=hs;obtain⟨-,-,hrow'⟩:=hs';clear hl;unfold maxLen at hm;go_enter Try.func9,Try.ntmps9;go_wp2;go_loopw [5] (fun i wr=>∃k:Nat,i= .int .i64 k/\k<=len/\Below w.heap.size w wr) (fun i _=>len-(intOf i).toNat);(case atStart=>exact⟨0,rfl,Nat.zero_le _,Below.refl _ _⟩);case round=>obtain⟨k,rfl,hk,hB⟩:=hrel;by_cases hlt:k<len;{rcases hrow with h0|⟨b1,gQ,rfl,hb1,hx1⟩;{omega};rcases hrow' with h0|⟨b2,gT,rfl,hb2,hx2⟩;{omega};obtain⟨p,hpq⟩:∃x,xs.getD k 0=x:=⟨_,rfl⟩;have hx3:=hx1 k hlt;have hx4:=hx2 k hlt;rw[hpq]at hx3 hx4;have hc1:∀wx:dx wr,wx.to.cell? ⟨b1,gQ+k,none⟩=some (.int .i64 p):=fun wx=>((hB.trans (wx.h.mono hB.size)).cell (p:=⟨b1,gQ+k,none⟩) hb1).trans hx3;have hc3:∀wx:dx wr,wx.to.cell? ⟨b2,gT+k,none⟩=some (.int .i64 p):=fun wx=>((hB.trans (wx.h.mono hB.size)).cell (p:=⟨b2,gT+k,none⟩) hb2).trans hx4;have hne:=dx.any wr;clear hx1 hx2 hx3 hx4 hpq;go_wp2;refine aM (by kernel_rfl) (by kernel_rfl) ?_;(repeat(go_big_quiet_step (fail)));refine wpQuiet_nil ?_;rintro _ ⟨pw,rfl⟩;have j3:=hB.trans (pw.h.mono hB.size);generalize pw.to=w7 at*;go_wp2;go_roundw;(case rel=>exact⟨k+1,by simp,by omega,j3⟩);case measure=>simp[intOf];omega};clear hrow hrow';go_wp2;go_ret;exact⟨rfl,hB⟩
def bg (n:Nat):List Int:=(List.range n).map fun(j:Nat)=>(j:Int)+1
theorem dK {n j:Nat}(h:j<n):(bg n).getD j 0=(j:Int)+1:=by simp[bg,af,h]
theorem gK (n:Nat):(bg n).length=n:=by simp[bg]
theorem aH (xs:List Int)(k:Nat)(x:Int):(xs.set k x).map iv=(xs.map iv).set k (.int .i64 x):=by rw[List.map_set];rfl
theorem dR (n₀:Nat)(v:Value)(xs:List Int)(hn:xs.length<=2000000)(w:World)(hs:OI w n₀ v xs):Calls Try.prog 12 #[v, .int .i64 1] w fun e w'=>e= .returned (.int .i64 ((xs.length:Int)+1))/\OI w' n₀ v (bg xs.length)/\w.grownBy w' v.ownBlock:=by obtain⟨a,cap,rfl,-⟩:=hs.slice;obtain⟨n,hln⟩:∃n,xs.length=n:=⟨_,rfl⟩;have hgg:w.grownBy w (Value.slice a n cap).ownBlock:=World.grownBy.refl _ _;unfold OI at hs ⊢;rw[gK];rw[hln]at hs hn ⊢;go_enter Try.func12,Try.ntmps12;go_wp2;go_loopw [1,5] (fun m i wr=>∃(k:Nat)(ys:List Int),m= .int .i64 ((k:Int)+1)/\i= .int .i64 k/\k<=n/\ys.length=n/\(∀j,j<k->ys.getD j 0=(j:Int)+1)/\wr.ownsRow n₀ 2 1 (.slice a n cap) n (ys.map iv)/\w.grownBy wr (Value.slice a n cap).ownBlock) (fun _ i _=>n-(intOf i).toNat);(case atStart=>exact⟨0,xs,rfl,rfl,Nat.zero_le _,hln,by simp,hs,hgg⟩);case round=>obtain⟨k,ys,rfl,rfl,hk,hyl,hys,hown,hg⟩:=hrel;have HY:Hid (ys.length=n/\∀j,j<k->ys.getD j 0=(j:Int)+1):=⟨hyl,hys⟩;clear hs hgg;by_cases hlt:k<n;{rcases hown.2 with⟨h',h0⟩|⟨g,cap',cur,h',_⟩;{omega};cases h';have hc0:=hown.cellAt k (by omega);rw[List.getElem?_map,ag (by omega)]at hc0;simp only[Option.map_some,iv]at hc0;obtain⟨p',hp'⟩:∃x,ys[k]=x:=⟨_,rfl⟩;rw[hp']at hc0;have hf0:=hown.frozenAt k;have aY:=hown.stored k (.int .i64 ((k:Int)+1));rw[←aH ys k]at aY;have HST:=aa aY.1;have HG:=aa (az hg aY.2);clear hyl hys hp' aY hown hg;go_wp2;go_roundw;(case rel=>obtain⟨hyl,hys⟩:=HY.out;refine⟨k+1,ys.set k ((k:Int)+1),by congr 1<;>omega,by simp,by omega,by simp[hyl],fun j hj=>?_,HST.out,HG.out⟩;by_cases e:j=k;{subst e;rw[af,List.getElem?_set_self (by omega)];rfl};rw[←hys j (by omega),af,List.getElem?_set_ne (by omega),←af]);case measure=>simp[intOf];omega};have hke:k=n:=by{omega};subst hke;clear hyl hys;have HOW:=aa (And.intro hown hg);clear hown hg;go_wp2;go_ret;obtain⟨hyl,hys⟩:=HY.out;have e:ys=bg k:=by{apply List.ext_getElem;{rw[hyl];simp[bg]};intro j h1 h2;have:=(hys j (by omega)).trans (dK (n:=k) (by omega)).symm;simpa[af,ag h1,ag h2]using this};rw[←e];exact⟨rfl,HOW.out.1,HOW.out.2⟩
theorem dO (a:Option Addr)(n cap:Nat)(hn:n<=2000000)(w:World)(hs:IL w a n (bg n)):Calls Try.prog 13 #[.slice a n cap, .int .i64 1] w fun e w'=>e= .returned (.int .i64 ((n:Int)+1))/\w'=w:=by obtain⟨-,-,hrow⟩:=hs;go_enter Try.func13,Try.ntmps13;go_wp2;go_loop [1,5] (fun m i=>∃(k:Nat),m= .int .i64 ((k:Int)+1)/\i= .int .i64 k/\k<=n) (fun _ i=>n-(intOf i).toNat);(case atStart=>exact⟨0,rfl,rfl,Nat.zero_le _⟩);case round=>obtain⟨k,rfl,rfl,hk⟩:=hrel;by_cases hlt:k<n;{rcases hrow with h0|⟨b,off,rfl,hb,hx⟩;{omega};have hx0:=hx k hlt;rw[dK hlt]at hx0;clear hx;go_wp2;go_round;(case rel=>exact⟨k+1,by congr 1<;>omega,by simp,by omega⟩);case measure=>simp[intOf];omega};have hke:k=n:=by{omega};subst hke;clear hrow;go_wp2;go_ret;exact⟨rfl,rfl⟩
namespace av
def op (xs:List (Int×Int))(i:Nat):Int:=(xs.getD i (0,0)).1
def close (E O:List Int)(t i:Nat):List Int:=if 0<=O.getD t (-1)then(E.set t i).set (O.getD t (-1)).toNat i else E.set t i
def go (xs:List (Int×Int)):Nat->Nat->List Int->List Int->List Nat->List Int×List Int×Bool
 |0,_,E,O,_=>(E,O,false)
 | f +1,i,E,O,S=>
   if xs.length<=i then(E,O,false)else
   if St.opens (op xs i)=true then go xs f (i+1) E O (i::S)else
   if op xs i=11 then
     match S with
     |[]=>(E,O,false)
     |t::S'=>if op xs t=10/\O.getD t (-1)<0 then go xs f (i+1) E (O.set t i) (t::S')else(E,O,false)
   else if op xs i=12 then
     match S with
     |[]=>(E,O,decide (i+1=xs.length))
     |t::S'=>go xs f (i+1) (close E O t i) O S'
   else go xs f (i+1) E O S
def bZ (n:Nat):List Int:=List.replicate n (-1)
def all (xs:List (Int×Int)):List Int×List Int×Bool:=go xs (xs.length+1) 0 (bZ xs.length) (bZ xs.length) []
def isOk (xs:List (Int×Int)):Bool:=(decide (xs.length<=80)&&St.aT xs)&&(all xs).2.2
def ends (xs:List (Int×Int)):List Int:=if isOk xs=true then(all xs).1 else[]
def cz (xs:List (Int×Int)):List Int:=if isOk xs=true then(all xs).2.1 else[]
def df (xs:List (Int×Int))(E:List Int)(at':Int):Nat->List Int
 |0=>[]
 |k+1=>if St.opens (op xs k)=true/\at'<=E.getD k (-1)then(k:Int)::df xs E at' k else df xs E at' k
variable {xs : List (Int × Int)} {f i t : Nat} {E O : List Int} {S S' : List Nat}
theorem nH (h:xs.length<=i):go xs (f+1) i E O S=(E,O,false):=by unfold go;rw[ak h]
theorem gq (h:i<xs.length)(ho:St.opens (op xs i)=true):go xs (f+1) i E O S=go xs f (i+1) E O (i::S):=by(conv=>lhs;unfold go);rw[aj (by omega),ak ho]
theorem jU (h:i<xs.length)(ho:St.opens (op xs i)=false)(h1:op xs i=11):go xs (f+1) i E O []=(E,O,false):=by unfold go;rw[aj (by omega),aj (by simp[ho]),ak h1]
theorem jy (h:i<xs.length)(ho:St.opens (op xs i)=false)(h1:op xs i=11)(h2:¬(op xs t=10/\O.getD t (-1)<0)):go xs (f+1) i E O (t::S')=(E,O,false):=by unfold go;rw[aj (by omega),aj (by simp[ho]),ak h1];exact aj h2
theorem fH (h:i<xs.length)(ho:St.opens (op xs i)=false)(h1:op xs i=11)(h2:op xs t=10/\O.getD t (-1)<0):go xs (f+1) i E O (t::S')=go xs f (i+1) E (O.set t i) (t::S'):=by(conv=>lhs;unfold go);rw[aj (by omega),aj (by simp[ho]),ak h1];exact ak h2
theorem kT (h:i<xs.length)(ho:St.opens (op xs i)=false)(h1:op xs i≠11)(h2:op xs i=12):go xs (f+1) i E O []=(E,O,decide (i+1=xs.length)):=by unfold go;rw[aj (by omega),aj (by simp[ho]),aj h1,ak h2]
theorem fC (h:i<xs.length)(ho:St.opens (op xs i)=false)(h1:op xs i≠11)(h2:op xs i=12):go xs (f+1) i E O (t::S')=go xs f (i+1) (close E O t i) O S':=by(conv=>lhs;unfold go);rw[aj (by omega),aj (by simp[ho]),aj h1,ak h2]
theorem fJ (h:i<xs.length)(ho:St.opens (op xs i)=false)(h1:op xs i≠11)(h2:op xs i≠12):go xs (f+1) i E O S=go xs f (i+1) E O S:=by(conv=>lhs;unfold go);rw[aj (by omega),aj (by simp[ho]),aj h1,aj h2]
theorem iQ:(close E O t i).length=E.length:=by unfold close;split<;>simp
end av
end Go.Proofs.Ythamlonlgnjljab
