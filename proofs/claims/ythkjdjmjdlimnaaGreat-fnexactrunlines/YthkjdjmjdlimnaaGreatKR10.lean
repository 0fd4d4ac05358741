/-
  Own texts for a law: Run0 Run1 Run2 Mem4 Mem7 Wlk0 Run4 Run6 Run7
-/
import Derived.Test.YthkjdjmjdlimnaaGreatKR09
import Derived.Laws.CopyRow
import Derived.WalkLawsBesides
namespace Go.Proofs.YthkjdjmjdlimnaaGreat
open Go.RowKit Go.Shelf
set_option linter.all false
set_option maxRecDepth 100000
set_option maxHeartbeats 16000000
def wv (x:Int):Value:= .int .u32 x
section
variable {mem : List Int} {aG di depth : Int} {fv nv : Value}
end
structure fU (P:Nat)(W0 W:World):Prop where
 os:W.os=W0.os
 tape:W.tape=W0.tape
 out:W.output=W0.output
 size:W0.heap.size<=W.heap.size
 blk:∀i,i<W0.heap.size->i≠P->W.heap[i]?=W0.heap[i]?
theorem fU.refl (P:Nat)(W:World):fU P W W:=⟨rfl,rfl,rfl,Nat.le_refl _,fun _ _ _=>rfl⟩
theorem fU.trans {P:Nat}{W0 W1 W2:World}(h:fU P W0 W1)(k:fU P W1 W2):fU P W0 W2:=
 ⟨k.os.trans h.os,k.tape.trans h.tape,k.out.trans h.out,Nat.le_trans h.size k.size,fun i hi h1=>(k.blk i (ai hi h.size) h1).trans (h.blk i hi h1)⟩
theorem fU.below {P:Nat}{W W':World}(h:Below W.heap.size W W'):fU P W W':=⟨h.os,h.tape,h.output,h.size,fun i hi _=>h.block i hi⟩
theorem fU.grow {P:Nat}{W0 W W':World}{row:Option Nat}(h:fU P W0 W)(hg:W.grownBy W' row)(hr:∀r,row=some r->W0.heap.size<=r\/r=P):fU P W0 W':=
 ⟨hg.os.trans h.os,hg.tape.trans h.tape,hg.output.trans h.out,Nat.le_trans h.size hg.size,fun i hi h1=>(hg.block i (ai hi h.size) (fun e=>by
   rcases hr i e.symm with q|q
   · omega
   · exact h1 q)).trans (h.blk i hi h1)⟩
section
variable {P : Program}
theorem lI (w:World)(g:Nat)(t ty:TypeId)(vs tl:List Value)(n:Nat)(e:TypeId)(hg:bP w g t (vs++tl))(hu:P.underlying ty=some (.array n e))(hi:(P.info? ty).map (·.size)=some vs.length):(loadVar ty ⟨g,0,none⟩).run P w= .ok (.agg vs.toArray) w:=by
 have hl:(loadCells ⟨g,0,none⟩ vs.length).run P w= .ok vs.toArray w:=
   run_loadCells_list (P:=P) w ⟨g,0,none⟩ vs (fun j v hv=>by
     have hadd:(⟨g,0,none⟩:Addr).add j=⟨g,j,none⟩:=by unfold Addr.add;split<;>simp_all
     rw[hadd]
     refine hg.cell ?_
     have hj:=(List.getElem?_eq_some_iff.1 hv).1
     rw[List.getElem?_append_left hj]
     exact hv)
 cases hq:P.info? ty with
 |none=>simp[hq]at hi
 |some i=>
  have hs:i.size=vs.length:=by simpa[hq]using hi
  have hagg:(isAgg ty).run P w= .ok true w:=by unfold isAgg;rw[Sem.run_bind,run_underlying hu w];rfl
  simp[loadVar,hagg,sizeOf,typeInfo,hq,hs,hl]
theorem kJ (w:World)(g:Nat)(t ty:TypeId)(vs ws tl:List Value)(hg:bP w g t (vs++tl))(hi:(P.info? ty).map (·.size)=some ws.length)(hl:vs.length=ws.length)(h1:∀v∈ws,v.oneCell'=true):∃w',(storeVar ty ⟨g,0,none⟩ (.agg ws.toArray)).run P w= .ok () w'/\bP w' g t (ws++tl)/\w.grownBy w' (some g):=by
 have hst:=run_storeCells_at (P:=P) g 0 t ws 0 (vs++tl).toArray w hg (by simp;omega) h1
 have e:List.take (0+0) (vs++tl).toArray.toList++ws++List.drop (0+0+ws.length) (vs++tl).toArray.toList=ws++tl:=by simp[←hl]
 rw[e]at hst
 refine⟨w.setRow g (ws++tl).toArray,?_,hg.row _,jv w g _⟩
 cases hq:P.info? ty with
 |none=>simp[hq]at hi
 |some i=>
  have hs:ws.length=i.size:=by simp[hq]at hi;omega
  simp[storeVar,sizeOf,typeInfo,hq,Value.cells,hs,hst]
end
def iJ (c:Int):Ending:= .panicked [{v:= .iface 171 (.int .i64 c),recovered:=false}]
section
variable {P : Nat} {mem : List Int} {aG di depth : Int} {fv nv : Value} {W : World}
theorem kK (W:World)(k:Nat)(p:Addr)(v:Value):W.grownBy ((W.drewN k).setCell p v) (some p.block):=by have h1:=below_drewN W k;have h2:=aA (W.drewN k) p v;exact⟨h2.os.trans h1.os,h2.tape.trans h1.tape,h2.output.trans h1.output,Nat.le_trans h1.size h2.size,fun i hi hne=>(h2.block i (ai hi h1.size) hne).trans (h1.block i hi)⟩
theorem bP.drewN {g:Nat}{t:TypeId}{vs:List Value}(h:bP W g t vs)(k:Nat):bP (W.drewN k) g t vs:=h.kept (below_drewN W k)
end
theorem kv (a o:Int)(ha:Wd.ok a=true)(h:Mm.there a o=false)(w:World):Calls Tryz.prog 139 #[.int .u32 a, .int .i64 o] w fun e w'=>e=iJ 3/\w'=w:=by obtain⟨h3,h4⟩:=Wd.aL.1 ha;go_enter Tryz.func139,Tryz.ntmps139;go_wp2_with(go_at_call 146;refine(mO _ _ _).mono ?_;rintro e w' ⟨rfl,aQ⟩;subst w';rw[h]);exact⟨rfl,rfl,rfl⟩
theorem kS (a o:Int)(ha:Wd.ok a=true)(h:Mm.there a o=true)(w:World):Calls Tryz.prog 139 #[.int .u32 a, .int .i64 o] w fun e w'=>e= .returned (.int .i64 (a+o))/\w'=w:=by obtain⟨h3,h4⟩:=Wd.aL.1 ha;go_enter Tryz.func139,Tryz.ntmps139;go_wp2_with(go_at_call 146;refine(mO _ _ _).mono ?_;rintro e w' ⟨rfl,aQ⟩;subst w';rw[h,ax rfl]);go_ret;exact⟨rfl,rfl⟩
theorem vC (k a b:Int)(ha:Wd.ok a=true)(hb:Wd.ok b=true)(h:¬Wd.dc k a b=0)(w:World):Calls Tryz.prog 123 #[.int .i64 k, .int .u32 a, .int .u32 b] w fun e w'=>e=iJ (Wd.dc k a b)/\Below w.heap.size w w':=by obtain⟨y,hy⟩:∃y,Wd.dc k a b=y:=⟨_,rfl⟩;obtain⟨x,hx⟩:∃x,Wd.dv k a b=x:=⟨_,rfl⟩;have hcon:=pV k a b w ha hb;rw[hy]at h hcon ⊢;rw[hx]at hcon;clear hx hy;go_enter Tryz.func123,Tryz.ntmps123;go_wp2_with(go_at_call 137;refine hcon.mono ?_;rintro e w' ⟨rfl,q,rfl⟩;clear hcon);exact⟨rfl,rfl,below_drewN w q⟩
theorem l8 (k a b:Int)(ha:Wd.ok a=true)(hb:Wd.ok b=true)(h:Wd.dc k a b=0)(w:World):Calls Tryz.prog 123 #[.int .i64 k, .int .u32 a, .int .u32 b] w fun e w'=>e= .returned (.int .u32 (Wd.dv k a b))/\Below w.heap.size w w':=by obtain⟨x,hx⟩:∃x,Wd.dv k a b=x:=⟨_,rfl⟩;have hcon:=pV k a b w ha hb;rw[h,hx]at hcon;rw[hx];clear hx h;go_enter Tryz.func123,Tryz.ntmps123;go_wp2_with(go_at_call 137;refine hcon.mono ?_;rintro e w' ⟨rfl,q,rfl⟩;clear hcon);go_ret;exact⟨rfl,below_drewN w q⟩
theorem pY:(Tryz.prog.info? 125).map (fun i=>(i.zero,i.size,i.bytes))=some (some (.int .u32 0),1,4):=by kernel_rfl
def ik (W W':World)(b j:Nat)(v:Value):Prop:=W.grownBy W' (some b)/\W'.heap[b]?=(W.setCell ⟨b,j,none⟩ v).heap[b]?
theorem ik.of {W W1:World}(hB:Below W.heap.size W W1){b j:Nat}(hb:b<W.heap.size)(v:Value):ik W (W1.setCell ⟨b,j,none⟩ v) b j v:=by have h2:=aA W1 ⟨b,j,none⟩ v;refine⟨⟨h2.os.trans hB.os,h2.tape.trans hB.tape,h2.output.trans hB.output,Nat.le_trans hB.size h2.size,fun i hi hne=>(h2.block i (ai hi hB.size) hne).trans (hB.block i hi)⟩,?_⟩;have:=hB.block b hb;simp only[World.setCell,Array.getElem?_modify,if_true,this]
theorem ik.kept {W W' W2:World}{b j:Nat}{v:Value}(h:ik W W' b j v)(hb:b<W.heap.size)(hB:Below W'.heap.size W' W2):ik W W2 b j v:=by have h1:=h.1;exact⟨⟨hB.os.trans h1.os,hB.tape.trans h1.tape,hB.output.trans h1.output,Nat.le_trans h1.size hB.size,fun i hi hne=>(hB.block i (ai hi h1.size)).trans (h1.block i hi hne)⟩,(hB.block b (ai hb h1.size)).trans h.2⟩
theorem ik.fA {W W':World}{b j:Nat}{v:Value}(h:ik W W' b j v)(hb:b<W.heap.size){B i:Nat}{x:Value}(hB:W.heap.size<=B):ik W (W'.setCell ⟨B,i,none⟩ x) b j v:=by have h1:=h.1;have h2:=aA W' ⟨B,i,none⟩ x;refine⟨⟨h2.os.trans h1.os,h2.tape.trans h1.tape,h2.output.trans h1.output,Nat.le_trans h1.size h2.size,fun i hi hne=>(h2.block i (ai hi h1.size) (by simp only[ne_eq,af];omega)).trans (h1.block i hi hne)⟩,?_⟩;rw[h2.block b (ai hb h1.size) (by simp only[ne_eq,af];omega)];exact h.2
theorem bF.jC {W W':World}{b j:Nat}{v:Value}{vs:List Value}(h:bF W b vs)(hs:ik W W' b j v):bF W' b (vs.set j v):=by have h1:=h.set j v;refine⟨ai h.1 hs.1.size,fun i x hx=>?_⟩;obtain⟨c1,c2⟩:=h1.2 i x hx;exact⟨(World.cell?_of_block hs.2).trans c1,by unfold World.frozen?;rw[hs.2];exact c2⟩
section
variable {W : World} {b j base n : Nat} {v : Value}
end
def OT (W:World)(n₀:Nat)(v:Value)(xs:List Int):Prop:=∃t,W.ownsRow n₀ t 1 v xs.length (xs.map iv)
theorem OI.ot {W:World}{n₀:Nat}{v:Value}{xs:List Int}(h:OI W n₀ v xs):OT W n₀ v xs:=⟨_,h⟩
theorem OT.slice {W:World}{n₀:Nat}{v:Value}{xs:List Int}(h:OT W n₀ v xs):∃a cap,v= .slice a xs.length cap/\IL W a xs.length xs:=by obtain⟨t,h⟩:=h;rcases h.2 with⟨rfl,h0⟩|⟨g,cap,cur,rfl,hb,hc,hn,hm,hs,ht⟩;{exact⟨none,0,by rw[h0],rfl,by rw[h0];exact Nat.zero_le _, .inl h0⟩};refine⟨_,cap,rfl,rfl,Nat.le_trans hn hm, .inr ⟨g,0,rfl,(h.lt g rfl).2,fun j hj=>?_⟩⟩;have:=h.cellAt j (by omega);rw[Nat.zero_add,this,List.getElem?_map,ah hj,ag,ah hj];rfl
theorem OT.il {W:World}{n₀:Nat}{a:Option Addr}{n c:Nat}{xs:List Int}(h:OT W n₀ (.slice a n c) xs):n=xs.length/\IL W a n xs:=by obtain⟨a',c',e,hil⟩:=h.slice;simp only[Value.slice.injEq]at e;obtain⟨rfl,rfl,rfl⟩:=e;exact⟨rfl,hil⟩
theorem OT.kept {W W':World}{n₀:Nat}{v:Value}{xs:List Int}(h:OT W n₀ v xs)(hB:Below W.heap.size W W'):OT W' n₀ v xs:=by obtain⟨t,h⟩:=h;refine⟨t,World.ownsRow.kept (row:=none) h ⟨hB.os,hB.tape,hB.output,hB.size,fun k hk _=>hB.block k hk⟩ ?_⟩;rcases hv:v.ownBlock with _|b;{exact .inl rfl};exact .inr (by simp)
theorem OT.fA {W W':World}{n₀ b:Nat}{v:Value}{xs:List Int}(h:OT W n₀ v xs)(hg:W.grownBy W' (some b))(hne:∀g,v.ownBlock=some g->g≠b):OT W' n₀ v xs:=by obtain⟨t,h⟩:=h;refine⟨t,World.ownsRow.kept h hg ?_⟩;rcases hv:v.ownBlock with _|b';{exact .inl rfl};refine .inr ?_;have:=hne b' hv;simp only[ne_eq,af];omega
theorem OT.mono {W:World}{n₀ n₁:Nat}{v:Value}{xs:List Int}(h:OT W n₁ v xs)(hn:n₀<=n₁):OT W n₀ v xs:=by obtain⟨t,h⟩:=h;refine⟨t,h.1,?_⟩;rcases h.2 with h'|⟨g',cap',cur,h',hb,r⟩;{exact .inl h'};exact .inr ⟨g',cap',cur,h',Nat.le_trans hn hb,r⟩
theorem OT.lt {W:World}{n₀:Nat}{v:Value}{xs:List Int}(h:OT W n₀ v xs)(g:Nat)(hg:v.ownBlock=some g):n₀<=g/\g<W.heap.size:=by obtain⟨t,h⟩:=h;exact World.ownsRow.lt h g hg
theorem bP.ot {W:World}{n₀ g:Nat}{t:TypeId}{xs:List Int}(h:bP W g t (xs.map iv))(hg:n₀<=g)(hm:xs.length<=maxLen):OT W n₀ (.slice (some ⟨g,0,none⟩) xs.length xs.length) xs:=
 ⟨t,by simp, .inr ⟨g,xs.length,(xs.map iv).toArray,rfl,hg,h,Nat.le_refl _,hm,by simp,by rw[Nat.mul_one];exact List.take_of_length_le (by simp)⟩⟩
theorem oF (n₀:Nat)(v:Value)(xs:List Int)(hn:xs.length<=2000000)(w:World)(hs:OT w n₀ v xs):Calls Tryz.prog 26 #[v, .int .i64 1] w fun e w'=>e= .returned (.int .i64 ((xs.length:Int)+1))/\OT w' n₀ v (fV xs.length)/\w.grownBy w' v.ownBlock:=by obtain⟨a,cap,rfl,-⟩:=hs.slice;obtain⟨ty,hs⟩:=hs;obtain⟨n,hln⟩:∃n,xs.length=n:=⟨_,rfl⟩;have hgg:w.grownBy w (Value.slice a n cap).ownBlock:=World.grownBy.refl _ _;rw[hln]at hs hn ⊢;suffices h:Calls Tryz.prog 26 #[.slice a n cap, .int .i64 1] w fun e w'=>e= .returned (.int .i64 ((n:Int)+1))/\w'.ownsRow n₀ ty 1 (.slice a n cap) n ((fV n).map iv)/\w.grownBy w' (Value.slice a n cap).ownBlock by{refine h.mono ?_;rintro e w' ⟨h1,h2,h3⟩;exact⟨h1,⟨ty,by rw[jW];exact h2⟩,h3⟩};go_enter Tryz.func26,Tryz.ntmps26;go_wp2;go_loopw [1,5] (fun m i wr=>∃(k:Nat)(ys:List Int),m= .int .i64 ((k:Int)+1)/\i= .int .i64 k/\k<=n/\ys.length=n/\(∀j,j<k->ys.getD j 0=(j:Int)+1)/\wr.ownsRow n₀ ty 1 (.slice a n cap) n (ys.map iv)/\w.grownBy wr (Value.slice a n cap).ownBlock) (fun _ i _=>n-(intOf i).toNat);(case atStart=>exact⟨0,xs,rfl,rfl,Nat.zero_le _,hln,by simp,hs,hgg⟩);case round=>obtain⟨k,ys,rfl,rfl,hk,hyl,hys,hown,hg⟩:=hrel;have HY:Hid (ys.length=n/\∀j,j<k->ys.getD j 0=(j:Int)+1):=⟨hyl,hys⟩;clear hs hgg;by_cases hlt:k<n;{rcases hown.2 with⟨h',h0⟩|⟨g,cap',cur,h',_⟩;{omega};cases h';have hc0:=hown.cellAt k (by omega);rw[List.getElem?_map,ah (by omega)]at hc0;simp only[Option.map_some,iv]at hc0;obtain⟨p',hp'⟩:∃x,ys[k]=x:=⟨_,rfl⟩;rw[hp']at hc0;have hf0:=hown.frozenAt k;have fE:=hown.stored k (.int .i64 ((k:Int)+1));rw[←dJ ys k]at fE;have HST:=ae fE.1;have HG:=ae (aU hg fE.2);clear hyl hys hp' fE hown hg;go_wp2;go_roundw;(case rel=>obtain⟨y1,y2⟩:=kF (f:=fun j=>(j:Int)+1) HY.out hlt rfl;exact⟨k+1,ys.set k ((k:Int)+1),by congr 1<;>omega,by simp,by omega,y1,y2,HST.out,HG.out⟩);case measure=>simp[intOf];omega};have hke:k=n:=by{omega};subst hke;clear hyl hys;have HOW:=ae (aj hown hg);clear hown hg;go_wp2;go_ret;have e:ys=fV k:=kU ⟨HY.out.1,fun j hj=>(HY.out.2 j hj).trans (nO hj).symm⟩ (jW k);rw[←e];exact⟨rfl,HOW.out.1,HOW.out.2⟩
theorem yR (bs:List Int)(hl:bs.length=64)(hb:∀j,0<=bs.getD j 0/\bs.getD j 0<=255)(w:World):Calls Tryz.prog 103 #[.agg (bs.map bv).toArray] w fun e w'=>∃v,e= .returned v/\OT w' w.heap.size v bs/\Below w.heap.size w w':=by have HL:=ae (aj hl hb);obtain⟨cs,hcs⟩:∃cs,bs.map bv=cs:=⟨_,rfl⟩;obtain⟨zs,hzs⟩:∃zs,(List.replicate 64 (0:Int)).map iv=zs:=⟨_,rfl⟩;have HZ:=xH;rw[hcs];rw[hzs]at HZ;have hlc:cs.length=64:=by{rw[←hcs,List.length_map];exact hl};have hlz:zs.length=64:=by{rw[←hzs];simp};clear hl hb;go_enter Tryz.func103,Tryz.ntmps103;go_wp2_with(refine jr 115 _ rfl ?_);refine⟨?_⟩;refine fI rfl _ _ rfl cs rfl ?_;intro g1 w1 hg1 hA1 hB1;go_wp2_with(refine eF 115 _ rfl ?_);refine⟨?_⟩;refine dm rfl _ _ rfl g1 rfl _ _ hA1 64 5 Tryz.underlying115 (by rw[hlc];exact dX) ?_;go_wp2_with fail;rw[←hcs];refine(uF bs HL.out.1 HL.out.2 _).mono ?_;rintro e w2 ⟨rfl,hB2⟩;obtain⟨is,his⟩:∃is,bs.map iv=is:=⟨_,rfl⟩;have Df:is.length=64:=by{rw[←his,List.length_map];exact HL.out.1};have hone:∀x∈is,x.oneCell'=true:=by{rw[←his];exact nP};have R4:=ae his;rw[his];have hBa:=hB1.trans (hB2.mono hB1.size);dsimp only;go_wp2_with(refine dw 168 rfl ?_);refine⟨?_⟩;refine bN rfl _ rfl zs 64 HZ ?_;intro g3 w3 hg3 hA3 hB3;have hBb:=hBa.trans (hB3.mono hBa.size);go_wp2_with(refine dY 168 _ _ rfl ?_);refine⟨?_⟩;refine cu rfl _ _ _ rfl g3 is rfl rfl _ _ hA3 (by rw[Df];exact lJ) (by rw[Df,hlz]) hone ?_;intro w5 Dc hg5;have GN:=ae Dc;have ho:w.heap.size<=g3:=by{have:=hg3.out;have:=hBa.size;omega};have Xz:=ae (aF hBb hg5 ho);clear hBa hBb hB1 hB2 hB3 hA1 hA3 hg5 Dc his;go_wp2;go_ret;have h:=GN.out;rw[←R4.out]at h;have h2:=h.ot ho (by rw[HL.out.1];simp[maxLen]);rw[HL.out.1]at h2;exact⟨_,rfl,h2,Xz.out⟩
theorem cB (a:Option Addr)(len cap:Nat)(xs:List Int)(w:World)(hs:IL w a len xs):Calls Tryz.prog 18 #[.slice a len cap] w fun e w'=>e= .returned (.bool (Mm.ok xs))/\w'=w:=by obtain⟨hl,hm,hrow⟩:=hs;have HL:=ae hl;unfold maxLen at hm;clear hl;go_enter Tryz.func18,Tryz.ntmps18;go_wp2;go_loop [3] (fun i=>∃k:Nat,i= .int .i64 k/\k<=len/\∀j,j<k->0<=xs.getD j 0/\xs.getD j 0<=255) (fun i=>len-(intOf i).toNat);(case atStart=>exact⟨0,rfl,Nat.zero_le _,by simp⟩);case round=>obtain⟨k,rfl,hk,hall⟩:=hrel;have HA:=ae hall;clear hall;by_cases hlt:k<len;{rcases hrow with h0|⟨b,off,rfl,hb,hx⟩;{omega};have hx0:=hx k hlt;have gU:(k:Int)<(len:Int):=by{omega};obtain⟨p,hp⟩:∃p,xs.getD k 0=p:=⟨_,rfl⟩;rw[hp]at hx0;have HP:=ae hp;clear hx hp;rcases hin:Wd.bO p 0 255 with _|_;{go_wp2_with(go_at_call 47;refine(aH _ _ _ _).mono ?_;rintro e w' ⟨rfl,aQ⟩;subst w';rw[hin]);go_ret;refine⟨bV ?_,rfl⟩;symm;rw[Bool.eq_false_iff];intro h;have h2:=Mm.gF h k;rw[HP.out,←Wd.bz,hin]at h2;cases h2};go_wp2_with(go_at_call 47;refine(aH _ _ _ _).mono ?_;rintro e w' ⟨rfl,aQ⟩;subst w';rw[hin]);go_round;(case rel=>refine⟨k+1,by simp,by omega,fun j hj=>?_⟩;by_cases e:j=k;{subst e;rw[HP.out];exact Wd.bz.1 hin};exact HA.out j (by omega));case measure=>simp[intOf];omega};have gU:¬(k:Int)<(len:Int):=by{omega};have hke:k=len:=by{omega};have hall:∀x∈xs,0<=x/\x<=255:=by{refine Mm.wJ fun j=>?_;by_cases hj:j<len;{exact HA.out j (by omega)};rw[ag,List.getElem?_eq_none (by rw[HL.out];omega)];exact⟨by simp,by simp⟩};have R5:=ae hall;clear hrow hall;by_cases h64:len=64;{have hb:((len:Int)==64)=true:=by{simp[h64]};clear hke;go_wp2;go_ret;refine⟨bV ?_,rfl⟩;rw[(Mm.aL (xs:=xs)).2 ⟨HL.out.trans h64,R5.out⟩]};have hb:((len:Int)==64)=false:=by{simp;omega};clear hke;go_wp2;go_ret;refine⟨bV ?_,rfl⟩;have:Mm.ok xs=false:=by{rw[Bool.eq_false_iff];intro h;exact h64 (HL.out.symm.trans (Mm.ed h))};rw[this]
theorem kI (a o:Int)(w:World):Calls Tryz.prog 90 #[.int .i64 a, .int .i64 o] w fun e w'=>e= .returned (.bool (Mm.there a o))/\w'=w:=by rcases hok:Wd.ok a;{have hth:Mm.there a o=false:=by{simp[Mm.there,hok]};rw[hth];go_enter Tryz.func90,Tryz.ntmps90;go_wp2_with(go_at_call 56;refine(aD _ _).mono ?_;rintro e w' ⟨rfl,aQ⟩;subst w';rw[hok]);go_ret;exact⟨rfl,rfl⟩};have h0:=Wd.aL.1 hok;have ha0:=h0.1;have ha1:=h0.2;clear h0;rcases hin:Wd.bO o 0 255;{have hth:Mm.there a o=false:=by{simp[Mm.there,hin]};rw[hth];go_enter Tryz.func90,Tryz.ntmps90;go_wp2_with(first|(go_at_call 56;refine(aD _ _).mono ?_;rintro e w' ⟨rfl,aQ⟩;subst w';rw[hok])|(go_at_call 47;refine(aH _ _ _ _).mono ?_;rintro e w' ⟨rfl,aQ⟩;subst w';rw[hin]));go_ret;exact⟨rfl,rfl⟩};have h1:=Wd.bz.1 hin;have ho0:=h1.1;have ho1:=h1.2;clear h1;have hth:Mm.there a o=decide (a+o+4<=64):=by{rw[Mm.there,hok,hin,Bool.true_and,Bool.true_and];exact decide_eq_decide.2 (by omega)};rw[hth];go_enter Tryz.func90,Tryz.ntmps90;go_wp2_with(first|(go_at_call 56;refine(aD _ _).mono ?_;rintro e w' ⟨rfl,aQ⟩;subst w';rw[hok])|(go_at_call 47;refine(aH _ _ _ _).mono ?_;rintro e w' ⟨rfl,aQ⟩;subst w';rw[hin]));go_ret;exact⟨rfl,rfl⟩
theorem tX (a:Option Addr)(cap:Nat)(xs:List Int)(k:Nat)(hk:k+4<=64)(w:World)(hs:IL w a 64 xs)(hb:∀j,0<=xs.getD j 0/\xs.getD j 0<=255):Calls Tryz.prog 91 #[.slice a 64 cap, .int .i64 k] w fun e w'=>e= .returned (.int .i64 (Mm.fP xs k 4))/\Below w.heap.size w w':=by obtain⟨hl,hm,hrow⟩:=hs;rcases hrow with h0|⟨b,off,rfl,hbl,hx⟩;{omega};have c0:=hx k (by omega);have c1:=hx (k+1) (by omega);have c2:=hx (k+2) (by omega);have c3:=hx (k+3) (by omega);have HN:Hid (Mm.fP xs k 4=xs.getD k 0+xs.getD (k+1) 0*256+xs.getD (k+2) 0*65536+xs.getD (k+3) 0*16777216):=by{show _=_;simp only[Mm.fP,Nat.add_zero,show(256:Int) ^ 0=1 from rfl,show(256:Int) ^ 1=256 from rfl,show(256:Int) ^ 2=65536 from rfl,show(256:Int) ^ 3=16777216 from rfl];omega};have b0:=hb k;have b1:=hb (k+1);have b2:=hb (k+2);have b3:=hb (k+3);obtain⟨p0,h0⟩:∃p,xs.getD k 0=p:=⟨_,rfl⟩;obtain⟨p1,h1⟩:∃p,xs.getD (k+1) 0=p:=⟨_,rfl⟩;obtain⟨p2,h2⟩:∃p,xs.getD (k+2) 0=p:=⟨_,rfl⟩;obtain⟨p3,h3⟩:∃p,xs.getD (k+3) 0=p:=⟨_,rfl⟩;rw[h0]at c0 b0;rw[h1]at c1 b1;rw[h2]at c2 b2;rw[h3]at c3 b3;rw[h0,h1,h2,h3]at HN;obtain⟨b00,b01⟩:=b0;obtain⟨b10,b11⟩:=b1;obtain⟨b20,ZC⟩:=b2;obtain⟨ZE,ZF⟩:=b3;clear h0 h1 h2 h3 hx hb hm hl;have k0:(k:Int)<64:=by{omega};go_enter Tryz.func91,Tryz.ntmps91;go_wp2;go_quiet (fail);go_wp2;go_ret;exact⟨by rw[HN.out];rfl,below_drewN _ _⟩
theorem bX (a:Option Addr)(len cap:Nat)(xs:List Int)(h20:len<=1048576)(w:World)(hs:IL w a len xs):Calls Tryz.prog 21 #[.slice a len cap] w fun e w'=>∃g c,e= .returned (.slice (some ⟨g,0,none⟩) len c)/\w.heap.size<=g/\OI w' w.heap.size (.slice (some ⟨g,0,none⟩) len c) xs/\Below w.heap.size w w':=by obtain⟨hl,hm,hrow⟩:=hs;have HL:=ae hl;clear hm hl;obtain⟨i0,hi,hz0,hz1,hz2⟩:=info_parts iK;obtain⟨wm,hmk,hown,hgrow⟩:=run_make_full (P:=Tryz.prog) w w.heap.size 27 2 i0 _ 1 Tryz.underlying27 hi hz0 hz1 .i64 .i64 len (by rw[hz2];omega) (by simp only[maxLen];omega) (Nat.le_refl _);have hBm:Below w.heap.size w wm:=⟨hgrow.os,hgrow.tape,hgrow.output,hgrow.size,fun k hk=>hgrow.block k hk (by simp)⟩;have hown0:wm.ownsRow w.heap.size 2 1 (.slice (some ⟨w.heap.size,0,none⟩) len len) len ((List.replicate len 0).map iv):=by{have e:(madeCells (Value.int .i64 0).cells (len*1)).toList=List.replicate (len*1) (iv 0):=toList_madeCells_one _ _;rw[List.map_replicate];rw[e,Nat.mul_one]at hown;exact hown};clear hown hgrow;go_enter Tryz.func21,Tryz.ntmps21;go_wp2;go_loopw [4] (fun i wr=>∃(k:Nat)(ys:List Int),i= .int .i64 k/\k<=len/\ys.length=len/\(∀j,j<k->ys.getD j 0=xs.getD j 0)/\wr.ownsRow w.heap.size 2 1 (.slice (some ⟨w.heap.size,0,none⟩) len len) len (ys.map iv)/\Below w.heap.size w wr) (fun i _=>len-(intOf i).toNat);(case atStart=>exact⟨0,List.replicate len 0,rfl,Nat.zero_le _,by simp,by simp,hown0,hBm⟩);case round=>obtain⟨k,ys,rfl,hk,hyl,hys,hown,hB⟩:=hrel;have HY:=ae (aj hyl hys);clear hown0;by_cases hlt:k<len;{rcases hrow with h0|⟨b,off,rfl,hb,hx⟩;{omega};have hx0:=(hB.cell (p:=⟨b,off+k,none⟩) hb).trans (hx k hlt);obtain⟨p,hp⟩:∃p,xs.getD k 0=p:=⟨_,rfl⟩;rw[hp]at hx0;have HP:=ae hp;have hc0:=hown.cellAt k (by omega);rw[dV (by omega)]at hc0;obtain⟨q,hq⟩:∃q,ys.getD k 0=q:=⟨_,rfl⟩;rw[hq]at hc0;have hf0:=hown.frozenAt k;have fE:=hown.stored k (.int .i64 p);rw[←dJ ys k]at fE;have HST:=ae fE.1;have HB:=ae (hB.setCell (p:=⟨w.heap.size,k,none⟩) (Nat.le_refl _) (.int .i64 p));clear hyl hys hp hq fE hown hx hB;unfold iv at hc0;go_wp2;go_roundw;(case rel=>obtain⟨y1,y2⟩:=kF (f:=fun j=>xs.getD j 0) HY.out hlt HP.out;exact⟨k+1,ys.set k p,by simp,by omega,y1,y2,HST.out,HB.out⟩);case measure=>simp[intOf];omega};have hke:k=len:=by{omega};subst hke;have e:ys=xs:=kU HY.out HL.out;subst e;have HO:=ae (aj hown hB);clear hyl hys hown hB hrow HY;go_wp2;go_ret;refine⟨_,_,rfl,Nat.le_refl _,?_,HO.out.2⟩;unfold OI;rw[HL.out];exact HO.out.1
theorem qZ (n₀:Nat)(g cap:Nat)(xs:List Int)(hl:xs.length=64)(k:Nat)(hk:k+4<=64)(v:Int)(h0:0<=v)(h1:v<=4294967295)(w:World)(hs:w.ownsRow n₀ 2 1 (.slice (some ⟨g,0,none⟩) 64 cap) 64 (xs.map iv)):Calls Tryz.prog 92 #[.slice (some ⟨g,0,none⟩) 64 cap, .int .i64 k, .int .i64 v] w fun e w'=>e= .returned (.tuple #[])/\w'.ownsRow n₀ 2 1 (.slice (some ⟨g,0,none⟩) 64 cap) 64 ((Mm.dZ xs k v 4).map iv)/\w.grownBy w' (some g):=by have HL:=ae hl;clear hl;go_enter Tryz.func92,Tryz.ntmps92;go_wp2;go_loopw [6] (fun i wr=>∃(j:Nat),i= .int .i64 j/\j<=4/\wr.ownsRow n₀ 2 1 (.slice (some ⟨g,0,none⟩) 64 cap) 64 ((Mm.dZ xs k v j).map iv)/\w.grownBy wr (some g)) (fun i _=>4-(intOf i).toNat);(case atStart=>exact⟨0,rfl,by omega,hs,World.grownBy.refl _ _⟩);case round=>obtain⟨j,rfl,hj,hown,hg⟩:=hrel;clear hs;by_cases hlt:j<4;{have gU:(j:Int)<4:=by{omega};have hkj:k+j<64:=by{omega};have hc:=hown.cellAt (k+j) (by omega);rw[dV (by rw[Mm.gI,HL.out];exact hkj)]at hc;have hf:=hown.frozenAt (k+j);have hset:=hown.stored (k+j) (iv (v / 256 ^ j%256));rw[←List.map_set,←Mm.dZ]at hset;obtain⟨q,hq⟩:∃q,(Mm.dZ xs k v j).getD (k+j) 0=q:=⟨_,rfl⟩;rw[hq]at hc;have HS:=ae (aj hset.1 (aU hg hset.2));clear hq hset hown hg;unfold iv at hc;obtain rfl|rfl|rfl|rfl:j=0\/j=1\/j=2\/j=3:=by{omega};{rw[Nat.add_zero]at hc hf;go_wp2;have e:=HS.out;rw[Nat.add_zero,show v / 256 ^ 0%256=v%256 by simp]at e;rw[Wd.Ee];exact⟨⟨1,rfl,by omega,e.1,e.2⟩,by simp[intOf]⟩};{go_wp2;have e:=HS.out;rw[show(256:Int) ^ 1=256 from rfl]at e;rw[Wd.Ee];exact⟨⟨2,rfl,by omega,e.1,e.2⟩,by simp[intOf]⟩};{go_wp2;have e:=HS.out;rw[show(256:Int) ^ 2=65536 from rfl]at e;rw[Wd.Ee];exact⟨⟨3,rfl,by omega,e.1,e.2⟩,by simp[intOf]⟩};go_wp2;have e:=HS.out;rw[show(256:Int) ^ 3=16777216 from rfl]at e;rw[Wd.Ee];exact⟨⟨4,rfl,by omega,e.1,e.2⟩,by simp[intOf]⟩};obtain rfl:j=4:=by{omega};have HO:=ae (aj hown hg);clear hown hg;go_wp2;refine bodyPost_end (results_none rfl _ _ _) rfl ⟨rfl,HO.out.1,HO.out.2⟩
structure WC where
 B:Nat
 M:Nat
 Mc:Nat
 fb:Nat
 fo:Nat
 Fc:Nat
 hb:Nat
 ho:Nat
 Hc:Nat
 eb:Nat
 eo:Nat
 Ec:Nat
 ob:Nat
 oo:Nat
 Oc:Nat
 fs:List Fn
 d:ByteArray
def WC.bY (c:WC)(aG code:Int):List Value:=
 [.slice (some ⟨c.fb,c.fo,none⟩) c.fs.length c.Fc, .string c.d, .slice (some ⟨c.hb,c.ho,none⟩) c.fs.length c.Hc, .slice (some ⟨c.eb,c.eo,none⟩) c.fs.length c.Ec, .slice (some ⟨c.ob,c.oo,none⟩) c.fs.length c.Oc, .slice (some ⟨c.M,0,none⟩) 64 c.Mc, .int .i64 aG, .int .i64 code]
structure mh (c:WC)(W0 W:World):Prop where
 os:W.os=W0.os
 tape:W.tape=W0.tape
 out:W.output=W0.output
 size:W0.heap.size<=W.heap.size
 blk:∀i,i<W0.heap.size->i≠c.B->i≠c.M->W.heap[i]?=W0.heap[i]?
theorem mh.refl (c:WC)(W:World):mh c W W:=⟨rfl,rfl,rfl,Nat.le_refl _,fun _ _ _ _=>rfl⟩
theorem mh.trans {c:WC}{W0 W1 W2:World}(h:mh c W0 W1)(k:mh c W1 W2):mh c W0 W2:=
 ⟨k.os.trans h.os,k.tape.trans h.tape,k.out.trans h.out,Nat.le_trans h.size k.size,fun i hi h1 h2=>(k.blk i (ai hi h.size) h1 h2).trans (h.blk i hi h1 h2)⟩
theorem mh.below {c:WC}{W W':World}(h:Below W.heap.size W W'):mh c W W':=⟨h.os,h.tape,h.output,h.size,fun i hi _ _=>h.block i hi⟩
theorem mh.grown {c:WC}{W W':World}{row:Option Nat}(h:W.grownBy W' row)(hr:row=none\/row=some c.B\/row=some c.M\/∃r,row=some r/\W.heap.size<=r):mh c W W':=
 ⟨h.os,h.tape,h.output,h.size,fun i hi h1 h2=>h.block i hi (by
   rcases hr with rfl|rfl|rfl|⟨r,rfl,hr⟩
   · simp
   · simpa using h1
   · simpa using h2
   · simp only[ne_eq,af];omega)⟩
def TL (W:World)(b off:Nat)(n:Nat)(f:Nat->List Int):Prop:=∀k,k<n->∃a m c,W.cell? ⟨b,off+k,none⟩=some (.slice a m c)/\IL W a m (f k)
structure Vm (c:WC)(W0:World):Prop where
 fl:∀W,mh c W0 W->FL W (some ⟨c.fb,c.fo,none⟩) c.fs.length c.fs
 th:∀W,mh c W0 W->TL W c.hb c.ho c.fs.length (Mn.zf c.fs)
 te:∀W,mh c W0 W->TL W c.eb c.eo c.fs.length (fun k=>aO.ends (Mn.fn c.fs k).b)
 tn:∀W,mh c W0 W->TL W c.ob c.oo c.fs.length (fun k=>aO.fH (Mn.fn c.fs k).b)
 val:Mn.zW c.fs
 ne:c.B≠c.M
 ZG:c.fb<W0.heap.size/\c.fb≠c.B/\c.fb≠c.M
structure WK (c:WC)(W0 W:World)(mem:List Int)(aG code:Int):Prop where
 bZ:mh c W0 W
 box:bF W c.B (c.bY aG code)
 row:W.ownsRow 0 2 1 (.slice (some ⟨c.M,0,none⟩) 64 c.Mc) 64 (mem.map iv)
theorem WK.kept {c:WC}{W0 W W':World}{mem:List Int}{aG code:Int}(h:WK c W0 W mem aG code)(hB:Below W.heap.size W W'):WK c W0 W' mem aG code:=
 ⟨h.bZ.trans (mh.below hB),h.box.kept hB,h.row.kept (row:=none) ⟨hB.os,hB.tape,hB.output,hB.size,fun k hk _=>hB.block k hk⟩ (.inr (by simp[Value.ownBlock]))⟩
structure PC where
 P:Nat
 aG:Nat
 fs:List Fn
 fb:Nat
 fo:Nat
 Fc:Nat
 nb:Nat
 Nc:Nat
 ns:Nat->Nat
def PC.fv (c:PC):Value:= .slice (some ⟨c.fb,c.fo,none⟩) c.fs.length c.Fc
def PC.nv (c:PC):Value:= .slice (some ⟨c.nb,0,none⟩) c.fs.length c.Nc
structure KK where
 w:World
 k:Nat
 d:Nat
 C:Nat
 gl:Nat
 nl:Nat
 bb:Nat
 bo:Nat
 bl:Nat
 bc:Nat
def KK.bY (q:KK)(c:PC)(v u:Value)(aM:Int):List Value:=
 [.pointer (some ⟨c.P,0,none⟩), .slice (some ⟨q.bb,q.bo,none⟩) q.bl q.bc, .pointer (some ⟨c.ns q.k,0,none⟩), .slice (some ⟨q.gl,0,none⟩) q.nl q.nl,v,u, .int .i64 aM]
section
variable {c : PC} {q : KK} {aM : Int} {pile loc mem : List Int} {ls : List Mn.Lb} {b : Int} {W W' : World}
theorem dR {n₀ e k n b:Nat}{v:Value}{xs:List Value}(h:W.ownsRow n₀ e k v n xs){row:Option Nat}(hg:W.grownBy W' row)(hb:∀g,v.ownBlock=some g->row≠some g):W'.ownsRow n₀ e k v n xs:=by refine h.kept hg ?_;rcases hv:v.ownBlock with _|g;{exact .inl rfl};exact .inr (fun e=>hb g hv e.symm)
theorem bP.jC {b j:Nat}{v:Value}{t:TypeId}{vs:List Value}(h:bP W b t vs)(hs:ik W W' b j v):bP W' b t (vs.set j v):=hs.2.trans (h.set j v)
end
theorem bQ {A:Bool->World->Prop}{t:Bool}{x:World}(h:A t x):A (t||false) x:=by rw[Bool.or_false];exact h
theorem wS {A:Bool->World->Prop}{t:Bool}{x:World}(h:A true x):A (t||true) x:=by rw[Bool.or_true];exact h
theorem iZ:(Tryz.prog.info? 115).map (·.size)=some 64:=by kernel_rfl
theorem fO {P:Program}(w:World)(g:Nat)(t ty:TypeId)(vs tl:List Value)(n:Nat)(e:TypeId)(hg:bP w g t (vs++tl))(hu:P.underlying ty=some (.array n e))(hi:(P.info? ty).map (·.size)=some vs.length):(Instr.loadAt ty (.pointer (some ⟨g,0,none⟩))).run P w= .ok (.agg vs.toArray) w:=by simp only[Instr.loadAt,Instr.sureAddr,Sem.run_bind,Sem.run_pure,Result.andThen];exact lI w g t ty vs tl n e hg hu hi
theorem eu {P:Program}{o:Oper}{b:Act}{x:World}{K:Act->World->Prop}{Q:Exit->Act->World->Prop}(ty:TypeId)(y:Operand)(ho:o.op= .load ty y)(v p:Value)(hp:b.eval y=p)(hrun:(Instr.loadAt ty p).run P x= .ok v x)(h:K (b.put o.dst v) x):o.wp P b x K Q:=by unfold Oper.wp execOp;simp only[ho,hp,Sem.run_bind,hrun,Result.andThen_ok];exact h
section
variable {c : PC} {q : KK} {aM : Int} {pile loc mem : List Int} {ls : List Mn.Lb} {b : Int} {W W' : World}
end
theorem pu {P:Program}{ops:Array Oper}{rest:List Oper}{o:Oper}{a:Act}{w:World}{Q:Exit->Act->World->Prop}(hgd:o.guard=none)(ty:TypeId)(x y:Operand)(ho:o.op= .store ty x y)(g:Nat)(hx:a.eval x= .pointer (some ⟨g,0,none⟩))(ws:List Value)(hy:a.eval y= .agg ws.toArray)(t:TypeId)(vs tl:List Value)(hg:bP w g t (vs++tl))(hi:(P.info? ty).map (·.size)=some ws.length)(hl:vs.length=ws.length)(h1:∀v∈ws,v.oneCell'=true)(h:∀w',bP w' g t (ws++tl)->w.grownBy w' (some g)->wpList P ops Q rest (a.put o.dst undef) w'):wpList P ops Q (o::rest) a w:=by refine wpList_plain hgd fun K hK=>?_;obtain⟨w',hrun,hA,hgr⟩:=kJ (P:=P) w g t ty vs ws tl hg hi hl h1;unfold Oper.wp execOp;simp only[ho,hx,hy,Instr.storeAt,Instr.sureAddr,Sem.run_bind,Sem.run_pure,Result.andThen_ok,hrun];exact hK _ _ (h w' hA hgr)
section
variable {c : PC} {q : KK} {aM : Int} {pile loc mem : List Int} {ls : List Mn.Lb} {b : Int} {W W' : World}
end
end Go.Proofs.YthkjdjmjdlimnaaGreat
