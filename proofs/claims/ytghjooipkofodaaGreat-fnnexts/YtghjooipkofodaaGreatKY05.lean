/-
  Own texts for a law: Step6 Step7 Ints1 Step2o Nest1 Nest2 RowsB BoxL Lcg
-/
import Derived.Test.YtghjooipkofodaaGreatKY03
import Derived.Test.YtghjooipkofodaaGreatKY04
import Derived.Laws.OwnMore
namespace Go.Proofs.YtghjooipkofodaaGreat
open Go.RowKit Go.Shelf
set_option linter.all false
set_option maxRecDepth 100000
set_option maxHeartbeats 16000000
def encS (xs:List (Int×Int)):List Value:=xs.flatMap fun x=>[.int .i64 x.1, .int .i64 x.2]
theorem jN (xs:List (Int×Int)):(encS xs).length=xs.length*2:=by
 induction xs with
 |nil=>rfl
 |cons x xs ih=>simp only[encS,List.flatMap_cons,List.length_append,List.length_cons]at ih ⊢;simp only[List.length_nil];omega
theorem wM (xs ys:List (Int×Int)):encS (xs++ys)=encS xs++encS ys:=by simp[encS]
theorem lL:∀(xs:List (Int×Int))(j:Nat),j<xs.length->(encS xs)[j*2]?=some (.int .i64 (xs.getD j (0,0)).1)/\(encS xs)[j*2+1]?=some (.int .i64 (xs.getD j (0,0)).2)
 |[],j,h=>by simp at h
 |x::xs,0,_=>⟨rfl,rfl⟩
 | x::xs,j+1,h=>by
   have ih:=lL xs j (by simp at h;omega)
   have e:encS (x::xs)= .int .i64 x.1:: .int .i64 x.2::encS xs:=rfl
   rw[e,show(j+1)*2=j*2+1+1 by omega]
   simpa using ih
def OS (W:World)(n₀:Nat)(v:Value)(xs:List (Int×Int)):Prop:=
 ∃g cap,v= .slice (some ⟨g,0,none⟩) xs.length cap/\n₀<=g/\g<W.heap.size/\xs.length<=maxLen/\W.ownsRow n₀ 126 2 v xs.length (encS xs)
theorem OS.oZ {W:World}{n₀ g cap n:Nat}{xs:List (Int×Int)}(h:W.ownsRow n₀ 126 2 (.slice (some ⟨g,0,none⟩) n cap) n (encS xs)):OS W n₀ (.slice (some ⟨g,0,none⟩) n cap) xs:=by have hn:n=xs.length:=by{have:=h.1;rw[jN]at this;omega};subst hn;have:=h.lt g rfl;rcases h.2 with⟨h',_⟩|⟨g',cap',cur,h',_,_,hc,hm,_⟩;{cases h'};cases h';exact⟨g,cap,rfl,this.1,this.2,Nat.le_trans hc hm,h⟩
theorem OS.kept {W W':World}{n₀:Nat}{v:Value}{xs:List (Int×Int)}(h:OS W n₀ v xs)(hB:Below W.heap.size W W'):OS W' n₀ v xs:=by obtain⟨g,cap,rfl,h0,hlt,hm,hrow⟩:=h;refine⟨g,cap,rfl,h0,aj hlt hB.size,hm,?_⟩;exact hrow.kept (row:=none) ⟨hB.os,hB.tape,hB.output,hB.size,fun k hk _=>hB.block k hk⟩ (.inr (by simp[Value.ownBlock]))
theorem OS.mono {W:World}{n₀ n₁:Nat}{v:Value}{xs:List (Int×Int)}(h:OS W n₁ v xs)(hn:n₀<=n₁):OS W n₀ v xs:=by obtain⟨g,cap,rfl,h0,hlt,hm,hrow⟩:=h;refine⟨g,cap,rfl,Nat.le_trans hn h0,hlt,hm,hrow.1,?_⟩;rcases hrow.2 with⟨h',_⟩|⟨g',cap',cur,h',hb,r⟩;{cases h'};exact .inr ⟨g',cap',cur,h',Nat.le_trans hn hb,r⟩
theorem OS.SL {W:World}{n₀:Nat}{v:Value}{xs:List (Int×Int)}(h:OS W n₀ v xs):∃g cap,v= .slice (some ⟨g,0,none⟩) xs.length cap/\n₀<=g/\g<W.heap.size/\SL W (some ⟨g,0,none⟩) xs.length xs:=by obtain⟨g,cap,rfl,h0,hlt,hm,hrow⟩:=h;refine⟨g,cap,rfl,h0,hlt,rfl,hm, .inr ⟨g,0,rfl,hlt,fun j hj=>?_⟩⟩;have:=lL xs j hj;rw[Nat.zero_add];exact⟨(hrow.cellAt (j*2) (by omega)).trans this.1,(hrow.cellAt (j*2+1) (by omega)).trans this.2⟩
theorem zR:(Tryz.prog.info? 126).map (fun i=>(i.zero,i.size,i.bytes))=some (some (.agg #[.int .i64 0, .int .i64 0]),2,16):=by kernel_rfl
theorem OS.grown {W W':World}{n₀ g n cap k:Nat}{xs:List (Int×Int)}(h:OS W n₀ (.slice (some ⟨g,0,none⟩) n cap) xs)(hg:W.grownBy W' (some k))(hne:g≠k):OS W' n₀ (.slice (some ⟨g,0,none⟩) n cap) xs:=by obtain⟨g',cap',hv,h0,hlt,hm,hrow⟩:=h;cases hv;exact⟨g,cap,rfl,h0,aj hlt hg.size,hm,hrow.kept hg (.inr (by simp only[Value.ownBlock,ne_eq,af];omega))⟩
theorem OS.sl {W:World}{n₀ g n cap:Nat}{xs:List (Int×Int)}(h:OS W n₀ (.slice (some ⟨g,0,none⟩) n cap) xs):Go.Proofs.YtghjooipkofodaaGreat.SL W (some ⟨g,0,none⟩) n xs:=by obtain⟨g',cap',hv,_,_,hsl⟩:=h.SL;cases hv;exact hsl
theorem aS (W:World)(p:Addr)(v:Value):W.grownBy (W.setCell p v) (some p.block):=
 ⟨rfl,rfl,rfl,by simp[World.setCell],fun i _ hne=>Below.heap_setCell _ _ _ _ (fun e=>hne (by rw[e]))⟩
theorem dE {a b c:World}{row:Option Nat}(h:a.grownBy b row)(k:b.grownBy c row):a.grownBy c row:=
 ⟨k.os.trans h.os,k.tape.trans h.tape,k.output.trans h.output,Nat.le_trans h.size k.size,fun i hi hn=>(k.block i (aj hi h.size) hn).trans (h.block i hi hn)⟩
def iv (x:Int):Value:= .int .i64 x
def IL (w:World)(a:Option Addr)(len:Nat)(xs:List Int):Prop:=
 xs.length=len/\len<=maxLen/\(len=0\/∃b off,a=some ⟨b,off,none⟩/\b<w.heap.size/\∀j,j<len->w.cell? ⟨b,off+j,none⟩=some (.int .i64 (xs.getD j 0)))
theorem IL.kept {w w':World}{a:Option Addr}{len:Nat}{xs:List Int}(h:IL w a len xs)(hB:Below w.heap.size w w'):IL w' a len xs:=by obtain⟨h1,h2,h3|⟨b,off,rfl,hb,hx⟩⟩:=h;{exact⟨h1,h2, .inl h3⟩};exact⟨h1,h2, .inr ⟨b,off,rfl,aj hb hB.size,fun j hj=>(hB.cell (p:=⟨b,off+j,none⟩) hb).trans (hx j hj)⟩⟩
def OI (W:World)(n₀:Nat)(v:Value)(xs:List Int):Prop:=W.ownsRow n₀ 2 1 v xs.length (xs.map iv)
theorem OI.slice {W:World}{n₀:Nat}{v:Value}{xs:List Int}(h:OI W n₀ v xs):∃a cap,v= .slice a xs.length cap/\IL W a xs.length xs:=by rcases h.2 with⟨rfl,h0⟩|⟨g,cap,cur,rfl,hb,hc,hn,hm,hs,ht⟩;{exact⟨none,0,by rw[h0],rfl,by rw[h0];exact Nat.zero_le _, .inl h0⟩};refine⟨_,cap,rfl,rfl,Nat.le_trans hn hm, .inr ⟨g,0,rfl,(h.lt g rfl).2,fun j hj=>?_⟩⟩;have:=h.cellAt j (by omega);rw[Nat.zero_add,this,List.getElem?_map,ai hj,ah,ai hj];rfl
theorem OI.kept {W W':World}{n₀:Nat}{v:Value}{xs:List Int}(h:OI W n₀ v xs)(hB:Below W.heap.size W W'):OI W' n₀ v xs:=by refine World.ownsRow.kept (row:=none) h ⟨hB.os,hB.tape,hB.output,hB.size,fun k hk _=>hB.block k hk⟩ ?_;rcases hv:v.ownBlock with _|b;{exact .inl rfl};exact .inr (by simp)
theorem OI.eB {W W':World}{n₀ b:Nat}{v:Value}{xs:List Int}(h:OI W n₀ v xs)(hg:W.grownBy W' (some b))(hne:∀g,v.ownBlock=some g->g≠b):OI W' n₀ v xs:=by refine World.ownsRow.kept h hg ?_;rcases hv:v.ownBlock with _|b';{exact .inl rfl};refine .inr ?_;have:=hne b' hv;simp only[ne_eq,af];omega
theorem OI.mono {W:World}{n₀ n₁:Nat}{v:Value}{xs:List Int}(h:OI W n₁ v xs)(hn:n₀<=n₁):OI W n₀ v xs:=by refine⟨h.1,?_⟩;rcases h.2 with h'|⟨g',cap',cur,h',hb,r⟩;{exact .inl h'};exact .inr ⟨g',cap',cur,h',Nat.le_trans hn hb,r⟩
theorem OI.nil (W:World)(n₀:Nat):OI W n₀ (.slice none 0 0) []:=⟨rfl, .inl ⟨rfl,rfl⟩⟩
theorem OI.empty (W:World):OI (W.alloc (.cells #[] 2)) W.heap.size (.slice (some ⟨W.heap.size,0,none⟩) 0 0) []:=
 ⟨rfl, .inr ⟨W.heap.size,0,#[],rfl,Nat.le_refl _,World.alloc_heap_new W _,Nat.le_refl _,Nat.zero_le _,rfl,rfl⟩⟩
theorem bV:(Tryz.prog.info? 2).map (fun i=>(i.zero,i.size,i.bytes))=some (some (.int .i64 0),1,8):=by kernel_rfl
theorem fP (xs:List Int)(k:Nat)(x:Int):(xs.set k x).map iv=(xs.map iv).set k (.int .i64 x):=by rw[List.map_set];rfl
section
open Go.RowKit
theorem St.BD (op:Int):(op==8||op==9||op==10)=St.opens op:=by unfold St.opens;by_cases h8:op=8;{subst h8;rfl};by_cases h9:op=9;{subst h9;rfl};by_cases h10:op=10;{subst h10;rfl};simp[h8,h9,h10]
def St.sD (op a:Int):Bool:=St.ok op a&&St.opens op
theorem oK (op a:Int)(w:World):Calls Tryz.prog 123 #[.agg #[.int .i64 op, .int .i64 a]] w fun e w'=>e= .returned (.bool (St.sD op a))/\Below w.heap.size w w':=by rcases h:St.ok op a with _|_;{go_enter Tryz.func123,Tryz.ntmps123;go_wp2_with fail;refine(iJ _ _ _).mono ?_;rintro e w1 ⟨rfl,hB⟩;obtain⟨hc0,hc1,hlt⟩:=pI w _ _ _ hB;have hB1:=(aA w _).trans (hB.mono (by simp));go_wp2;go_ret;exact⟨by rw[St.sD,h];rfl,hB1⟩};go_enter Tryz.func123,Tryz.ntmps123;go_wp2_with fail;refine(iJ _ _ _).mono ?_;rintro e w1 ⟨rfl,hB⟩;obtain⟨hc0,hc1,hlt⟩:=pI w _ _ _ hB;have hB1:=(aA w _).trans (hB.mono (by simp));go_wp2;all_goals(go_ret;exact⟨bC (by rw[St.sD,h,Bool.true_and,←St.BD];try simp_all),hB1⟩)
end
theorem fZ (W:World)(a:Value)(t:TypeId)(H:Nat)(hH:W.heap.size=H):∀j u,[a][j]?=some u->(W.alloc (.cells #[a] t)).cell? ((⟨H,0,none⟩:Addr).add j)=some u:=by
 subst hH
 intro j u hu
 match j,hu with
 |0,hu=>simp at hu;subst hu;simp[Addr.add]
theorem aM {W W':World}{n₀ e k n:Nat}{v:Value}{xs:List Value}(h:W.ownsRow n₀ e k v n xs)(hB:Below W.heap.size W W'):W'.ownsRow n₀ e k v n xs:=by refine h.kept (row:=none) ⟨hB.os,hB.tape,hB.output,hB.size,fun k hk _=>hB.block k hk⟩ ?_;rcases hv:v.ownBlock with _|b;{exact .inl rfl};exact .inr (by simp)
theorem dK {W w1 w:World}{B:Nat}{e:TypeId}{size:Nat}{v:Value}{k:Nat}{xs:List Value}(hrow:W.ownsRow B e size v k xs)(hB:Below B w W)(hs:B<=W.heap.size)(hgrow:W.grownBy w1 v.ownBlock):Below B w w1:=
 hB.grown hgrow hs fun j ej=>(hrow.lt j ej).1
theorem nD (n:Nat)(hn:n<=2000000)(w:World):Calls Tryz.prog 121 #[.int .i64 n] w fun e w'=>∃g c,e= .returned (.slice (some ⟨g,0,none⟩) n c)/\OI w' w.heap.size (.slice (some ⟨g,0,none⟩) n c) (aI.ek n)/\Below w.heap.size w w':=by obtain⟨i0,hi,hz0,hz1,hz2⟩:=info_parts bV;have hr0:=OI.empty w;have hB0:=(Below.refl w.heap.size w).alloc (Nat.le_refl _) (.cells #[] 2);go_enter Tryz.func121,Tryz.ntmps121;go_wp2;go_loopw [0,3] (fun m v wr=>∃(k j g c:Nat),m= .int .i64 k/\v= .slice (some ⟨g,0,none⟩) j c/\j+k=n/\wr.ownsRow w.heap.size 2 1 (.slice (some ⟨g,0,none⟩) j c) j ((aI.ek j).map iv)/\Below w.heap.size w wr) (fun m _ _=>(intOf m).toNat);(case atStart=>exact⟨n,0,_,_,rfl,rfl,by omega,hr0,hB0⟩);case round=>obtain⟨k,j,g,c,rfl,rfl,hjk,hrow,hB⟩:=hrel;clear hr0 hB0;by_cases hk:0<k;{have hBx:=hB.alloc hB.size (.cells #[.int .i64 (-1)] 2);have HRW:=ae (hrow.alloc (.cells #[.int .i64 (-1)] 2));have hsz:=hB.size;clear hrow;go_wp2_with(at_builtin;refine wpList_append_own _ rfl _ _ 27 rfl w.heap.size 2 i0 (.int .i64 0) 1 8 Tryz.underlying27 hi hz0 hz1 hz2 rfl (by decide) _ _ _ rfl HRW.out ⟨wr.heap.size,0,none⟩ 1 1 [.int .i64 (-1)] rfl rfl (fZ _ _ _ _ rfl) (by simp[Value.oneCell']) (by simp only[maxLen];omega) (by omega) (by simp;omega) ?_;intro v' wA hown' hgrow _;have hB4:=dK HRW.out hBx (by simp;omega) hgrow;obtain⟨g',cap',rfl⟩:=ownsRow_succ hown');go_roundw;(case rel=>refine⟨k-1,j+1,g',cap',by congr 1;omega,rfl,by omega,?_,hB4⟩;have e:(aI.ek (j+1)).map iv=(aI.ek j).map iv++[.int .i64 (-1)]:=by{simp[aI.ek,List.replicate_succ',iv]};rw[e];exact hown');case measure=>simp[intOf];omega};have hk0:k=0:=by{omega};subst hk0;have hj:j=n:=by{omega};subst hj;clear hk hjk;go_wp2;go_ret;refine⟨g,c,rfl,?_,hB⟩;unfold OI;have e:(aI.ek j).length=j:=by{simp[aI.ek]};rw[e];exact hrow
theorem Eh {W:World}{n₀ e g n c:Nat}{xs:List Value}(h:W.ownsRow n₀ e 1 (.slice (some ⟨g,0,none⟩) n c) n xs)(m:Nat)(hm:m<=n):W.ownsRow n₀ e 1 (.slice (some ⟨g,0,none⟩) m c) m (xs.take m):=by obtain⟨h1,h2⟩:=h;refine⟨by rw[List.length_take,h1];omega,?_⟩;rcases h2 with⟨h',_⟩|⟨g',cap',cur,h',hb,hc,hn,hx,hs,ht⟩;{cases h'};cases h';refine .inr ⟨g,c,cur,rfl,hb,hc,by omega,hx,hs,?_⟩;rw[←ht,List.take_take];congr 1;omega
theorem iF {W:World}{n₀ g n c:Nat}{xs:List Int}(h:W.ownsRow n₀ 2 1 (.slice (some ⟨g,0,none⟩) n c) n (xs.map iv)){k:Nat}(hk:k<n)(d:Int):W.cell? ⟨g,k,none⟩=some (.int .i64 (xs.getD k d)):=by have hl:xs.length=n:=by{have:=h.1;simpa using this};rw[h.cellAt k (by omega),List.getElem?_map,ai (by omega),ah,ai (by omega)];rfl
def iQ (S:List Nat):List Int:=S.map fun(x:Nat)=>(x:Int)
theorem iG {W W':World}{n₀ e k n b:Nat}{g c:Nat}{xs:List Value}(h:W.ownsRow n₀ e k (.slice (some ⟨g,0,none⟩) n c) n xs)(hg:W.grownBy W' (some b))(hb:g≠b):W'.ownsRow n₀ e k (.slice (some ⟨g,0,none⟩) n c) n xs:=
 h.kept hg (.inr (by simp only[Value.ownBlock,ne_eq,af];omega))
structure NI (xs:List (Int×Int))(len:Nat)(w w1 w2 wr:World)(gE cE gO cO gS cS:Nat)(k:Nat)(E O:List Int)(S:List Nat):Prop where
 rE:wr.ownsRow w.heap.size 2 1 (.slice (some ⟨gE,0,none⟩) len cE) len (E.map iv)
 rO:wr.ownsRow w1.heap.size 2 1 (.slice (some ⟨gO,0,none⟩) len cO) len (O.map iv)
 rS:wr.ownsRow w2.heap.size 2 1 (.slice (some ⟨gS,0,none⟩) S.length cS) S.length ((iQ S.reverse).map iv)
 eq:aI.all xs=aI.go xs (len+1-k) k E O S
 sl:S.length<=k
 st:∀t∈S,t<k
 so:∀t∈S,-1<=O.getD t (-1)/\O.getD t (-1)<k
 oz:∀t,k<=t->O.getD t (-1)=-1
 eD:Below w.heap.size w wr
 sz:w2.heap.size<=wr.heap.size
 eE:gE<w1.heap.size
 eO:w1.heap.size<=gO/\gO<w2.heap.size
theorem NI.kept {xs:List (Int×Int)}{len:Nat}{w w1 w2 wr wx:World}{gE cE gO cO gS cS k:Nat}{E O:List Int}{S:List Nat}(h:NI xs len w w1 w2 wr gE cE gO cO gS cS k E O S)(hB:Below wr.heap.size wr wx):NI xs len w w1 w2 wx gE cE gO cO gS cS k E O S:=
 {h with rE:=aM h.rE hB,rO:=aM h.rO hB,rS:=aM h.rS hB,eD:=h.eD.trans (hB.mono h.eD.size),sz:=Nat.le_trans h.sz hB.size}
theorem NI.push {xs:List (Int×Int)}{len:Nat}{w w1 w2 wr wA:World}{gE cE gO cO gS cS k gS' VH:Nat}{E O:List Int}{S:List Nat}(h:NI xs len w w1 w2 wr gE cE gO cO gS cS k E O S)(hk:k<xs.length)(hl:xs.length=len)(ho:St.opens (aI.op xs k)=true)(hown:wA.ownsRow w2.heap.size 2 1 (.slice (some ⟨gS',0,none⟩) (S.length+1) VH) (S.length+1) ((iQ S.reverse).map iv++[.int .i64 (k:Int)]))(hg:wr.grownBy wA (Value.slice (some ⟨gS,0,none⟩) S.length cS).ownBlock):NI xs len w w1 w2 wA gE cE gO cO gS' VH (k+1) E O (k::S):=by have hgs:=(h.rS.lt gS rfl).1;have hg':wr.grownBy wA (some gS):=hg;have hE:=h.eE;have Yg:=h.eO;refine⟨iG h.rE hg' (by omega),iG h.rO hg' (by omega),?_,?_,by simp;exact h.sl,?_,?_,fun t ht=>h.oz t (by omega),?_,Nat.le_trans h.sz hg.size,hE,Yg⟩;{have e:(iQ (k::S).reverse).map iv=(iQ S.reverse).map iv++[.int .i64 (k:Int)]:=by{simp[iQ,iv]};rw[e,List.length_cons];exact hown};{rw[h.eq,show len+1-k=(len+1-(k+1))+1 by omega,aI.jl hk ho]};{intro t ht;rcases List.mem_cons.1 ht with rfl|ht;{omega};have:=h.st t ht;omega};{intro t ht;rcases List.mem_cons.1 ht with rfl|ht;{have:=h.oz t (Nat.le_refl _);omega};have:=h.so t ht;omega};exact h.eD.grown hg h.eD.size fun j ej=>by have:j=gS:=by{simpa[Value.ownBlock]using ej.symm};have:=h.eD.size;have h1:w.heap.size<=w1.heap.size:=by{have:=(h.rE.lt gE rfl).1;omega};omega
theorem NI.step {xs:List (Int×Int)}{len:Nat}{w w1 w2 wr:World}{gE cE gO cO gS cS k:Nat}{E O:List Int}{S:List Nat}(h:NI xs len w w1 w2 wr gE cE gO cO gS cS k E O S)(hk:k<xs.length)(hl:xs.length=len)(ho:St.opens (aI.op xs k)=false)(h1:aI.op xs k≠11)(h2:aI.op xs k≠12):
   NI xs len w w1 w2 wr gE cE gO cO gS cS (k+1) E O S:=
 { h with
   eq:=by rw[h.eq,show len+1-k=(len+1-(k+1))+1 by omega,aI.jc hk ho h1 h2]
   sl:=Nat.le_succ_of_le h.sl
   st:=fun t ht=>by have:=h.st t ht;omega
   so:=fun t ht=>by have:=h.so t ht;omega
   oz:=fun t ht=>h.oz t (by omega)}
theorem fI {l:List Int}{k j:Nat}{x d:Int}:(l.set k x).getD j d=if j=k/\k<l.length then x else l.getD j d:=by by_cases h:j=k;{subst h;by_cases hk:j<l.length;{rw[ay ⟨rfl,hk⟩,ah,List.getElem?_set_self hk];rfl};rw[ax (fun e=>hk e.2),List.set_eq_of_length_le (by omega)]};rw[ax (fun e=>h e.1),ah,List.getElem?_set_ne (by omega),←ah]
theorem NI.I7 {xs:List (Int×Int)}{len:Nat}{w w1 w2 wr:World}{gE cE gO cO gS cS k:Nat}{E O:List Int}{S:List Nat}(h:NI xs len w w1 w2 wr gE cE gO cO gS cS k E O S):E.length=len/\O.length=len:=by have h1:=h.rE.1;have h2:=h.rO.1;simp at h1 h2;exact⟨h1,h2⟩
theorem NI.Gq {xs:List (Int×Int)}{len:Nat}{w w1 w2 wr:World}{gE cE gO cO gS cS k t:Nat}{E O:List Int}{S:List Nat}(h:NI xs len w w1 w2 wr gE cE gO cO gS cS k E O (t::S))(hk:k<xs.length)(hl:xs.length=len)(ho:St.opens (aI.op xs k)=false)(h1:aI.op xs k=11)(h2:aI.op xs t=10/\O.getD t (-1)<0):NI xs len w w1 w2 (wr.setCell ⟨gO,t,none⟩ (.int .i64 (k:Int))) gE cE gO cO gS cS (k+1) E (O.set t (k:Int)) (t::S):=by have hst:=h.rO.stored t (.int .i64 (k:Int));rw[←fP]at hst;have hg:=aS wr ⟨gO,t,none⟩ (.int .i64 (k:Int));have hE:=h.eE;have hO:=h.eO;have hgs:=(h.rS.lt gS rfl).1;have VI:w.heap.size<=w1.heap.size:=by{have:=(h.rE.lt gE rfl).1;omega};refine⟨iG h.rE hg (by simp;omega),hst.1,iG h.rS hg (by simp;omega),?_,Nat.le_succ_of_le h.sl,?_,?_,?_,h.eD.setCell (p:=⟨gO,t,none⟩) (by simp;omega) _,by simpa[World.setCell]using h.sz,hE,hO⟩;{rw[h.eq,show len+1-k=(len+1-(k+1))+1 by omega,aI.jh hk ho h1 h2]};{intro x hx;have:=h.st x hx;omega};{intro x hx;have:=h.so x hx;rw[fI];split<;>omega};intro x hx;have:=h.st t (by simp);rw[fI,ax (by omega)];exact h.oz x (by omega)
theorem NI.IE {xs:List (Int×Int)}{len:Nat}{w w1 w2 wr wA:World}{gE cE gO cO gS cS k t:Nat}{E O:List Int}{S:List Nat}(h:NI xs len w w1 w2 wr gE cE gO cO gS cS k E O (t::S))(hk:k<xs.length)(hl:xs.length=len)(ho:St.opens (aI.op xs k)=false)(h1:aI.op xs k≠11)(h2:aI.op xs k=12)(hA:wA=if 0<=O.getD t (-1)then(wr.setCell ⟨gE,t,none⟩ (.int .i64 (k:Int))).setCell ⟨gE,(O.getD t (-1)).toNat,none⟩ (.int .i64 (k:Int))else wr.setCell ⟨gE,t,none⟩ (.int .i64 (k:Int))):NI xs len w w1 w2 wA gE cE gO cO gS cS (k+1) (aI.close E O t k) O S:=by have hst:=h.rE.stored t (.int .i64 (k:Int));rw[←fP]at hst;have uP:=hst.1.stored (O.getD t (-1)).toNat (.int .i64 (k:Int));rw[←fP]at uP;have hE:=h.eE;have hO:=h.eO;have hge:=(h.rE.lt gE rfl).1;have hgs:=(h.rS.lt gS rfl).1;have hrow:wA.ownsRow w.heap.size 2 1 (.slice (some ⟨gE,0,none⟩) len cE) len ((aI.close E O t k).map iv)/\wr.grownBy wA (some gE)/\Below w.heap.size w wA/\wr.heap.size=wA.heap.size:=by{unfold aI.close;by_cases hc:0<=O.getD t (-1);{rw[ay hc]at hA ⊢;subst hA;exact⟨uP.1,dE hst.2 uP.2,(h.eD.setCell (p:=⟨gE,t,none⟩) hge _).setCell (p:=⟨gE,(O.getD t (-1)).toNat,none⟩) hge _,by simp[World.setCell]⟩};rw[ax hc]at hA ⊢;subst hA;exact⟨hst.1,hst.2,h.eD.setCell (p:=⟨gE,t,none⟩) hge _,by simp[World.setCell]⟩};obtain⟨r1,r2,r3,r4⟩:=hrow;have hS:=iG (Eh h.rS S.length (by simp)) r2 (by omega);refine⟨r1,iG h.rO r2 (by omega),?_,?_,?_,?_,?_,fun t ht=>h.oz t (by omega),r3,by have:=h.sz;omega,hE,hO⟩;{have e:((iQ (t::S).reverse).map iv).take S.length=(iQ S.reverse).map iv:=by{simp[iQ]};rw[e]at hS;exact hS};{rw[h.eq,show len+1-k=(len+1-(k+1))+1 by omega,aI.iZ hk ho h1 h2]};{have:=h.sl;simp at this;omega};{intro x hx;have:=h.st x (List.mem_cons_of_mem _ hx);omega};intro x hx;have:=h.so x (List.mem_cons_of_mem _ hx);omega
theorem NI.qC {xs:List (Int×Int)}{len:Nat}{w w1 w2 wr:World}{gE cE gO cO gS cS k t:Nat}{E O:List Int}{S:List Nat}(h:NI xs len w w1 w2 wr gE cE gO cO gS cS k E O (t::S)):wr.cell? ⟨gS,S.length,none⟩=some (.int .i64 (t:Int)):=by have:=iF (xs:=iQ (t::S).reverse) h.rS (k:=S.length) (by simp) 0;rw[this];simp[iQ]
theorem Ad {W:World}{b0 b1 e0 e1 k0 k1 g0 g1 n0 n1 c0 c1:Nat}{xs ys:List Value}(h0:W.ownsRow b0 e0 k0 (.slice (some ⟨g0,0,none⟩) n0 c0) n0 xs)(h1:W.ownsRow b1 e1 k1 (.slice (some ⟨g1,0,none⟩) n1 c1) n1 ys)(he:e0≠e1):g0≠g1:=by rintro rfl;rcases h0.2 with⟨h',_⟩|⟨g,c,cur,h',_,hb,_⟩;{cases h'};cases h';rcases h1.2 with⟨h',_⟩|⟨g,c,cur',h',_,hb',_⟩;{cases h'};cases h';rw[hb]at hb';simp only[af,Obj.cells.injEq]at hb';exact he hb'.2.1
theorem bS {W W':World}{b0 b1 e0 e1 k0 k1 g0 g1 n0 n1 c0 c1:Nat}{xs ys:List Value}(h1:W.ownsRow b1 e1 k1 (.slice (some ⟨g1,0,none⟩) n1 c1) n1 ys)(h0:W.ownsRow b0 e0 k0 (.slice (some ⟨g0,0,none⟩) n0 c0) n0 xs)(he:e0≠e1)(hg:W.grownBy W' (Value.slice (some ⟨g0,0,none⟩) n0 c0).ownBlock):W'.ownsRow b1 e1 k1 (.slice (some ⟨g1,0,none⟩) n1 c1) n1 ys:=
 iG h1 (b:=g0) hg (Ne.symm (Ad h0 h1 he))
theorem BU {W:World}{n₀ e k g n c:Nat}{xs:List Value}(h:W.ownsRow n₀ e k (.slice (some ⟨g,0,none⟩) n c) n xs)(m:Nat)(hm:m<=n):W.ownsRow n₀ e k (.slice (some ⟨g,0,none⟩) m c) m (xs.take (m*k)):=by obtain⟨h1,h2⟩:=h;have hmk:m*k<=n*k:=Nat.mul_le_mul_right k hm;refine⟨by rw[List.length_take,h1];omega,?_⟩;rcases h2 with⟨h',_⟩|⟨g',cap',cur,h',hb,hc,hn,hx,hs,ht⟩;{cases h'};cases h';refine .inr ⟨g,c,cur,rfl,hb,hc,by omega,hx,hs,?_⟩;rw[←ht,List.take_take];congr 1;omega
theorem lM {W:World}{n₀ e k g n c:Nat}{xs:List Value}(h:W.ownsRow n₀ e k (.slice (some ⟨g,0,none⟩) n c) n xs):n<=c:=by rcases h.2 with⟨h',_⟩|⟨g',cap',cur,h',_,_,hc,_⟩;{cases h'};cases h';exact hc
def bW (W:World)(b:Nat)(vs:List Value):Prop:=b<W.heap.size/\∀i x,vs[i]?=some x->W.cell? ⟨b,i,none⟩=some x/\W.frozen? ⟨b,i,none⟩=false
theorem bW.eB {W W':World}{b:Nat}{row:Option Nat}{vs:List Value}(h:bW W b vs)(hg:W.grownBy W' row)(hne:row≠some b):bW W' b vs:=by have hb:=hg.block b h.1 (fun e=>hne e.symm);refine⟨aj h.1 hg.size,fun i x hx=>?_⟩;obtain⟨h1,h2⟩:=h.2 i x hx;exact⟨(World.cell?_of_block hb).trans h1,by unfold World.frozen?;rw[hb];exact h2⟩
theorem bW.kept {W W':World}{b:Nat}{vs:List Value}(h:bW W b vs)(hB:Below W.heap.size W W'):bW W' b vs:=h.eB (row:=none) ⟨hB.os,hB.tape,hB.output,hB.size,fun k hk _=>hB.block k hk⟩ (by simp)
theorem bW.new (W:World)(vs:List Value)(t:TypeId):bW (W.alloc (.cells vs.toArray t)) W.heap.size vs:=by refine⟨by simp,fun i x hx=>⟨?_,by simp⟩⟩;rw[World.cell?_alloc_at _ _ _ _ rfl];simpa using hx
theorem bW.set {W:World}{b:Nat}{vs:List Value}(h:bW W b vs)(i:Nat)(x:Value):bW (W.setCell ⟨b,i,none⟩ x) b (vs.set i x):=by refine⟨by simpa[World.setCell]using h.1,fun j y hy=>?_⟩;by_cases e:i=j;{subst e;have hi:i<vs.length:=by{rcases Nat.lt_or_ge i vs.length with h'|h';{exact h'};rw[List.getElem?_eq_none (by simpa using h')]at hy;cases hy};rw[List.getElem?_set_self hi]at hy;cases hy;obtain⟨h1,h2⟩:=h.2 i vs[i] (ai hi);exact⟨World.cell?_setCell_same _ _ _ h1,by simpa using h2⟩};rw[List.getElem?_set_ne e]at hy;obtain⟨h1,h2⟩:=h.2 j y hy;exact⟨(World.cell?_setCell_other _ _ _ _ (fun q=>e (by cases q;rfl))).trans h1,by simpa using h2⟩
namespace mZ
def iter (f:Nat->Nat):Nat->Nat->Nat
 |0,h=>h
 |n+1,h=>iter f n (f h)
theorem iY (f:Nat->Nat)(m:Nat):∀(n h:Nat),iter f (n+m) h=iter f m (iter f n h)
 |0,h=>by rw[Nat.zero_add];rfl
 |n+1,h=>by rw[Nat.add_right_comm];exact iY f m n (f h)
def Dt (a c M h:Nat):Nat:=(a*h+c)%M
def AC (a c M:Nat):Nat->Nat×Nat
 |0=>(a,c)
 |k+1=>((AC a c M k).1*(AC a c M k).1%M,((AC a c M k).1*(AC a c M k).2+(AC a c M k).2)%M)
theorem jump (a c M:Nat):∀(k h:Nat),iter (Dt a c M) (2 ^ k) h=Dt (AC a c M k).1 (AC a c M k).2 M h
 |0,h=>rfl
 | k +1,h=>by
   have e:2 ^ (k+1)=2 ^ k+2 ^ k:=by rw[Nat.pow_succ];omega
   rw[e,iY,jump a c M k,jump a c M k]
   show _=Dt ((AC a c M k).1*(AC a c M k).1%M) (((AC a c M k).1*(AC a c M k).2+(AC a c M k).2)%M) M h
   generalize(AC a c M k).1=A
   generalize(AC a c M k).2=C
   unfold Dt
   have h1:(A*((A*h+C)%M)+C)%M=(A*(A*h+C)+C)%M:=by
     rw[Nat.add_mod,Nat.mul_mod,Nat.mod_mod,←Nat.mul_mod,←Nat.add_mod]
   have h2:(A*A%M*h+(A*C+C)%M)%M=(A*A*h+(A*C+C))%M:=by
     rw[Nat.add_mod,Nat.mul_mod,Nat.mod_mod,Nat.mod_mod,←Nat.mul_mod,←Nat.add_mod]
   rw[h1,h2]
   congr 1
   rw[Nat.mul_add,Nat.mul_assoc]
   omega
def M:Nat:=9007199254740992
def a0:Nat:=5053549999652653
def c0:Nat:=1543160130404687
theorem JX:∀k,k<18->(AC a0 c0 M k).1%2 ^ (k+1)=1/\(AC a0 c0 M k).2%2 ^ (k+1)=2 ^ k:=by decide+kernel
abbrev T:Nat->Nat:=Dt a0 c0 M
theorem Ja:AC a0 c0 M 33=(4124027597619201,4140803739877376):=by decide+kernel
theorem DX {A C h k:Nat}(hk:k<18)(hA:A%2 ^ (k+1)=1)(hC:C%2 ^ (k+1)=2 ^ k):Dt A C M h%2 ^ (k+1)=(h+2 ^ k)%2 ^ (k+1):=by unfold Dt;have hd:2 ^ (k+1)∣M:=by{have:M=2 ^ 53:=by{decide};rw[this];exact Nat.pow_dvd_pow 2 (by omega)};rw[Nat.mod_mod_of_dvd _ hd,Nat.add_mod,Nat.mul_mod,hA,hC,Nat.one_mul,Nat.mod_mod,Nat.add_mod h (2 ^ k),Nat.mod_eq_of_lt (show 2 ^ k<2 ^ (k+1)by rw[Nat.pow_succ];have:=Nat.two_pow_pos k;omega)]
theorem reach (h r:Nat)(hr:h%2=r%2):∀k,k<18->∃n,n%2=0/\n<2 ^ (k+1)/\iter T n h%2 ^ (k+1)=r%2 ^ (k+1)
 |0,_=>⟨0,rfl,by decide,by simpa[iter]using hr⟩
 | k + 1,hk=>by
   obtain⟨n,h1,h2,h3⟩:=reach h r hr k (by omega)
   have hp:2 ^ (k+1+1)=2 ^ (k+1)+2 ^ (k+1):=by rw[Nat.pow_succ 2 (k+1)];omega
   have hpos:=Nat.two_pow_pos (k+1)
   have he:2 ^ (k+1)%2=0:=by rw[Nat.pow_succ];omega
   by_cases e:iter T n h%2 ^ (k+1+1)=r%2 ^ (k+1+1)
   · exact⟨n,h1,by omega,e⟩
   · refine⟨n+2 ^ (k+1),by omega,by omega,?_⟩
     obtain⟨f1,f2⟩:=JX (k+1) hk
     rw[iY,jump,DX hk f1 f2]
     generalize iter T n h=x at*
     generalize 2 ^ (k+1)=p at*
     rw[hp]at e ⊢
     have e1:=Nat.mod_add_div x (p+p)
     have e2:=Nat.mod_add_div r (p+p)
     have e3:x%(p+p)%p=x%p:=Nat.mod_mod_of_dvd _ ⟨2,by omega⟩
     have e4:r%(p+p)%p=r%p:=Nat.mod_mod_of_dvd _ ⟨2,by omega⟩
     have l1:=Nat.mod_lt x (show 0<p+p by omega)
     have l2:=Nat.mod_lt r (show 0<p+p by omega)
     rw[Nat.add_mod,Nat.mod_eq_of_lt (show p<p+p by omega)]
     generalize x%(p+p)=X at*
     generalize r%(p+p)=R at*
     have hm:∀y,y<p+p->y%p=if y<p then y else y-p:=fun y hy=>by
       split
       · exact Nat.mod_eq_of_lt ‹_›
       · rw[Nat.mod_eq_sub_mod (by omega),Nat.mod_eq_of_lt (by omega)]
     rw[←e3,←e4,hm X l1,hm R l2]at h3
     by_cases x1:X<p
     · rw[ay x1]at h3
       rw[Nat.mod_eq_of_lt (by omega)]
       split at h3<;>omega
     · rw[ax x1]at h3
       rw[Nat.mod_eq_sub_mod (by omega),Nat.mod_eq_of_lt (by omega)]
       split at h3<;>omega
def par (h:Nat):Nat:=(h / 8589934592+h / 35184372088832)%2
theorem JN (h:Nat)(hh:h<M)(hr:h%262144=43840):iter T (2 ^ 33) h=(h+8589934592*5)%M:=by rw[jump,Ja];unfold Dt M at*;omega
theorem JC (h:Nat)(hh:h<M)(hr:h%262144=212951):iter T (2 ^ 33) h=(h+8589934592*1)%M:=by rw[jump,Ja];unfold Dt M at*;omega
theorem Ka (h:Nat):h / 35184372088832=h / 8589934592 / 4096:=by rw[Nat.div_div_eq_div_mul]
theorem JA (h d:Nat):(h+8589934592*d)%M / 8589934592=(h / 8589934592+d)%1048576:=by have e:M=8589934592*1048576:=by{decide};rw[e,Nat.mod_mul_right_div_self];congr 1;omega
theorem VB {v d:Nat}(hv:v<1048576)(hs:v%4096+d<4096):v+d<1048576/\(v+d) / 4096=v / 4096:=by have h:=Nat.mod_add_div v 4096;have h2:v / 4096<256:=Nat.div_lt_of_lt_mul (by omega);constructor<;>omega
theorem three (h d:Nat)(hd:d=5\/d=1)(p0:par h=1)(p1:par ((h+8589934592*d)%M)=1)(p2:par ((h+8589934592*(d+d))%M)=1)(hh:h / 8589934592<1048576):False:=by unfold par at p0 p1 p2;rw[Ka]at p0 p1 p2;rw[JA]at p1 p2;generalize h / 8589934592=v at*;have hodd:d%2=1:=by{omega};have hd5:d<=5:=by{omega};clear hd;by_cases hs:v%4096+d<4096;{obtain⟨n1,e2⟩:=VB hh hs;rw[Nat.mod_eq_of_lt n1,e2]at p1;clear p2;omega};have e0:(v+(d+d))%1048576=((v+d)%1048576+d)%1048576:=by{rw[Nat.mod_add_mod,Nat.add_assoc]};have e5:(v+d)%1048576%4096=v%4096+d-4096:=by{rw[Nat.mod_mod_of_dvd _ (by decide:4096∣1048576)];omega};have e6:(v+d)%1048576<1048576:=Nat.mod_lt _ (by decide);rw[e0]at p2;generalize(v+d)%1048576=v1 at*;have hv4:v%4096<4096:=Nat.mod_lt _ (by decide);obtain⟨n1,e2⟩:=VB e6 (show v1%4096+d<4096 by rw[e5];clear p0 p1 p2 e0;omega);rw[Nat.mod_eq_of_lt n1,e2]at p2;clear p0 e0 e5;omega
theorem pJ {f:Nat->Nat}{m:Nat}(hf:∀h,f h<m):∀(n h:Nat),h<m->iter f n h<m
 |0,h,hh=>hh
 |n+1,h,hh=>pJ hf n (f h) (hf h)
theorem Ce {a c m:Nat}(hm:0<m)(h:Nat):Dt a c m h<m:=Nat.mod_lt _ hm
theorem Fw:0<M:=by decide
theorem D7 (n h:Nat)(hh:h<M):iter T n h<M:=pJ (fun x=>Ce Fw x) n h hh
theorem stops (h:Nat)(hh:h<M):∃n,n%2=0/\n<2 ^ 18+2 ^ 34+1/\¬par (iter T n h)=1:=by
 obtain⟨r,d,hr,hd,hl⟩:∃r d,h%2=r%2/\(d=5\/d=1)/\∀x,x<M->x%262144=r%262144->iter T (2 ^ 33) x=(x+8589934592*d)%M:=by by_cases e:h%2=0;{exact⟨43840,5,by omega, .inl rfl,fun x hx Yh=>JN x hx (by omega)⟩};exact⟨212951,1,by omega, .inr rfl,fun x hx Yh=>JC x hx (by omega)⟩
 obtain⟨n,h1,h2,h3⟩:=reach h r hr 17 (by omega)
 have hx:=D7 n h hh
 have e33:(2:Nat) ^ 33%2=0:=by decide
 have e34:(2:Nat) ^ 34=2 ^ 33+2 ^ 33:=by decide
 have e18:(2:Nat) ^ (17+1)=262144:=by decide
 rw[e18]at h3 h2
 have l1:=hl _ hx h3
 have hx1:(iter T n h+8589934592*d)%M<M:=Nat.mod_lt _ (by decide)
 have hm1:(iter T n h+8589934592*d)%M%262144=r%262144:=by rw[Nat.mod_mod_of_dvd _ (by decide:262144∣M)];omega
 have l2:=hl _ hx1 hm1
 rw[Nat.mod_add_mod,Nat.add_assoc,←Nat.mul_add]at l2
 by_cases b0:par (iter T n h)=1
 · by_cases b1:par ((iter T n h+8589934592*d)%M)=1
   · refine⟨n+2 ^ 33+2 ^ 33,by omega,by omega,?_⟩
     rw[iY,iY,l1,l2]
     exact fun b2=>three _ d hd b0 b1 b2 (by
      have e:M=8589934592*1048576:=by decide
      rw[e]at hx
      exact Nat.div_lt_of_lt_mul hx)
   · refine⟨n+2 ^ 33,by omega,by omega,?_⟩;rw[iY,l1];exact b1
 · exact⟨n,h1,by omega,b0⟩
theorem BQ (f:Nat->Nat)(n h:Nat):iter f (n+2) h=iter f n (f (f h)):=rfl
def AV:Nat:=2 ^ 18+2 ^ 34+1
end mZ
end Go.Proofs.YtghjooipkofodaaGreat
