/- Own text. -/
import Derived.Test.YthkjdjmjdlimnaaGreatKV03
namespace Go.Proofs.YthkjdjmjdlimnaaGreat
open Go.RowKit Go.Shelf
set_option linter.all false
set_option maxRecDepth 100000
set_option maxHeartbeats 16000000
variable {B c cE cO cS cap e g g1 gE gO gS i j k len m n n₀ n₁:Nat}{E O l xs zs:List Int}{S:List Nat}{W W' w w1 w2 wr:World}{h:Int}{row:Option Nat}{v:Value}{vs:List Value}
def iv (x:Int):Value:= .int .i64 x
def IL (w:World)(a:Option Addr)(len:Nat)(xs:List Int):Prop:=
 xs.length=len/\len<=maxLen/\(len=0\/∃b off,a=some ⟨b,off,none⟩/\b<w.heap.size/\∀j,j<len->w.cell? ⟨b,off+j,none⟩=some (.int .i64 (xs.getD j 0)))
theorem IL.kept {w w':World}{a:Option Addr}{len:Nat}{xs:List Int}(h:IL w a len xs)(hB:Below w.heap.size w w'):IL w' a len xs:=by obtain⟨h1,h2,h3|⟨b,off,rfl,hb,hx⟩⟩:=h;{exact⟨h1,h2, .inl h3⟩};exact⟨h1,h2, .inr ⟨b,off,rfl,aj hb hB.size,fun j hj=>(hB.cell (p:=⟨b,off+j,none⟩) hb).trans (hx j hj)⟩⟩
def OI (W:World)(n₀:Nat)(v:Value)(xs:List Int):Prop:=W.ownsRow n₀ 2 1 v xs.length (xs.map iv)
theorem OI.slice {W:World}{n₀:Nat}{v:Value}{xs:List Int}(h:OI W n₀ v xs):∃a cap,v= .slice a xs.length cap/\IL W a xs.length xs:=by rcases h.2 with⟨rfl,h0⟩|⟨g,cap,cur,rfl,hb,hc,hn,hm,hs,ht⟩;{exact⟨none,0,by rw[h0],rfl,by rw[h0];exact jT _, .inl h0⟩};refine⟨_,cap,rfl,rfl,fH hn hm, .inr ⟨g,0,rfl,(h.lt g rfl).2,fun j hj=>?_⟩⟩;have:=h.cellAt j (by omega);rw[Nat.zero_add,this,KH,ai hj,ah,ai hj];rfl
theorem OI.kept {W W':World}{n₀:Nat}{v:Value}{xs:List Int}(h:OI W n₀ v xs)(hB:Below W.heap.size W W'):OI W' n₀ v xs:=by refine aa0 (row:=none) h ⟨hB.os,hB.tape,hB.output,hB.size,fun k hk _=>hB.block k hk⟩ ?_;rcases hv:v.ownBlock with _|b;{exact .inl rfl};exact .inr (by simp)
theorem OI.dZ{b:Nat}(h:OI W n₀ v xs)(hg:W.grownBy W' (some b))(hne:∀g,v.ownBlock=some g->g≠b):OI W' n₀ v xs:=by refine aa0 h hg ?_;rcases hv:v.ownBlock with _|b';{exact .inl rfl};refine .inr ?_;have:=hne b' hv;simp only[ne_eq,af];omega
theorem OI.mono(h:OI W n₁ v xs)(hn:n₀<=n₁):OI W n₀ v xs:=by refine⟨h.1,?_⟩;rcases h.2 with h'|⟨g',cap',cur,h',hb,r⟩;{exact .inl h'};exact .inr ⟨g',cap',cur,h',fH hn hb,r⟩
theorem OI.nil (W:World)(n₀:Nat):OI W n₀ (.slice none 0 0) []:=⟨rfl, .inl ⟨rfl,rfl⟩⟩
theorem OI.empty (W:World):OI (W.alloc (.cells #[] 2)) W.heap.size (.slice (some ⟨W.heap.size,0,none⟩) 0 0) []:=
 ⟨rfl, .inr ⟨W.heap.size,0,#[],rfl,bI _,QC W _,bI _,jT _,rfl,rfl⟩⟩
theorem bT:(Tryz.prog.info? 2).map (fun i=>(i.zero,i.size,i.bytes))=some (some (.int .i64 0),1,8):=by kernel_rfl
theorem ic (xs:List Int)(k:Nat)(x:Int):(xs.set k x).map iv=(xs.map iv).set k (.int .i64 x):=by rw[List.map_set];rfl
section
open Go.RowKit
theorem St.Qe (op:Int):(op==8||op==9||op==10)=St.opens op:=by unfold St.opens;by_cases h8:op=8;{subst h8;rfl};by_cases h9:op=9;{subst h9;rfl};by_cases h10:op=10;{subst h10;rfl};simp[h8,h9,h10]
def St.CV (op a:Int):Bool:=St.ok op a&&St.opens op
theorem wZ (op a:Int)(w:World):Calls Tryz.prog 87 #[.agg #[.int .i64 op, .int .i64 a]] w fun e w'=>e= .returned (.bool (St.CV op a))/\Below w.heap.size w w':=by rcases h:St.ok op a with _|_;{go_enter Tryz.func87,Tryz.ntmps87;go_wp2_with fail;refine(mR _ _ _).mono ?_;rintro e w1⟨rfl,hB⟩;obtain⟨hc0,hc1,hlt⟩:=vR w _ _ _ hB;have hB1:=(aB w _).trans (hB.mono (by simp));go_wp2;go_ret;exact⟨by rw[St.CV,h];rfl,hB1⟩};go_enter Tryz.func87,Tryz.ntmps87;go_wp2_with fail;refine(mR _ _ _).mono ?_;rintro e w1⟨rfl,hB⟩;obtain⟨hc0,hc1,hlt⟩:=vR w _ _ _ hB;have hB1:=(aB w _).trans (hB.mono (by simp));go_wp2;all_goals(go_ret;exact⟨dz (by rw[St.CV,h,Bool.true_and,←St.Qe];try simp_all),hB1⟩)
end
theorem eX (W:World)(a:Value)(t:TypeId)(H:Nat)(hH:W.heap.size=H):∀j u,[a][j]?=some u->(W.alloc (.cells #[a] t)).cell? ((⟨H,0,none⟩:Addr).add j)=some u:=by
 subst hH
 intro j u hu
 match j,hu with
 |0,hu=>simp at hu;subst hu;simp[Addr.add]
theorem aN{xs:List Value}(h:W.ownsRow n₀ e k v n xs)(hB:Below W.heap.size W W'):W'.ownsRow n₀ e k v n xs:=by refine h.kept (row:=none) ⟨hB.os,hB.tape,hB.output,hB.size,fun k hk _=>hB.block k hk⟩ ?_;rcases hv:v.ownBlock with _|b;{exact .inl rfl};exact .inr (by simp)
theorem ik{e:TypeId}{size:Nat}{xs:List Value}(hrow:W.ownsRow B e size v k xs)(hB:Below B w W)(hs:B<=W.heap.size)(hgrow:W.grownBy w1 v.ownBlock):Below B w w1:=
 hB.grown hgrow hs fun j ej=>(hrow.lt j ej).1
theorem uQ (n:Nat)(hn:n<=2000000)(w:World):Calls Tryz.prog 85 #[.int .i64 n] w fun e w'=>∃g c,e= .returned (.slice (some ⟨g,0,none⟩) n c)/\OI w' w.heap.size (.slice (some ⟨g,0,none⟩) n c) (aM.iD n)/\Below w.heap.size w w':=by obtain⟨i0,hi,hz0,hz1,hz2⟩:=lT bT;have hr0:=OI.empty w;have hB0:=(eG w.heap.size w).alloc (bI _) (.cells #[] 2);go_enter Tryz.func85,Tryz.ntmps85;go_wp2;go_loopw [0,3] (fun m v wr=>∃(k j g c:Nat),m= .int .i64 k/\v= .slice (some ⟨g,0,none⟩) j c/\j+k=n/\wr.ownsRow w.heap.size 2 1 (.slice (some ⟨g,0,none⟩) j c) j ((aM.iD j).map iv)/\Below w.heap.size w wr) (fun m _ _=>(intOf m).toNat);(case atStart=>exact⟨n,0,_,_,rfl,rfl,by omega,hr0,hB0⟩);case round=>obtain⟨k,j,g,c,rfl,rfl,hjk,hrow,hB⟩:=hrel;clear hr0 hB0;by_cases hk:0<k;{have hBx:=hB.alloc hB.size (.cells #[.int .i64 (-1)] 2);have HRW:=ae (hrow.alloc (.cells #[.int .i64 (-1)] 2));have hsz:=hB.size;clear hrow;go_wp2_with(at_builtin;refine nz _ rfl _ _ 27 rfl w.heap.size 2 i0 (.int .i64 0) 1 8 Tryz.underlying27 hi hz0 hz1 hz2 rfl (by decide) _ _ _ rfl HRW.out ⟨wr.heap.size,0,none⟩ 1 1 [.int .i64 (-1)] rfl rfl (eX _ _ _ _ rfl) (by simp[Value.oneCell']) (by simp only[maxLen];omega) (by omega) (by simp;omega) ?_;intro v' wA hown' hgrow _;have hB4:=ik HRW.out hBx (by simp;omega) hgrow;obtain⟨g',cap',rfl⟩:=qF hown');go_roundw;(case rel=>refine⟨k-1,j+1,g',cap',by congr 1;omega,rfl,by omega,?_,hB4⟩;have e:(aM.iD (j+1)).map iv=(aM.iD j).map iv++[.int .i64 (-1)]:=by{simp[aM.iD,List.replicate_succ',iv]};rw[e];exact hown');case measure=>simp[intOf];omega};have hk0:k=0:=by{omega};subst hk0;have hj:j=n:=by{omega};subst hj;clear hk hjk;go_wp2;go_ret;refine⟨g,c,rfl,?_,hB⟩;unfold OI;have e:(aM.iD j).length=j:=by{simp[aM.iD]};rw[e];exact hrow
theorem Xl{xs:List Value}(h:W.ownsRow n₀ e 1 (.slice (some ⟨g,0,none⟩) n c) n xs)(m:Nat)(hm:m<=n):W.ownsRow n₀ e 1 (.slice (some ⟨g,0,none⟩) m c) m (xs.take m):=by obtain⟨h1,h2⟩:=h;refine⟨by rw[o7,h1];omega,?_⟩;rcases h2 with⟨h',_⟩|⟨g',cap',cur,h',hb,hc,hn,hx,hs,ht⟩;{cases h'};cases h';refine .inr ⟨g,c,cur,rfl,hb,hc,by omega,hx,hs,?_⟩;rw[←ht,List.take_take];congr 1;omega
theorem mP(h:W.ownsRow n₀ 2 1 (.slice (some ⟨g,0,none⟩) n c) n (xs.map iv))(hk:k<n)(d:Int):W.cell? ⟨g,k,none⟩=some (.int .i64 (xs.getD k d)):=by have hl:xs.length=n:=by{have:=h.1;simpa using this};rw[h.cellAt k (by omega),KH,ai (by omega),ah,ai (by omega)];rfl
def nk (S:List Nat):List Int:=S.map fun(x:Nat)=>(x:Int)
theorem kE{b:Nat}{xs:List Value}(h:W.ownsRow n₀ e k (.slice (some ⟨g,0,none⟩) n c) n xs)(hg:W.grownBy W' (some b))(hb:g≠b):W'.ownsRow n₀ e k (.slice (some ⟨g,0,none⟩) n c) n xs:=
 h.kept hg (.inr (by simp only[Value.ownBlock,ne_eq,af];omega))
structure NI (xs:List (Int×Int))(len:Nat)(w w1 w2 wr:World)(gE cE gO cO gS cS:Nat)(k:Nat)(E O:List Int)(S:List Nat):Prop where
 rE:wr.ownsRow w.heap.size 2 1 (.slice (some ⟨gE,0,none⟩) len cE) len (E.map iv)
 rO:wr.ownsRow w1.heap.size 2 1 (.slice (some ⟨gO,0,none⟩) len cO) len (O.map iv)
 rS:wr.ownsRow w2.heap.size 2 1 (.slice (some ⟨gS,0,none⟩) S.length cS) S.length ((nk S.reverse).map iv)
 eq:aM.all xs=aM.go xs (len+1-k) k E O S
 sl:S.length<=k
 st:∀t∈S,t<k
 so:∀t∈S,-1<=O.getD t (-1)/\O.getD t (-1)<k
 oz:∀t,k<=t->O.getD t (-1)=-1
 fU:Below w.heap.size w wr
 sz:w2.heap.size<=wr.heap.size
 eE:gE<w1.heap.size
 eO:w1.heap.size<=gO/\gO<w2.heap.size
theorem NI.kept {xs:List (Int×Int)}{len:Nat}{w w1 w2 wr wx:World}{gE cE gO cO gS cS k:Nat}{E O:List Int}{S:List Nat}(h:NI xs len w w1 w2 wr gE cE gO cO gS cS k E O S)(hB:Below wr.heap.size wr wx):NI xs len w w1 w2 wx gE cE gO cO gS cS k E O S:=
 {h with rE:=aN h.rE hB,rO:=aN h.rO hB,rS:=aN h.rS hB,fU:=h.fU.trans (hB.mono h.fU.size),sz:=fH h.sz hB.size}
theorem NI.push{xs:List (Int×Int)}{wA:World}{gS' cS':Nat}(h:NI xs len w w1 w2 wr gE cE gO cO gS cS k E O S)(hk:k<xs.length)(hl:xs.length=len)(ho:St.opens (aM.op xs k)=true)(hown:wA.ownsRow w2.heap.size 2 1 (.slice (some ⟨gS',0,none⟩) (S.length+1) cS') (S.length+1) ((nk S.reverse).map iv++[.int .i64 (k:Int)]))(hg:wr.grownBy wA (Value.slice (some ⟨gS,0,none⟩) S.length cS).ownBlock):NI xs len w w1 w2 wA gE cE gO cO gS' cS' (k+1) E O (k::S):=by have hgs:=(h.rS.lt gS rfl).1;have hg':wr.grownBy wA (some gS):=hg;have hE:=h.eE;have hO':=h.eO;refine⟨kE h.rE hg' (by omega),kE h.rO hg' (by omega),?_,?_,by simp;exact h.sl,?_,?_,fun t ht=>h.oz t (by omega),?_,fH h.sz hg.size,hE,hO'⟩;{have e:(nk (k::S).reverse).map iv=(nk S.reverse).map iv++[.int .i64 (k:Int)]:=by{simp[nk,iv]};rw[e,oK];exact hown};{rw[h.eq,show len+1-k=(len+1-(k+1))+1 by omega,aM.mD hk ho]};{intro t ht;rcases List.mem_cons.1 ht with rfl|ht;{omega};have:=h.st t ht;omega};{intro t ht;rcases List.mem_cons.1 ht with rfl|ht;{have:=h.oz t (bI _);omega};have:=h.so t ht;omega};exact h.fU.grown hg h.fU.size fun j ej=>by have:j=gS:=by{simpa[Value.ownBlock]using ej.symm};have:=h.fU.size;have h1:w.heap.size<=w1.heap.size:=by{have:=(h.rE.lt gE rfl).1;omega};omega
theorem NI.step{xs:List (Int×Int)}(h:NI xs len w w1 w2 wr gE cE gO cO gS cS k E O S)(hk:k<xs.length)(hl:xs.length=len)(ho:St.opens (aM.op xs k)=false)(h1:aM.op xs k≠11)(h2:aM.op xs k≠12):
   NI xs len w w1 w2 wr gE cE gO cO gS cS (k+1) E O S:=
 { h with
   eq:=by rw[h.eq,show len+1-k=(len+1-(k+1))+1 by omega,aM.lW hk ho h1 h2]
   sl:=Nat.le_succ_of_le h.sl
   st:=fun t ht=>by have:=h.st t ht;omega
   so:=fun t ht=>by have:=h.so t ht;omega
   oz:=fun t ht=>h.oz t (by omega)}
theorem ko{x d:Int}:(l.set k x).getD j d=if j=k/\k<l.length then x else l.getD j d:=by by_cases h:j=k;{subst h;by_cases hk:j<l.length;{rw[az ⟨rfl,hk⟩,ah,Ww hk];rfl};rw[ax (fun e=>hk e.2),List.set_eq_of_length_le (by omega)]};rw[ax (fun e=>h e.1),ah,R9 (by omega),←ah]
theorem NI.agl{xs:List (Int×Int)}(h:NI xs len w w1 w2 wr gE cE gO cO gS cS k E O S):E.length=len/\O.length=len:=by have h1:=h.rE.1;have h2:=h.rO.1;simp at h1 h2;exact⟨h1,h2⟩
theorem NI.Oa{xs:List (Int×Int)}{t:Nat}(h:NI xs len w w1 w2 wr gE cE gO cO gS cS k E O (t::S))(hk:k<xs.length)(hl:xs.length=len)(ho:St.opens (aM.op xs k)=false)(h1:aM.op xs k=11)(h2:aM.op xs t=10/\O.getD t (-1)<0):NI xs len w w1 w2 (wr.setCell ⟨gO,t,none⟩ (.int .i64 (k:Int))) gE cE gO cO gS cS (k+1) E (O.set t (k:Int)) (t::S):=by have hst:=h.rO.stored t (.int .i64 (k:Int));rw[←ic]at hst;have hg:=aC wr ⟨gO,t,none⟩ (.int .i64 (k:Int));have hE:=h.eE;have hO:=h.eO;have hgs:=(h.rS.lt gS rfl).1;have h1w:w.heap.size<=w1.heap.size:=by{have:=(h.rE.lt gE rfl).1;omega};refine⟨kE h.rE hg (by simp;omega),hst.1,kE h.rS hg (by simp;omega),?_,Nat.le_succ_of_le h.sl,?_,?_,?_,h.fU.setCell (p:=⟨gO,t,none⟩) (by simp;omega) _,by simpa[World.setCell]using h.sz,hE,hO⟩;{rw[h.eq,show len+1-k=(len+1-(k+1))+1 by omega,aM.mg hk ho h1 h2]};{intro x hx;have:=h.st x hx;omega};{intro x hx;have:=h.so x hx;rw[ko];split<;>omega};intro x hx;have:=h.st t (by simp);rw[ko,ax (by omega)];exact h.oz x (by omega)
theorem NI.Zy{xs:List (Int×Int)}{wA:World}{t:Nat}(h:NI xs len w w1 w2 wr gE cE gO cO gS cS k E O (t::S))(hk:k<xs.length)(hl:xs.length=len)(ho:St.opens (aM.op xs k)=false)(h1:aM.op xs k≠11)(h2:aM.op xs k=12)(hA:wA=if 0<=O.getD t (-1)then(wr.setCell ⟨gE,t,none⟩ (.int .i64 (k:Int))).setCell ⟨gE,(O.getD t (-1)).toNat,none⟩ (.int .i64 (k:Int))else wr.setCell ⟨gE,t,none⟩ (.int .i64 (k:Int))):NI xs len w w1 w2 wA gE cE gO cO gS cS (k+1) (aM.close E O t k) O S:=by have hst:=h.rE.stored t (.int .i64 (k:Int));rw[←ic]at hst;have O7:=hst.1.stored (O.getD t (-1)).toNat (.int .i64 (k:Int));rw[←ic]at O7;have hE:=h.eE;have hO:=h.eO;have hge:=(h.rE.lt gE rfl).1;have hgs:=(h.rS.lt gS rfl).1;have hrow:wA.ownsRow w.heap.size 2 1 (.slice (some ⟨gE,0,none⟩) len cE) len ((aM.close E O t k).map iv)/\wr.grownBy wA (some gE)/\Below w.heap.size w wA/\wr.heap.size=wA.heap.size:=by{unfold aM.close;by_cases hc:0<=O.getD t (-1);{rw[az hc]at hA ⊢;subst hA;exact⟨O7.1,fI hst.2 O7.2,(h.fU.setCell (p:=⟨gE,t,none⟩) hge _).setCell (p:=⟨gE,(O.getD t (-1)).toNat,none⟩) hge _,by simp[World.setCell]⟩};rw[ax hc]at hA ⊢;subst hA;exact⟨hst.1,hst.2,h.fU.setCell (p:=⟨gE,t,none⟩) hge _,by simp[World.setCell]⟩};obtain⟨r1,r2,r3,r4⟩:=hrow;have hS:=kE (Xl h.rS S.length (by simp)) r2 (by omega);refine⟨r1,kE h.rO r2 (by omega),?_,?_,?_,?_,?_,fun t ht=>h.oz t (by omega),r3,by have:=h.sz;omega,hE,hO⟩;{have e:((nk (t::S).reverse).map iv).take S.length=(nk S.reverse).map iv:=by{simp[nk]};rw[e]at hS;exact hS};{rw[h.eq,show len+1-k=(len+1-(k+1))+1 by omega,aM.mq hk ho h1 h2]};{have:=h.sl;simp at this;omega};{intro x hx;have:=h.st x (List.mem_cons_of_mem _ hx);omega};intro x hx;have:=h.so x (List.mem_cons_of_mem _ hx);omega
theorem NI.dU{xs:List (Int×Int)}{t:Nat}(h:NI xs len w w1 w2 wr gE cE gO cO gS cS k E O (t::S)):wr.cell? ⟨gS,S.length,none⟩=some (.int .i64 (t:Int)):=by have:=mP (xs:=nk (t::S).reverse) h.rS (k:=S.length) (by simp) 0;rw[this];simp[nk]
theorem NW{b0 b1 e0 e1 k0 k1 g0 n0 n1 c0 c1:Nat}{xs ys:List Value}(h0:W.ownsRow b0 e0 k0 (.slice (some ⟨g0,0,none⟩) n0 c0) n0 xs)(h1:W.ownsRow b1 e1 k1 (.slice (some ⟨g1,0,none⟩) n1 c1) n1 ys)(he:e0≠e1):g0≠g1:=by rintro rfl;rcases h0.2 with⟨h',_⟩|⟨g,c,cur,h',_,hb,_⟩;{cases h'};cases h';rcases h1.2 with⟨h',_⟩|⟨g,c,cur',h',_,hb',_⟩;{cases h'};cases h';rw[hb]at hb';simp only[af,Obj.cells.injEq]at hb';exact he hb'.2.1
theorem eH{b0 b1 e0 e1 k0 k1 g0 n0 n1 c0 c1:Nat}{xs ys:List Value}(h1:W.ownsRow b1 e1 k1 (.slice (some ⟨g1,0,none⟩) n1 c1) n1 ys)(h0:W.ownsRow b0 e0 k0 (.slice (some ⟨g0,0,none⟩) n0 c0) n0 xs)(he:e0≠e1)(hg:W.grownBy W' (Value.slice (some ⟨g0,0,none⟩) n0 c0).ownBlock):W'.ownsRow b1 e1 k1 (.slice (some ⟨g1,0,none⟩) n1 c1) n1 ys:=
 kE h1 (b:=g0) hg (Ne.symm (NW h0 h1 he))
theorem IU{xs:List Value}(h:W.ownsRow n₀ e k (.slice (some ⟨g,0,none⟩) n c) n xs)(m:Nat)(hm:m<=n):W.ownsRow n₀ e k (.slice (some ⟨g,0,none⟩) m c) m (xs.take (m*k)):=by obtain⟨h1,h2⟩:=h;have hmk:m*k<=n*k:=Nat.mul_le_mul_right k hm;refine⟨by rw[o7,h1];omega,?_⟩;rcases h2 with⟨h',_⟩|⟨g',cap',cur,h',hb,hc,hn,hx,hs,ht⟩;{cases h'};cases h';refine .inr ⟨g,c,cur,rfl,hb,hc,by omega,hx,hs,?_⟩;rw[←ht,List.take_take];congr 1;omega
theorem dX{xs:List Value}(h:W.ownsRow n₀ e k (.slice (some ⟨g,0,none⟩) n c) n xs):n<=c:=by rcases h.2 with⟨h',_⟩|⟨g',cap',cur,h',_,_,hc,_⟩;{cases h'};cases h';exact hc
def aX (W:World)(b:Nat)(vs:List Value):Prop:=b<W.heap.size/\∀i x,vs[i]?=some x->W.cell? ⟨b,i,none⟩=some x/\W.frozen? ⟨b,i,none⟩=false
theorem aX.dZ{b:Nat}(h:aX W b vs)(hg:W.grownBy W' row)(hne:row≠some b):aX W' b vs:=by have hb:=hg.block b h.1 (fun e=>hne e.symm);refine⟨aj h.1 hg.size,fun i x hx=>?_⟩;obtain⟨h1,h2⟩:=h.2 i x hx;exact⟨(kK hb).trans h1,by unfold World.frozen?;rw[hb];exact h2⟩
theorem aX.kept {W W':World}{b:Nat}{vs:List Value}(h:aX W b vs)(hB:Below W.heap.size W W'):aX W' b vs:=h.dZ (row:=none) ⟨hB.os,hB.tape,hB.output,hB.size,fun k hk _=>hB.block k hk⟩ (by simp)
theorem aX.new (W:World)(vs:List Value)(t:TypeId):aX (W.alloc (.cells vs.toArray t)) W.heap.size vs:=by refine⟨by simp,fun i x hx=>⟨?_,by simp⟩⟩;rw[World.cell?_alloc_at _ _ _ _ rfl];simpa using hx
theorem aX.set {W:World}{b:Nat}{vs:List Value}(h:aX W b vs)(i:Nat)(x:Value):aX (W.setCell ⟨b,i,none⟩ x) b (vs.set i x):=by refine⟨by simpa[World.setCell]using h.1,fun j y hy=>?_⟩;by_cases e:i=j;{subst e;have hi:i<vs.length:=by{rcases Nat.lt_or_ge i vs.length with h'|h';{exact h'};rw[List.getElem?_eq_none (by simpa using h')]at hy;cases hy};rw[Ww hi]at hy;cases hy;obtain⟨h1,h2⟩:=h.2 i vs[i] (ai hi);exact⟨World.cell?_setCell_same _ _ _ h1,by simpa using h2⟩};rw[R9 e]at hy;obtain⟨h1,h2⟩:=h.2 j y hy;exact⟨(KI _ _ _ _ (fun q=>e (by cases q;rfl))).trans h1,by simpa using h2⟩
namespace uw
def iter (f:Nat->Nat):Nat->Nat->Nat
 |0,h=>h
 |n+1,h=>iter f n (f h)
theorem nQ (f:Nat->Nat)(m:Nat):∀(n h:Nat),iter f (n+m) h=iter f m (iter f n h)
 |0,h=>by rw[Nat.zero_add];rfl
 |n+1,h=>by rw[Nat.add_right_comm];exact nQ f m n (f h)
def Wx (a c M h:Nat):Nat:=(a*h+c)%M
def AC (a c M:Nat):Nat->Nat×Nat
 |0=>(a,c)
 |k+1=>((AC a c M k).1*(AC a c M k).1%M,((AC a c M k).1*(AC a c M k).2+(AC a c M k).2)%M)
theorem jump (a c M:Nat):∀(k h:Nat),iter (Wx a c M) (2 ^ k) h=Wx (AC a c M k).1 (AC a c M k).2 M h
 |0,h=>rfl
 | k +1,h=>by
   have e:2 ^ (k+1)=2 ^ k+2 ^ k:=by rw[Nat.pow_succ];omega
   rw[e,nQ,jump a c M k,jump a c M k]
   show _=Wx ((AC a c M k).1*(AC a c M k).1%M) (((AC a c M k).1*(AC a c M k).2+(AC a c M k).2)%M) M h
   generalize(AC a c M k).1=A
   generalize(AC a c M k).2=C
   unfold Wx
   have h1:(A*((A*h+C)%M)+C)%M=(A*(A*h+C)+C)%M:=by
     rw[Nat.add_mod,Nat.mul_mod,Nat.mod_mod,←Nat.mul_mod,←Nat.add_mod]
   have h2:(A*A%M*h+(A*C+C)%M)%M=(A*A*h+(A*C+C))%M:=by
     rw[Nat.add_mod,Nat.mul_mod,Nat.mod_mod,Nat.mod_mod,←Nat.mul_mod,←Nat.add_mod]
   rw[h1,h2]
   congr 1
   rw[Nat.mul_add,Nat.mul_assoc]
   omega
def M:Nat:=9007199254740992
def a0:Nat:=5053549999652653
def c0:Nat:=1543160130404687
theorem af8:∀k,k<18->(AC a0 c0 M k).1%2 ^ (k+1)=1/\(AC a0 c0 M k).2%2 ^ (k+1)=2 ^ k:=by decide+kernel
abbrev T:Nat->Nat:=Wx a0 c0 M
theorem agv:AC a0 c0 M 33=(4124027597619201,4140803739877376):=by decide+kernel
theorem Yc{A C h:Nat}(hk:k<18)(hA:A%2 ^ (k+1)=1)(hC:C%2 ^ (k+1)=2 ^ k):Wx A C M h%2 ^ (k+1)=(h+2 ^ k)%2 ^ (k+1):=by unfold Wx;have hd:2 ^ (k+1)∣M:=by{have:M=2 ^ 53:=by{decide};rw[this];exact Nat.pow_dvd_pow 2 (by omega)};rw[Nat.mod_mod_of_dvd _ hd,Nat.add_mod,Nat.mul_mod,hA,hC,Nat.one_mul,Nat.mod_mod,Nat.add_mod h (2 ^ k),Nat.mod_eq_of_lt (show 2 ^ k<2 ^ (k+1)by rw[Nat.pow_succ];have:=Nat.two_pow_pos k;omega)]
theorem reach (h r:Nat)(hr:h%2=r%2):∀k,k<18->∃n,n%2=0/\n<2 ^ (k+1)/\iter T n h%2 ^ (k+1)=r%2 ^ (k+1)
 |0,_=>⟨0,rfl,by decide,by simpa[iter]using hr⟩
 | k + 1,hk=>by
   obtain⟨n,h1,h2,h3⟩:=reach h r hr k (by omega)
   have hp:2 ^ (k+1+1)=2 ^ (k+1)+2 ^ (k+1):=by rw[Nat.pow_succ 2 (k+1)];omega
   have hpos:=Nat.two_pow_pos (k+1)
   have he:2 ^ (k+1)%2=0:=by rw[Nat.pow_succ];omega
   by_cases e:iter T n h%2 ^ (k+1+1)=r%2 ^ (k+1+1)
   · exact⟨n,h1,by omega,e⟩
   · refine⟨n+2 ^ (k+1),by omega,by omega,?_⟩
     obtain⟨f1,f2⟩:=af8 (k+1) hk
     rw[nQ,jump,Yc hk f1 f2]
     generalize iter T n h=x at*
     generalize 2 ^ (k+1)=p at*
     rw[hp]at e ⊢
     have e1:=Nat.mod_add_div x (p+p)
     have e2:=Nat.mod_add_div r (p+p)
     have e3:x%(p+p)%p=x%p:=Nat.mod_mod_of_dvd _ ⟨2,by omega⟩
     have e4:r%(p+p)%p=r%p:=Nat.mod_mod_of_dvd _ ⟨2,by omega⟩
     have l1:=Nat.mod_lt x (show 0<p+p by omega)
     have l2:=Nat.mod_lt r (show 0<p+p by omega)
     rw[Nat.add_mod,Nat.mod_eq_of_lt (show p<p+p by omega)]
     generalize x%(p+p)=X at*
     generalize r%(p+p)=R at*
     have hm:∀y,y<p+p->y%p=if y<p then y else y-p:=fun y hy=>by
       split
       · exact Nat.mod_eq_of_lt ‹_›
       · rw[Nat.mod_eq_sub_mod (by omega),Nat.mod_eq_of_lt (by omega)]
     rw[←e3,←e4,hm X l1,hm R l2]at h3
     by_cases x1:X<p
     · rw[az x1]at h3
       rw[Nat.mod_eq_of_lt (by omega)]
       split at h3<;>omega
     · rw[ax x1]at h3
       rw[Nat.mod_eq_sub_mod (by omega),Nat.mod_eq_of_lt (by omega)]
       split at h3<;>omega
def par (h:Nat):Nat:=(h / 8589934592+h / 35184372088832)%2
theorem agu (h:Nat)(hh:h<M)(hr:h%262144=43840):iter T (2 ^ 33) h=(h+8589934592*5)%M:=by rw[jump,agv];unfold Wx M at*;omega
theorem agw (h:Nat)(hh:h<M)(hr:h%262144=212951):iter T (2 ^ 33) h=(h+8589934592*1)%M:=by rw[jump,agv];unfold Wx M at*;omega
theorem ags (h:Nat):h / 35184372088832=h / 8589934592 / 4096:=by rw[Nat.div_div_eq_div_mul]
theorem afM (h d:Nat):(h+8589934592*d)%M / 8589934592=(h / 8589934592+d)%1048576:=by have e:M=8589934592*1048576:=by{decide};rw[e,Nat.mod_mul_right_div_self];congr 1;omega
theorem nxt {v d:Nat}(hv:v<1048576)(hs:v%4096+d<4096):v+d<1048576/\(v+d) / 4096=v / 4096:=by have h:=Nat.mod_add_div v 4096;have h2:v / 4096<256:=Nat.div_lt_of_lt_mul (by omega);constructor<;>omega
theorem three (h d:Nat)(hd:d=5\/d=1)(p0:par h=1)(p1:par ((h+8589934592*d)%M)=1)(p2:par ((h+8589934592*(d+d))%M)=1)(hh:h / 8589934592<1048576):False:=by unfold par at p0 p1 p2;rw[ags]at p0 p1 p2;rw[afM]at p1 p2;generalize h / 8589934592=v at*;have hodd:d%2=1:=by{omega};have hd5:d<=5:=by{omega};clear hd;by_cases hs:v%4096+d<4096;{obtain⟨n1,e2⟩:=nxt hh hs;rw[Nat.mod_eq_of_lt n1,e2]at p1;clear p2;omega};have e0:(v+(d+d))%1048576=((v+d)%1048576+d)%1048576:=by{rw[Nat.mod_add_mod,Nat.add_assoc]};have e5:(v+d)%1048576%4096=v%4096+d-4096:=by{rw[Nat.mod_mod_of_dvd _ (by decide:4096∣1048576)];omega};have e6:(v+d)%1048576<1048576:=Nat.mod_lt _ (by decide);rw[e0]at p2;generalize(v+d)%1048576=v1 at*;have hv4:v%4096<4096:=Nat.mod_lt _ (by decide);obtain⟨n1,e2⟩:=nxt e6 (show v1%4096+d<4096 by rw[e5];clear p0 p1 p2 e0;omega);rw[Nat.mod_eq_of_lt n1,e2]at p2;clear p0 e0 e5;omega
theorem wS {f:Nat->Nat}{m:Nat}(hf:∀h,f h<m):∀(n h:Nat),h<m->iter f n h<m
 |0,h,hh=>hh
 |n+1,h,hh=>wS hf n (f h) (hf h)
theorem QK{a:Nat}(hm:0<m)(h:Nat):Wx a c m h<m:=Nat.mod_lt _ hm
theorem Zx:0<M:=by decide
theorem Xm (n h:Nat)(hh:h<M):iter T n h<M:=wS (fun x=>QK Zx x) n h hh
theorem stops (h:Nat)(hh:h<M):∃n,n%2=0/\n<2 ^ 18+2 ^ 34+1/\¬par (iter T n h)=1:=by
 obtain⟨r,d,hr,hd,hl⟩:∃r d,h%2=r%2/\(d=5\/d=1)/\∀x,x<M->x%262144=r%262144->iter T (2 ^ 33) x=(x+8589934592*d)%M:=by by_cases e:h%2=0;{exact⟨43840,5,by omega, .inl rfl,fun x hx Sj=>agu x hx (by omega)⟩};exact⟨212951,1,by omega, .inr rfl,fun x hx Sj=>agw x hx (by omega)⟩
 obtain⟨n,h1,h2,h3⟩:=reach h r hr 17 (by omega)
 have hx:=Xm n h hh
 have e33:(2:Nat) ^ 33%2=0:=by decide
 have e34:(2:Nat) ^ 34=2 ^ 33+2 ^ 33:=by decide
 have e18:(2:Nat) ^ (17+1)=262144:=by decide
 rw[e18]at h3 h2
 have l1:=hl _ hx h3
 have hx1:(iter T n h+8589934592*d)%M<M:=Nat.mod_lt _ (by decide)
 have hm1:(iter T n h+8589934592*d)%M%262144=r%262144:=by rw[Nat.mod_mod_of_dvd _ (by decide:262144∣M)];omega
 have l2:=hl _ hx1 hm1
 rw[Nat.mod_add_mod,Nat.add_assoc,←Nat.mul_add]at l2
 by_cases b0:par (iter T n h)=1
 · by_cases b1:par ((iter T n h+8589934592*d)%M)=1
   · refine⟨n+2 ^ 33+2 ^ 33,by omega,by omega,?_⟩
     rw[nQ,nQ,l1,l2]
     exact fun b2=>three _ d hd b0 b1 b2 (by
      have e:M=8589934592*1048576:=by decide
      rw[e]at hx
      exact Nat.div_lt_of_lt_mul hx)
   · refine⟨n+2 ^ 33,by omega,by omega,?_⟩;rw[nQ,l1];exact b1
 · exact⟨n,h1,by omega,b0⟩
theorem Qc (f:Nat->Nat)(n h:Nat):iter f (n+2) h=iter f n (f (f h)):=rfl
def NQ:Nat:=2 ^ 18+2 ^ 34+1
end uw
section
open Go.RowKit
def uZ (w:World)(B:Nat)(a:Option Addr)(len cap:Nat)(zs:List Int)(i:Nat)(h:Int):Prop:=
 kQ w B a len cap zs/\i<=len/\w.cell? ⟨B,1,none⟩=some (.int .i64 i)/\w.cell? ⟨B,2,none⟩=some (.int .i64 h)
theorem uZ.of{a:Option Addr}(hc:kQ w B a len cap zs):∃i h,uZ w B a len cap zs i h:=by obtain⟨i,hi,hc1⟩:=hc.2.2.2.2.2.2.1;obtain⟨h,hc2⟩:=hc.2.2.2.2.2.2.2;exact⟨i,h,hc,hi,hc1,hc2⟩
def nh (h:Int):Nat:=(h%9007199254740992).toNat
theorem Sb (h:Int):((nh h:Nat):Int)=h%9007199254740992:=Xj (Int.emod_nonneg _ (by decide))
theorem mG (y:Int):wrap64 y%9007199254740992=y%9007199254740992:=by have e:wrap64 y=y-18446744073709551616*((y+9223372036854775808) / 18446744073709551616):=by{unfold wrap64;omega};rw[e,show(18446744073709551616:Int)=9007199254740992*2048 from rfl,Int.mul_assoc,Int.sub_mul_emod_self_left]
def turn (h:Int):Int:=wrap64 (wrap64 (h*6364136223846793005)+1442695040888963407)
theorem M3 (h:Int):nh (turn h)=uw.T (nh h):=by apply Int.ofNat_inj.1;have e1:((nh (turn h):Nat):Int)=((h%9007199254740992)*5053549999652653+1543160130404687)%9007199254740992:=by{rw[Sb,turn,mG,Int.add_emod,mG,Int.mul_emod];rw[Int.add_emod ((h%9007199254740992)*5053549999652653),Int.mul_emod (h%9007199254740992),Int.emod_emod];rfl};have e2:((uw.T (nh h):Nat):Int)=(5053549999652653*(nh h:Int)+1543160130404687)%9007199254740992:=by{show(((5053549999652653*nh h+1543160130404687)%9007199254740992:Nat):Int)=_;rw[Int.natCast_emod,Int.natCast_add,Int.natCast_mul];rfl};rw[e1,e2,Sb,Int.mul_comm]
theorem Jg (a b:Nat):(a ^^^ b)%2=(a+b)%2:=by have h:=Nat.testBit_xor a b 0;simp only[Nat.testBit_zero]at h;rcases Nat.mod_two_eq_zero_or_one a with ha|ha<;>rcases Nat.mod_two_eq_zero_or_one b with hb|hb<;>rcases Nat.mod_two_eq_zero_or_one (a ^^^ b)with hc|hc<;>simp[ha,hb,hc]at h<;>omega
theorem Qa (y:Int):wrap64 y%2=y%2:=by have e:wrap64 y=y-18446744073709551616*((y+9223372036854775808) / 18446744073709551616):=by{unfold wrap64;omega};rw[e];generalize(y+9223372036854775808) / 18446744073709551616=k;omega
theorem Np (u:Int):(((u%18446744073709551616).toNat:Nat):Int)%2=u%2:=by rw[Xj (Int.emod_nonneg _ (by decide))];exact Int.emod_emod_of_dvd u ⟨9223372036854775808,by decide⟩
theorem Hy (u:Int):(BitVec.ofInt 64 u).toNat=(u%18446744073709551616).toNat:=by rw[BitVec.toNat_ofInt];rfl
theorem Xv (u v:Int):(bits .xor .i64 u v)%2=(u+v)%2:=by have e2:=Jg (u%18446744073709551616).toNat (v%18446744073709551616).toNat;have l1:=Np u;have l2:=Np v;have e0:bits .xor .i64 u v=IntKind.i64.wrap (((BitVec.ofInt 64 u ^^^ BitVec.ofInt 64 v).toNat:Nat):Int):=rfl;rw[e0,IntWalk.i64_left,Qa,BitVec.toNat_xor,Hy,Hy];generalize(u%18446744073709551616).toNat ^^^ (v%18446744073709551616).toNat=z at*;generalize(u%18446744073709551616).toNat=a at*;generalize(v%18446744073709551616).toNat=b at*;omega
theorem wu (B:Nat)(a:Option Addr)(len cap:Nat)(zs:List Int)(h:Int)(w:World)(hc:uZ w B a len cap zs len h):Calls Tryz.prog 55 #[.pointer (some ⟨B,0,none⟩)] w fun e w'=>∃x:Int,e= .returned (.int .i64 x)/\0<=x/\x<=255/\x%2=uw.par (nh (turn h))/\uZ w' B a len cap zs len (turn h)/\w.grownBy w' (some B):=by obtain⟨hC,hi,hc1,hc2⟩:=hc;have HC:Hid (kQ w B a len cap zs):=hC;obtain⟨hB,hab,⟨hlen,hrow⟩,hc0,hf1,hf2,-,-⟩:=hC;unfold maxLen at hlen;have gI:¬(len:Int)<(len:Int):=by{omega};go_enter Tryz.func55,Tryz.ntmps55;go_wp2;go_quiet (fail);go_wp2;go_quiet (fail);go_wp2;go_ret;refine⟨_,rfl,(Wd.mZ _).1,(Wd.mZ _).2,?_,?_⟩;{rw[Wd.O4];have h2:=Xv (turn h / 8589934592) (turn h / 35184372088832);unfold turn at h2;unfold uw.par nh turn;generalize wrap64 (wrap64 (h*6364136223846793005)+1442695040888963407)=y at*;omega};rw[World.drewN_drewN];obtain⟨k1,k2⟩:=HC.out.one (turn h) (_+_);exact⟨⟨k1,bI _,by go_simp,by go_simp;rfl⟩,k2⟩
end
section
open Go.RowKit
theorem uZ.two {w:World}{B:Nat}{a:Option Addr}{len cap:Nat}{zs:List Int}(hc:kQ w B a len cap zs)(v:Int)(n:Nat)(j:Nat)(hj:j+1<=len)(h1:w.cell? ⟨B,1,none⟩=some (.int .i64 j))(h2:∃y,w.cell? ⟨B,2,none⟩=some (.int .i64 y)):uZ (((w.setCell ⟨B,2,none⟩ (.int .i64 v)).drewN n).setCell ⟨B,1,none⟩ (.int .i64 (j+1))) B a len cap zs (j+1) v/\w.grownBy (((w.setCell ⟨B,2,none⟩ (.int .i64 v)).drewN n).setCell ⟨B,1,none⟩ (.int .i64 (j+1))) (some B):=by obtain⟨k1,k2⟩:=hc.two v n j hj;obtain⟨y,hy⟩:=h2;obtain⟨hB,-,-,hc0,hf1,hf2,-,-⟩:=id hc;exact⟨⟨k1,hj,by go_simp,by go_simp⟩,k2⟩
theorem Ch (B:Nat)(a:Option Addr)(len cap:Nat)(zs:List Int)(i:Nat)(h:Int)(w:World)(hc:uZ w B a len cap zs i h)(hlt:i<len):Calls Tryz.prog 55 #[.pointer (some ⟨B,0,none⟩)] w fun e w'=>∃x:Int,e= .returned (.int .i64 x)/\0<=x/\x<=255/\uZ w' B a len cap zs (i+1) (turn h)/\w.grownBy w' (some B):=by obtain⟨hC,hi,hc1,hc2⟩:=hc;have HC:Hid (kQ w B a len cap zs):=hC;have HC1:Hid (w.cell? ⟨B,1,none⟩=some (.int .i64 i)/\∃y,w.cell? ⟨B,2,none⟩=some (.int .i64 y)):=⟨hc1,h,hc2⟩;obtain⟨hB,hab,⟨hlen,hrow⟩,hc0,hf1,hf2,-,-⟩:=hC;unfold maxLen at hlen;rcases hrow with rfl|⟨b,off,rfl,hb,hcell,hz⟩;{omega};have hcj:=hcell i hlt;have hne:b<B:=hab.elim (fun h=>by omega) fun h=>h _ rfl;have hz1:=(hz i).1;have hz2:=(hz i).2;have gI:(i:Int)<(len:Int):=by{omega};clear hcell hz hab;go_enter Tryz.func55,Tryz.ntmps55;go_wp2;go_quiet (fail);go_wp2;go_quiet (fail);go_wp2;go_quiet (fail);go_wp2;go_ret;exact⟨_,rfl,(Wd.mZ _).1,(Wd.mZ _).2,uZ.two HC.out _ _ i (by omega) HC1.out.1 HC1.out.2⟩
namespace uw
def Rk (h n:Nat):Prop:=∃k,k%2=0/\k<=n/\¬par (iter T k (T h))=1
theorem LW (h:Nat):Rk h NQ:=by obtain⟨k,h1,h2,h3⟩:=stops (T h) (QK Zx h);exact⟨k,h1,Nat.le_of_lt h2,h3⟩
theorem ace{f:Nat->Nat}{p:Nat->Prop}{h:Nat}(hk:∃k,k%2=0/\k<=n/\¬p (iter f k (f h)))(hp:p (f h)):2<=n/\∃k,k%2=0/\k<=n-2/\¬p (iter f k (f (f (f h)))):=by obtain⟨k,h1,h2,h3⟩:=hk;have hn:k≠0:=by{rintro rfl;exact h3 hp};obtain⟨k',rfl⟩:∃k',k=k'+2:=⟨k-2,by omega⟩;rw[Qc]at h3;exact⟨by omega,k',by omega,by omega,h3⟩
theorem abO{h:Nat}(hk:Rk h n)(hp:par (T h)=1):2<=n/\Rk (T (T h)) (n-2):=ace (p:=fun x=>par x=1) hk hp
end uw
def Few (len i:Nat)(h:Int)(m:Nat):Prop:=(i<len/\(len-i)+uw.NQ+1<=m)\/(i=len/\∃r,uw.Rk (nh h) r/\r<=m)
def Lc (len i:Nat)(h:Int)(m:Nat):Prop:=(len-i)+uw.NQ<m\/(i=len/\∃r,r<m/\uw.Rk (uw.T (nh h)) r)
theorem Few.next(hf:Few len i h m)(hi:i<len):Lc len (i+1) (turn h) m:=by left;rcases hf with⟨-,hf⟩|⟨rfl,-⟩<;>omega
theorem Few.odd(hf:Few len len h m)(hp:uw.par (nh (turn h))=1):Lc len len (turn h) m:=by right;rcases hf with⟨hf,-⟩|⟨-,r,hr,hf⟩;{omega};rw[M3]at hp ⊢;obtain⟨h2,h3⟩:=uw.abO hr hp;exact⟨rfl,r-2,by omega,h3⟩
theorem Lc.next(hf:Lc len i h m)(hi:i<len):∃m',m'<m/\Few len (i+1) (turn h) m':=by rcases hf with hf|⟨rfl,-⟩;{refine⟨_,hf,?_⟩;by_cases e:i+1=len;{exact .inr ⟨e,uw.NQ,uw.LW _,by omega⟩};exact .inl ⟨by omega,by omega⟩};omega
theorem Lc.out(hf:Lc len len h m):∃m',m'<m/\Few len len (turn h) m':=by rcases hf with hf|⟨-,r,hm,hr⟩;{exact⟨uw.NQ,by omega, .inr ⟨rfl,uw.NQ,uw.LW _,bI _⟩⟩};exact⟨r,hm, .inr ⟨rfl,r,by rw[M3];exact hr,bI _⟩⟩
def AR (w:World)(B:Nat)(a:Option Addr)(len cap:Nat)(zs:List Int)(m:Nat):Prop:=∃i h,uZ w B a len cap zs i h/\Few len i h m
def KR (w:World)(B:Nat)(a:Option Addr)(len cap:Nat)(zs:List Int)(m:Nat):Prop:=∃i h,uZ w B a len cap zs i h/\Lc len i h m
theorem kQ.few{a:Option Addr}(hc:kQ w B a len cap zs):AR w B a len cap zs (len+uw.NQ+1):=by obtain⟨i,h,hA⟩:=uZ.of hc;refine⟨i,h,hA,?_⟩;have hi:=hA.2.1;by_cases e:i=len;{exact .inr ⟨e,uw.NQ,uw.LW _,by omega⟩};exact .inl ⟨by omega,by omega⟩
theorem Q7 (B:Nat)(a:Option Addr)(len cap:Nat)(zs:List Int)(m:Nat)(w:World)(hc:AR w B a len cap zs m):Calls Tryz.prog 55 #[.pointer (some ⟨B,0,none⟩)] w fun e w'=>∃x:Int,e= .returned (.int .i64 x)/\0<=x/\x<=255/\(x%10=7->KR w' B a len cap zs m)/\aR w w' B a len cap zs:=by obtain⟨i,h,hA,hf⟩:=hc;by_cases hi:i<len;{exact(Ch B a len cap zs i h w hA hi).mono fun e w' ⟨x,he,h0,h1,hA',hg⟩=>⟨x,he,h0,h1,fun _=>⟨_,_,hA',hf.next hi⟩,hA'.1,hg⟩};have hil:i=len:=by{have:=hA.2.1;omega};subst hil;exact(wu B a i cap zs h w hA).mono fun e w' ⟨x,he,h0,h1,hp,hA',hg⟩=>⟨x,he,h0,h1,fun h7=>⟨_,_,hA',hf.odd (by omega)⟩,hA'.1,hg⟩
theorem Oj (B:Nat)(a:Option Addr)(len cap:Nat)(zs:List Int)(m:Nat)(w:World)(hc:KR w B a len cap zs m):Calls Tryz.prog 55 #[.pointer (some ⟨B,0,none⟩)] w fun e w'=>∃x:Int,e= .returned (.int .i64 x)/\0<=x/\x<=255/\(∃m',m'<m/\AR w' B a len cap zs m')/\aR w w' B a len cap zs:=by obtain⟨i,h,hA,hf⟩:=hc;by_cases hi:i<len;{exact(Ch B a len cap zs i h w hA hi).mono fun e w' ⟨x,he,h0,h1,hA',hg⟩=>⟨x,he,h0,h1,(let⟨m',hm,hf'⟩:=hf.next hi;⟨m',hm,_,_,hA',hf'⟩),hA'.1,hg⟩};have hil:i=len:=by{have:=hA.2.1;omega};subst hil;exact(wu B a i cap zs h w hA).mono fun e w' ⟨x,he,h0,h1,hp,hA',hg⟩=>⟨x,he,h0,h1,(let⟨m',hm,hf'⟩:=hf.out;⟨m',hm,_,_,hA',hf'⟩),hA'.1,hg⟩
theorem IZ (B:Nat)(a:Option Addr)(len cap:Nat)(zs:List Int)(m:Nat)(w:World)(hc:AR w B a len cap zs m):Calls Tryz.prog 33 #[.pointer (some ⟨B,0,none⟩), .int .i64 10] w fun e w'=>∃x:Int,e= .returned (.int .i64 x)/\0<=x/\x<10/\(x=7->KR w' B a len cap zs m)/\aR w w' B a len cap zs:=by have hcon:=Q7 B a len cap zs m w hc;clear hc;go_enter Tryz.func33,Tryz.ntmps33;go_wp2_with fail;refine hcon.mono ?_;rintro e w1⟨x,rfl,hx0,hx1,h7,hd⟩;clear hcon;have H7:Hid (x%10=7->KR w1 B a len cap zs m):=h7;clear h7;go_wp2;go_ret;exact⟨_,rfl,by omega,by omega,H7.out,hd⟩
theorem LG (B:Nat)(a:Option Addr)(len cap:Nat)(zs:List Int)(m:Nat)(n:Int)(hn0:0<n)(hn1:n<=256)(w:World)(hc:KR w B a len cap zs m):Calls Tryz.prog 33 #[.pointer (some ⟨B,0,none⟩), .int .i64 n] w fun e w'=>∃x:Int,e= .returned (.int .i64 x)/\0<=x/\x<n/\(∃m',m'<m/\AR w' B a len cap zs m')/\aR w w' B a len cap zs:=by have hcon:=Oj B a len cap zs m w hc;clear hc;go_enter Tryz.func33,Tryz.ntmps33;go_wp2_with fail;refine hcon.mono ?_;rintro e w1⟨x,rfl,hx0,hx1,h7,hd⟩;clear hcon;have H7:Hid (∃m',m'<m/\AR w1 B a len cap zs m'):=h7;clear h7;go_wp2;go_ret;exact⟨_,rfl,Int.emod_nonneg _ (by omega),Int.emod_lt_of_pos _ hn0,H7.out,hd⟩
end
end Go.Proofs.YthkjdjmjdlimnaaGreat
