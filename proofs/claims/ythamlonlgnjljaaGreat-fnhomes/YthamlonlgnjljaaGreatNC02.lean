/-
  Own texts for a law: Ints1 Nest0 Step2o Nest1 Nest2 Nest6 Nest3 Nest4 SlOf LikeI Arr0 Mem1
-/
import Derived.Test.YthamlonlgnjljaaGreatNC01
import Derived.OpenShut
import Derived.Deep.SlicePairs
import Derived.Deep.WholeRow
import Derived.Stop.BytesEq
import Derived.Laws.CopyOwn
import Derived.Laws.ResultCell
namespace Go.Proofs.YthamlonlgnjljaaGreat
open Go.RowKit Go.Shelf
set_option linter.all false
set_option maxRecDepth 100000
set_option maxHeartbeats 16000000
def iv (x:Int):Value:= .int .i64 x
def IL (w:World)(a:Option Addr)(len:Nat)(xs:List Int):Prop:=
 xs.length=len/\len<=maxLen/\(len=0\/∃b off,a=some ⟨b,off,none⟩/\b<w.heap.size/\∀j,j<len->w.cell? ⟨b,off+j,none⟩=some (.int .i64 (xs.getD j 0)))
theorem IL.kept {w w':World}{a:Option Addr}{len:Nat}{xs:List Int}(h:IL w a len xs)(hB:Below w.heap.size w w'):IL w' a len xs:=by obtain⟨h1,h2,h3|⟨b,off,rfl,hb,hx⟩⟩:=h;{exact⟨h1,h2, .inl h3⟩};exact⟨h1,h2, .inr ⟨b,off,rfl,aj hb hB.size,fun j hj=>(hB.cell (p:=⟨b,off+j,none⟩) hb).trans (hx j hj)⟩⟩
def OI (W:World)(n₀:Nat)(v:Value)(xs:List Int):Prop:=W.ownsRow n₀ 2 1 v xs.length (xs.map iv)
theorem OI.slice {W:World}{n₀:Nat}{v:Value}{xs:List Int}(h:OI W n₀ v xs):∃a cap,v= .slice a xs.length cap/\IL W a xs.length xs:=by rcases h.2 with⟨rfl,h0⟩|⟨g,cap,cur,rfl,hb,hc,hn,hm,hs,ht⟩;{exact⟨none,0,by rw[h0],rfl,by rw[h0];exact Nat.zero_le _, .inl h0⟩};refine⟨_,cap,rfl,rfl,Nat.le_trans hn hm, .inr ⟨g,0,rfl,(h.lt g rfl).2,fun j hj=>?_⟩⟩;have:=h.cellAt j (by omega);rw[Nat.zero_add,this,List.getElem?_map,ai hj,ah,ai hj];rfl
theorem OI.kept {W W':World}{n₀:Nat}{v:Value}{xs:List Int}(h:OI W n₀ v xs)(hB:Below W.heap.size W W'):OI W' n₀ v xs:=by refine World.ownsRow.kept (row:=none) h ⟨hB.os,hB.tape,hB.output,hB.size,fun k hk _=>hB.block k hk⟩ ?_;rcases hv:v.ownBlock with _|b;{exact .inl rfl};exact .inr (by simp)
theorem OI.bS {W W':World}{n₀ b:Nat}{v:Value}{xs:List Int}(h:OI W n₀ v xs)(hg:W.grownBy W' (some b))(hne:∀g,v.ownBlock=some g->g≠b):OI W' n₀ v xs:=by refine World.ownsRow.kept h hg ?_;rcases hv:v.ownBlock with _|b';{exact .inl rfl};refine .inr ?_;have:=hne b' hv;simp only[ne_eq,af];omega
theorem OI.mono {W:World}{n₀ n₁:Nat}{v:Value}{xs:List Int}(h:OI W n₁ v xs)(hn:n₀<=n₁):OI W n₀ v xs:=by refine⟨h.1,?_⟩;rcases h.2 with h'|⟨g',cap',cur,h',hb,r⟩;{exact .inl h'};exact .inr ⟨g',cap',cur,h',Nat.le_trans hn hb,r⟩
theorem OI.nil (W:World)(n₀:Nat):OI W n₀ (.slice none 0 0) []:=⟨rfl, .inl ⟨rfl,rfl⟩⟩
theorem OI.empty (W:World):OI (W.alloc (.cells #[] 2)) W.heap.size (.slice (some ⟨W.heap.size,0,none⟩) 0 0) []:=
 ⟨rfl, .inr ⟨W.heap.size,0,#[],rfl,Nat.le_refl _,World.alloc_heap_new W _,Nat.le_refl _,Nat.zero_le _,rfl,rfl⟩⟩
theorem bU:(Tryz.prog.info? 2).map (fun i=>(i.zero,i.size,i.bytes))=some (some (.int .i64 0),1,8):=by kernel_rfl
theorem fJ (xs:List Int)(k:Nat)(x:Int):(xs.set k x).map iv=(xs.map iv).set k (.int .i64 x):=by rw[List.map_set];rfl
namespace aG
def op (xs:List (Int×Int))(i:Nat):Int:=(xs.getD i (0,0)).1
def close (E O:List Int)(t i:Nat):List Int:=if 0<=O.getD t (-1)then(E.set t i).set (O.getD t (-1)).toNat i else E.set t i
def go (xs:List (Int×Int)):Nat->Nat->List Int->List Int->List Nat->List Int×List Int×Bool
 |0,_,E,O,_=>(E,O,false)
 | f +1,i,E,O,S=>
   if xs.length<=i then(E,O,false)else
   if St.opens (op xs i)=true then go xs f (i+1) E O (i::S)else
   if op xs i=11 then
     match S with
     |[]=>(E,O,false)
     |t::S'=>if op xs t=10/\O.getD t (-1)<0 then go xs f (i+1) E (O.set t i) (t::S')else(E,O,false)
   else if op xs i=12 then
     match S with
     |[]=>(E,O,decide (i+1=xs.length))
     |t::S'=>go xs f (i+1) (close E O t i) O S'
   else go xs f (i+1) E O S
def dP (n:Nat):List Int:=List.replicate n (-1)
def all (xs:List (Int×Int)):List Int×List Int×Bool:=go xs (xs.length+1) 0 (dP xs.length) (dP xs.length) []
def isOk (xs:List (Int×Int)):Bool:=(decide (xs.length<=80)&&St.bA xs)&&(all xs).2.2
def ends (xs:List (Int×Int)):List Int:=if isOk xs=true then(all xs).1 else[]
def aR (xs:List (Int×Int)):List Int:=if isOk xs=true then(all xs).2.1 else[]
def cK (xs:List (Int×Int))(E:List Int)(aI:Int):Nat->List Int
 |0=>[]
 |k+1=>if St.opens (op xs k)=true/\aI<=E.getD k (-1)then(k:Int)::cK xs E aI k else cK xs E aI k
def Ey (xs:List (Int×Int))(aI:Int):List Int:=if isOk xs=true/\0<=aI/\aI<xs.length then cK xs (ends xs) aI aI.toNat else[]
variable {xs : List (Int × Int)} {f i t : Nat} {E O : List Int} {S S' : List Nat}
theorem oG (h:xs.length<=i):go xs (f+1) i E O S=(E,O,false):=by unfold go;rw[ay h]
theorem jd (h:i<xs.length)(ho:St.opens (op xs i)=true):go xs (f+1) i E O S=go xs f (i+1) E O (i::S):=by(conv=>lhs;unfold go);rw[ax (by omega),ay ho]
theorem jv (h:i<xs.length)(ho:St.opens (op xs i)=false)(h1:op xs i=11):go xs (f+1) i E O []=(E,O,false):=by unfold go;rw[ax (by omega),ax (by simp[ho]),ay h1]
theorem ib (h:i<xs.length)(ho:St.opens (op xs i)=false)(h1:op xs i=11)(h2:¬(op xs t=10/\O.getD t (-1)<0)):go xs (f+1) i E O (t::S')=(E,O,false):=by unfold go;rw[ax (by omega),ax (by simp[ho]),ay h1];exact ax h2
theorem jf (h:i<xs.length)(ho:St.opens (op xs i)=false)(h1:op xs i=11)(h2:op xs t=10/\O.getD t (-1)<0):go xs (f+1) i E O (t::S')=go xs f (i+1) E (O.set t i) (t::S'):=by(conv=>lhs;unfold go);rw[ax (by omega),ax (by simp[ho]),ay h1];exact ay h2
theorem lC (h:i<xs.length)(ho:St.opens (op xs i)=false)(h1:op xs i≠11)(h2:op xs i=12):go xs (f+1) i E O []=(E,O,decide (i+1=xs.length)):=by unfold go;rw[ax (by omega),ax (by simp[ho]),ax h1,ay h2]
theorem jh (h:i<xs.length)(ho:St.opens (op xs i)=false)(h1:op xs i≠11)(h2:op xs i=12):go xs (f+1) i E O (t::S')=go xs f (i+1) (close E O t i) O S':=by(conv=>lhs;unfold go);rw[ax (by omega),ax (by simp[ho]),ax h1,ay h2]
theorem jy (h:i<xs.length)(ho:St.opens (op xs i)=false)(h1:op xs i≠11)(h2:op xs i≠12):go xs (f+1) i E O S=go xs f (i+1) E O S:=by(conv=>lhs;unfold go);rw[ax (by omega),ax (by simp[ho]),ax h1,ax h2]
theorem Cu:(close E O t i).length=E.length:=by unfold close;split<;>simp
end aG
section
open Go.RowKit
theorem St.Fp (op:Int):(op==8||op==9||op==10)=St.opens op:=by unfold St.opens;by_cases h8:op=8;{subst h8;rfl};by_cases h9:op=9;{subst h9;rfl};by_cases h10:op=10;{subst h10;rfl};simp[h8,h9,h10]
def St.wo (op a:Int):Bool:=St.ok op a&&St.opens op
theorem qE (op a:Int)(w:World):Calls Tryz.prog 118 #[.agg #[.int .i64 op, .int .i64 a]] w fun e w'=>e= .returned (.bool (St.wo op a))/\Below w.heap.size w w':=by rcases h:St.ok op a with _|_;{go_enter Tryz.func118,Tryz.ntmps118;go_wp2_with fail;refine(iJ _ _ _).mono ?_;rintro e w1 ⟨rfl,hB⟩;obtain⟨hc0,hc1,hlt⟩:=qG w _ _ _ hB;have hB1:=(aA w _).trans (hB.mono (by simp));go_wp2;go_ret;exact⟨by rw[St.wo,h];rfl,hB1⟩};go_enter Tryz.func118,Tryz.ntmps118;go_wp2_with fail;refine(iJ _ _ _).mono ?_;rintro e w1 ⟨rfl,hB⟩;obtain⟨hc0,hc1,hlt⟩:=qG w _ _ _ hB;have hB1:=(aA w _).trans (hB.mono (by simp));go_wp2;all_goals(go_ret;exact⟨bC (by rw[St.wo,h,Bool.true_and,←St.Fp];try simp_all),hB1⟩)
end
theorem fV (W:World)(a:Value)(t:TypeId)(H:Nat)(hH:W.heap.size=H):∀j u,[a][j]?=some u->(W.alloc (.cells #[a] t)).cell? ((⟨H,0,none⟩:Addr).add j)=some u:=by
 subst hH
 intro j u hu
 match j,hu with
 |0,hu=>simp at hu;subst hu;simp[Addr.add]
theorem aH {W W':World}{n₀ e k n:Nat}{v:Value}{xs:List Value}(h:W.ownsRow n₀ e k v n xs)(hB:Below W.heap.size W W'):W'.ownsRow n₀ e k v n xs:=by refine h.kept (row:=none) ⟨hB.os,hB.tape,hB.output,hB.size,fun k hk _=>hB.block k hk⟩ ?_;rcases hv:v.ownBlock with _|b;{exact .inl rfl};exact .inr (by simp)
theorem dM {W w1 w:World}{B:Nat}{e:TypeId}{size:Nat}{v:Value}{k:Nat}{xs:List Value}(hrow:W.ownsRow B e size v k xs)(hB:Below B w W)(hs:B<=W.heap.size)(hgrow:W.grownBy w1 v.ownBlock):Below B w w1:=
 hB.grown hgrow hs fun j ej=>(hrow.lt j ej).1
theorem iL (n:Nat)(hn:n<=2000000)(w:World):Calls Tryz.prog 56 #[.int .i64 n] w fun e w'=>∃g c,e= .returned (.slice (some ⟨g,0,none⟩) n c)/\OI w' w.heap.size (.slice (some ⟨g,0,none⟩) n c) (aG.dP n)/\Below w.heap.size w w':=by obtain⟨i0,hi,hz0,hz1,hz2⟩:=info_parts bU;have hr0:=OI.empty w;have hB0:=(Below.refl w.heap.size w).alloc (Nat.le_refl _) (.cells #[] 2);go_enter Tryz.func56,Tryz.ntmps56;go_wp2;go_loopw [0,3] (fun m v wr=>∃(k j g c:Nat),m= .int .i64 k/\v= .slice (some ⟨g,0,none⟩) j c/\j+k=n/\wr.ownsRow w.heap.size 2 1 (.slice (some ⟨g,0,none⟩) j c) j ((aG.dP j).map iv)/\Below w.heap.size w wr) (fun m _ _=>(intOf m).toNat);(case atStart=>exact⟨n,0,_,_,rfl,rfl,by omega,hr0,hB0⟩);case round=>obtain⟨k,j,g,c,rfl,rfl,hjk,hrow,hB⟩:=hrel;clear hr0 hB0;by_cases hk:0<k;{have hBx:=hB.alloc hB.size (.cells #[.int .i64 (-1)] 2);have HRW:=ae (hrow.alloc (.cells #[.int .i64 (-1)] 2));have hsz:=hB.size;clear hrow;go_wp2_with(at_builtin;refine wpList_append_own _ rfl _ _ 26 rfl w.heap.size 2 i0 (.int .i64 0) 1 8 Tryz.underlying26 hi hz0 hz1 hz2 rfl (by decide) _ _ _ rfl HRW.out ⟨wr.heap.size,0,none⟩ 1 1 [.int .i64 (-1)] rfl rfl (fV _ _ _ _ rfl) (by simp[Value.oneCell']) (by simp only[maxLen];omega) (by omega) (by simp;omega) ?_;intro v' wA hown' hgrow _;have hB4:=dM HRW.out hBx (by simp;omega) hgrow;obtain⟨g',cap',rfl⟩:=ownsRow_succ hown');go_roundw;(case rel=>refine⟨k-1,j+1,g',cap',by congr 1;omega,rfl,by omega,?_,hB4⟩;have e:(aG.dP (j+1)).map iv=(aG.dP j).map iv++[.int .i64 (-1)]:=by{simp[aG.dP,List.replicate_succ',iv]};rw[e];exact hown');case measure=>simp[intOf];omega};have hk0:k=0:=by{omega};subst hk0;have hj:j=n:=by{omega};subst hj;clear hk hjk;go_wp2;go_ret;refine⟨g,c,rfl,?_,hB⟩;unfold OI;have e:(aG.dP j).length=j:=by{simp[aG.dP]};rw[e];exact hrow
theorem He {W:World}{n₀ e g n c:Nat}{xs:List Value}(h:W.ownsRow n₀ e 1 (.slice (some ⟨g,0,none⟩) n c) n xs)(m:Nat)(hm:m<=n):W.ownsRow n₀ e 1 (.slice (some ⟨g,0,none⟩) m c) m (xs.take m):=by obtain⟨h1,h2⟩:=h;refine⟨by rw[List.length_take,h1];omega,?_⟩;rcases h2 with⟨h',_⟩|⟨g',cap',cur,h',hb,hc,hn,hx,hs,ht⟩;{cases h'};cases h';refine .inr ⟨g,c,cur,rfl,hb,hc,by omega,hx,hs,?_⟩;rw[←ht,List.take_take];congr 1;omega
theorem iK {W:World}{n₀ g n c:Nat}{xs:List Int}(h:W.ownsRow n₀ 2 1 (.slice (some ⟨g,0,none⟩) n c) n (xs.map iv)){k:Nat}(hk:k<n)(d:Int):W.cell? ⟨g,k,none⟩=some (.int .i64 (xs.getD k d)):=by have hl:xs.length=n:=by{have:=h.1;simpa using this};rw[h.cellAt k (by omega),List.getElem?_map,ai (by omega),ah,ai (by omega)];rfl
def iW (S:List Nat):List Int:=S.map fun(x:Nat)=>(x:Int)
theorem iH {W W':World}{n₀ e k n b:Nat}{g c:Nat}{xs:List Value}(h:W.ownsRow n₀ e k (.slice (some ⟨g,0,none⟩) n c) n xs)(hg:W.grownBy W' (some b))(hb:g≠b):W'.ownsRow n₀ e k (.slice (some ⟨g,0,none⟩) n c) n xs:=
 h.kept hg (.inr (by simp only[Value.ownBlock,ne_eq,af];omega))
structure NI (xs:List (Int×Int))(len:Nat)(w w1 w2 wr:World)(gE cE gO cO gS cS:Nat)(k:Nat)(E O:List Int)(S:List Nat):Prop where
 rE:wr.ownsRow w.heap.size 2 1 (.slice (some ⟨gE,0,none⟩) len cE) len (E.map iv)
 rO:wr.ownsRow w1.heap.size 2 1 (.slice (some ⟨gO,0,none⟩) len cO) len (O.map iv)
 rS:wr.ownsRow w2.heap.size 2 1 (.slice (some ⟨gS,0,none⟩) S.length cS) S.length ((iW S.reverse).map iv)
 eq:aG.all xs=aG.go xs (len+1-k) k E O S
 sl:S.length<=k
 st:∀t∈S,t<k
 so:∀t∈S,-1<=O.getD t (-1)/\O.getD t (-1)<k
 oz:∀t,k<=t->O.getD t (-1)=-1
 eY:Below w.heap.size w wr
 sz:w2.heap.size<=wr.heap.size
 eE:gE<w1.heap.size
 eO:w1.heap.size<=gO/\gO<w2.heap.size
theorem NI.kept {xs:List (Int×Int)}{len:Nat}{w w1 w2 wr wx:World}{gE cE gO cO gS cS k:Nat}{E O:List Int}{S:List Nat}(h:NI xs len w w1 w2 wr gE cE gO cO gS cS k E O S)(hB:Below wr.heap.size wr wx):NI xs len w w1 w2 wx gE cE gO cO gS cS k E O S:=
 {h with rE:=aH h.rE hB,rO:=aH h.rO hB,rS:=aH h.rS hB,eY:=h.eY.trans (hB.mono h.eY.size),sz:=Nat.le_trans h.sz hB.size}
theorem NI.push {xs:List (Int×Int)}{len:Nat}{w w1 w2 wr wA:World}{gE cE gO cO gS cS k gS' cS':Nat}{E O:List Int}{S:List Nat}(h:NI xs len w w1 w2 wr gE cE gO cO gS cS k E O S)(hk:k<xs.length)(hl:xs.length=len)(ho:St.opens (aG.op xs k)=true)(hown:wA.ownsRow w2.heap.size 2 1 (.slice (some ⟨gS',0,none⟩) (S.length+1) cS') (S.length+1) ((iW S.reverse).map iv++[.int .i64 (k:Int)]))(hg:wr.grownBy wA (Value.slice (some ⟨gS,0,none⟩) S.length cS).ownBlock):NI xs len w w1 w2 wA gE cE gO cO gS' cS' (k+1) E O (k::S):=by have hgs:=(h.rS.lt gS rfl).1;have hg':wr.grownBy wA (some gS):=hg;have hE:=h.eE;have hO':=h.eO;refine⟨iH h.rE hg' (by omega),iH h.rO hg' (by omega),?_,?_,by simp;exact h.sl,?_,?_,fun t ht=>h.oz t (by omega),?_,Nat.le_trans h.sz hg.size,hE,hO'⟩;{have e:(iW (k::S).reverse).map iv=(iW S.reverse).map iv++[.int .i64 (k:Int)]:=by{simp[iW,iv]};rw[e,List.length_cons];exact hown};{rw[h.eq,show len+1-k=(len+1-(k+1))+1 by omega,aG.jd hk ho]};{intro t ht;rcases List.mem_cons.1 ht with rfl|ht;{omega};have:=h.st t ht;omega};{intro t ht;rcases List.mem_cons.1 ht with rfl|ht;{have:=h.oz t (Nat.le_refl _);omega};have:=h.so t ht;omega};exact h.eY.grown hg h.eY.size fun j ej=>by have:j=gS:=by{simpa[Value.ownBlock]using ej.symm};have:=h.eY.size;have h1:w.heap.size<=w1.heap.size:=by{have:=(h.rE.lt gE rfl).1;omega};omega
theorem NI.step {xs:List (Int×Int)}{len:Nat}{w w1 w2 wr:World}{gE cE gO cO gS cS k:Nat}{E O:List Int}{S:List Nat}(h:NI xs len w w1 w2 wr gE cE gO cO gS cS k E O S)(hk:k<xs.length)(hl:xs.length=len)(ho:St.opens (aG.op xs k)=false)(h1:aG.op xs k≠11)(h2:aG.op xs k≠12):
   NI xs len w w1 w2 wr gE cE gO cO gS cS (k+1) E O S:=
 { h with
   eq:=by rw[h.eq,show len+1-k=(len+1-(k+1))+1 by omega,aG.jy hk ho h1 h2]
   sl:=Nat.le_succ_of_le h.sl
   st:=fun t ht=>by have:=h.st t ht;omega
   so:=fun t ht=>by have:=h.so t ht;omega
   oz:=fun t ht=>h.oz t (by omega)}
theorem fI {l:List Int}{k j:Nat}{x d:Int}:(l.set k x).getD j d=if j=k/\k<l.length then x else l.getD j d:=by by_cases h:j=k;{subst h;by_cases hk:j<l.length;{rw[ay ⟨rfl,hk⟩,ah,List.getElem?_set_self hk];rfl};rw[ax (fun e=>hk e.2),List.set_eq_of_length_le (by omega)]};rw[ax (fun e=>h e.1),ah,List.getElem?_set_ne (by omega),←ah]
theorem NI.Ox {xs:List (Int×Int)}{len:Nat}{w w1 w2 wr:World}{gE cE gO cO gS cS k:Nat}{E O:List Int}{S:List Nat}(h:NI xs len w w1 w2 wr gE cE gO cO gS cS k E O S):E.length=len/\O.length=len:=by have h1:=h.rE.1;have h2:=h.rO.1;simp at h1 h2;exact⟨h1,h2⟩
theorem NI.LF {xs:List (Int×Int)}{len:Nat}{w w1 w2 wr:World}{gE cE gO cO gS cS k t:Nat}{E O:List Int}{S:List Nat}(h:NI xs len w w1 w2 wr gE cE gO cO gS cS k E O (t::S))(hk:k<xs.length)(hl:xs.length=len)(ho:St.opens (aG.op xs k)=false)(h1:aG.op xs k=11)(h2:aG.op xs t=10/\O.getD t (-1)<0):NI xs len w w1 w2 (wr.setCell ⟨gO,t,none⟩ (.int .i64 (k:Int))) gE cE gO cO gS cS (k+1) E (O.set t (k:Int)) (t::S):=by have hst:=h.rO.stored t (.int .i64 (k:Int));rw[←fJ]at hst;have hg:=aF wr ⟨gO,t,none⟩ (.int .i64 (k:Int));have hE:=h.eE;have hO:=h.eO;have hgs:=(h.rS.lt gS rfl).1;have h1w:w.heap.size<=w1.heap.size:=by{have:=(h.rE.lt gE rfl).1;omega};refine⟨iH h.rE hg (by simp;omega),hst.1,iH h.rS hg (by simp;omega),?_,Nat.le_succ_of_le h.sl,?_,?_,?_,h.eY.setCell (p:=⟨gO,t,none⟩) (by simp;omega) _,by simpa[World.setCell]using h.sz,hE,hO⟩;{rw[h.eq,show len+1-k=(len+1-(k+1))+1 by omega,aG.jf hk ho h1 h2]};{intro x hx;have:=h.st x hx;omega};{intro x hx;have:=h.so x hx;rw[fI];split<;>omega};intro x hx;have:=h.st t (by simp);rw[fI,ax (by omega)];exact h.oz x (by omega)
theorem NI.Nh {xs:List (Int×Int)}{len:Nat}{w w1 w2 wr wA:World}{gE cE gO cO gS cS k t:Nat}{E O:List Int}{S:List Nat}(h:NI xs len w w1 w2 wr gE cE gO cO gS cS k E O (t::S))(hk:k<xs.length)(hl:xs.length=len)(ho:St.opens (aG.op xs k)=false)(h1:aG.op xs k≠11)(h2:aG.op xs k=12)(hA:wA=if 0<=O.getD t (-1)then(wr.setCell ⟨gE,t,none⟩ (.int .i64 (k:Int))).setCell ⟨gE,(O.getD t (-1)).toNat,none⟩ (.int .i64 (k:Int))else wr.setCell ⟨gE,t,none⟩ (.int .i64 (k:Int))):NI xs len w w1 w2 wA gE cE gO cO gS cS (k+1) (aG.close E O t k) O S:=by have hst:=h.rE.stored t (.int .i64 (k:Int));rw[←fJ]at hst;have DI:=hst.1.stored (O.getD t (-1)).toNat (.int .i64 (k:Int));rw[←fJ]at DI;have hE:=h.eE;have hO:=h.eO;have hge:=(h.rE.lt gE rfl).1;have hgs:=(h.rS.lt gS rfl).1;have hrow:wA.ownsRow w.heap.size 2 1 (.slice (some ⟨gE,0,none⟩) len cE) len ((aG.close E O t k).map iv)/\wr.grownBy wA (some gE)/\Below w.heap.size w wA/\wr.heap.size=wA.heap.size:=by{unfold aG.close;by_cases hc:0<=O.getD t (-1);{rw[ay hc]at hA ⊢;subst hA;exact⟨DI.1,dJ hst.2 DI.2,(h.eY.setCell (p:=⟨gE,t,none⟩) hge _).setCell (p:=⟨gE,(O.getD t (-1)).toNat,none⟩) hge _,by simp[World.setCell]⟩};rw[ax hc]at hA ⊢;subst hA;exact⟨hst.1,hst.2,h.eY.setCell (p:=⟨gE,t,none⟩) hge _,by simp[World.setCell]⟩};obtain⟨r1,r2,r3,r4⟩:=hrow;have hS:=iH (He h.rS S.length (by simp)) r2 (by omega);refine⟨r1,iH h.rO r2 (by omega),?_,?_,?_,?_,?_,fun t ht=>h.oz t (by omega),r3,by have:=h.sz;omega,hE,hO⟩;{have e:((iW (t::S).reverse).map iv).take S.length=(iW S.reverse).map iv:=by{simp[iW]};rw[e]at hS;exact hS};{rw[h.eq,show len+1-k=(len+1-(k+1))+1 by omega,aG.jh hk ho h1 h2]};{have:=h.sl;simp at this;omega};{intro x hx;have:=h.st x (List.mem_cons_of_mem _ hx);omega};intro x hx;have:=h.so x (List.mem_cons_of_mem _ hx);omega
theorem NI.jR {xs:List (Int×Int)}{len:Nat}{w w1 w2 wr:World}{gE cE gO cO gS cS k t:Nat}{E O:List Int}{S:List Nat}(h:NI xs len w w1 w2 wr gE cE gO cO gS cS k E O (t::S)):wr.cell? ⟨gS,S.length,none⟩=some (.int .i64 (t:Int)):=by have:=iK (xs:=iW (t::S).reverse) h.rS (k:=S.length) (by simp) 0;rw[this];simp[iW]
namespace aG
abbrev aU (E:List Int)(j:Nat):Int:=E.getD j (-1)
theorem dI {p:Int}:St.opens p=true↔p=8\/p=9\/p=10:=by unfold St.opens;exact decide_eq_true_iff
theorem nY {E O:List Int}{t k:Nat}(ht:t<E.length)(ho:aU O t<E.length)(j:Nat):aU (close E O t k) j=if j=t\/(0<=aU O t/\(j:Int)=aU O t)then(k:Int)else aU E j:=by unfold aU at ho ⊢;unfold close;by_cases hc:0<=O.getD t (-1);{rw[ay hc,fI,fI];simp only[List.length_set];have hto:(O.getD t (-1)).toNat<E.length:=by{omega};by_cases h1:j=(O.getD t (-1)).toNat;{rw[ay ⟨h1,hto⟩,ay (Or.inr ⟨hc,by omega⟩)]};rw[ax (fun h=>h1 h.1)];by_cases h2:j=t;{rw[ay ⟨h2,ht⟩,ay (Or.inl h2)]};rw[ax (fun h=>h2 h.1),ax (by rintro(h|⟨-,h⟩);exact h2 h;omega)]};rw[ax hc,fI];by_cases h2:j=t;{rw[ay ⟨h2,ht⟩,ay (Or.inl h2)]};rw[ax (fun h=>h2 h.1),ax (by rintro(h|⟨h,-⟩);exact h2 h;exact hc h)]
structure Inv (xs:List (Int×Int))(k:Nat)(E O:List Int)(S:List Nat):Prop where
 lE:E.length=xs.length
 lO:O.length=xs.length
 kl:k<=xs.length
 Nn:S.Pairwise (fun a b=>b<a)
 st:∀t∈S,t<k/\St.opens (op xs t)=true/\aU E t=-1
 out:∀j,k<=j->aU E j=-1/\aU O j=-1
 low:∀j,-1<=aU E j/\aU E j<k/\-1<=aU O j
 cl:∀j,j<k->St.opens (op xs j)=true->j∉S->(j:Int)<aU E j/\op xs (aU E j).toNat=12
 el:∀j,j<k->op xs j=11->∃t,t<j/\op xs t=10/\aU O t=j/\aU E j=aU E t
 ot:∀j,St.opens (op xs j)=false->op xs j≠11->aU E j=-1
 oo:∀j,0<=aU O j->op xs j=10/\(j:Int)<aU O j/\aU O j<k/\op xs (aU O j).toNat=11/\aU E (aU O j).toNat=aU E j
 oe:∀j,0<=aU O j->j∉S->aU O j<aU E j
 inj:∀i j,0<=aU O i->aU O i=aU O j->i=j
 n1:∀i j,St.opens (op xs i)=true->i<j->(j:Int)<aU E i->op xs j≠11->aU E j<aU E i
 n2:∀t∈S,∀i,i<t->St.opens (op xs i)=true->i∉S->aU E i<t
theorem Inv.first (xs:List (Int×Int)):Inv xs 0 (dP xs.length) (dP xs.length) []:=by have h:∀j,aU (dP xs.length) j=-1:=fun j=>by{simp only[aU,dP,ah,List.getElem?_replicate];split<;>rfl};refine⟨by simp[dP],by simp[dP],Nat.zero_le _,List.Pairwise.nil,by simp,fun j _=>⟨h j,h j⟩,fun j=>by rw[h];omega,fun j hj=>by omega,fun j hj=>by omega,fun j _ _=>h j,fun j hj=>?_,fun j hj=>?_,fun i j hi=>?_,fun i j _ _ hj=>?_,by simp⟩;{rw[h]at hj;omega};{rw[h]at hj;omega};{rw[h]at hi;omega};rw[h]at hj;omega
variable {xs : List (Int × Int)} {k t : Nat} {E O : List Int} {S : List Nat}
theorem Inv.push (h:Inv xs k E O S)(hk:k<xs.length)(ho:St.opens (op xs k)=true):Inv xs (k+1) E O (k::S):=by have hk':=dI.1 ho;refine⟨h.lE,h.lO,hk,List.pairwise_cons.2 ⟨fun x hx=>(h.st x hx).1,h.Nn⟩,?_,fun j hj=>h.out j (by omega),fun j=>?_,?_,?_,h.ot,?_,?_,h.inj,h.n1,?_⟩;{intro x hx;rcases List.mem_cons.1 hx with rfl|hx;{exact⟨by omega,ho,(h.out x (Nat.le_refl _)).1⟩};have:=h.st x hx;exact⟨by omega,this.2⟩};{have:=h.low j;omega};{intro j hj hoj hjs;rw[List.mem_cons,not_or]at hjs;exact h.cl j (by omega) hoj hjs.2};{intro j hj h11;have hjk:j≠k:=by{rintro rfl;omega};exact h.el j (by omega) h11};{intro j hj;have:=h.oo j hj;exact⟨this.1,this.2.1,by omega,this.2.2.2⟩};{intro j hj hjs;rw[List.mem_cons,not_or]at hjs;exact h.oe j hj hjs.2};intro x hx i hi hoi his;rw[List.mem_cons,not_or]at his;rcases List.mem_cons.1 hx with rfl|hx;{have:=h.low i;omega};exact h.n2 x hx i hi hoi his.2
theorem Inv.other (h:Inv xs k E O S)(hk:k<xs.length)(ho:St.opens (op xs k)=false)(h11:op xs k≠11):Inv xs (k+1) E O S:=by refine{h with kl:=hk,st:=fun x hx=>?_,out:=fun j hj=>h.out j (by omega),low:=fun j=>?_,cl:=?_,el:=?_,oo:=?_};{have:=h.st x hx;exact⟨by omega,this.2⟩};{have:=h.low j;omega};{intro j hj hoj hjs;have hjk:j≠k:=by{rintro rfl;rw[ho]at hoj;cases hoj};exact h.cl j (by omega) hoj hjs};{intro j hj mF;have hjk:j≠k:=by{rintro rfl;exact h11 mF};exact h.el j (by omega) mF};intro j hj;have:=h.oo j hj;exact⟨this.1,this.2.1,by omega,this.2.2.2⟩
theorem Inv.LF (h:Inv xs k E O (t::S))(hk:k<xs.length)(h11:op xs k=11)(h10:op xs t=10)(hneg:aU O t<0):Inv xs (k+1) E (O.set t (k:Int)) (t::S):=by have htk:=h.st t (by simp);have hlO:=h.lO;have hg:∀j,aU (O.set t (k:Int)) j=if j=t then(k:Int)else aU O j:=fun j=>by{unfold aU;rw[fI];by_cases e:j=t;{rw[ay ⟨e,by omega⟩,ay e]};rw[ax (fun q=>e q.1),ax e]};have hEk:=(h.out k (Nat.le_refl _)).1;refine{h with lO:=by simp[hlO],kl:=hk,st:=fun x hx=>?_,out:=fun j hj=>?_,low:=fun j=>?_,cl:=?_,el:=?_,oo:=?_,oe:=?_,inj:=?_};{have:=h.st x hx;exact⟨by omega,this.2⟩};{rw[hg,ax (by omega)];exact h.out j (by omega)};{have:=h.low j;rw[hg];split<;>omega};{intro j hj hoj hjs;have hjk:j≠k:=by{rintro rfl;rw[dI]at hoj;omega};exact h.cl j (by omega) hoj hjs};{intro j hj mF;by_cases e:j=k;{subst e;exact⟨t,htk.1,h10,by rw[hg,ay rfl],by rw[hEk,htk.2.2]⟩};obtain⟨t2,a1,a2,a3,a4⟩:=h.el j (by omega) mF;have hne:t2≠t:=by{rintro rfl;omega};exact⟨t2,a1,a2,by rw[hg,ax hne];exact a3,a4⟩};{intro j hj;rw[hg]at hj ⊢;by_cases e:j=t;{subst e;rw[ay rfl];rw[az];exact⟨h10,by omega,by omega,h11,by rw[hEk,htk.2.2]⟩};rw[ax e]at hj ⊢;have:=h.oo j hj;exact⟨this.1,this.2.1,by omega,this.2.2.2⟩};{intro j hj hjs;have hne:j≠t:=by{rintro rfl;exact hjs (by simp)};rw[hg,ax hne]at hj ⊢;exact h.oe j hj hjs};intro i j hi hij;rw[hg]at hi hij;rw[hg]at hij;by_cases e1:i=t;{rw[ay e1]at hi hij;by_cases e2:j=t;{rw[e1,e2]};rw[ax e2]at hij;have:=(h.oo j (by omega)).2.2.1;omega};rw[ax e1]at hi hij;by_cases e2:j=t;{rw[ay e2]at hij;have:=(h.oo i hi).2.2.1;omega};rw[ax e2]at hij;exact h.inj i j hi hij
theorem Inv.Nh (h:Inv xs k E O (t::S))(hk:k<xs.length)(h12:op xs k=12):Inv xs (k+1) (close E O t k) O S:=by have htk:=h.st t (by simp);have We:=h.lE;have Np:aU O t<k:=by{by_cases e:0<=aU O t;{exact(h.oo t e).2.2.1};omega};have hkl:=h.kl;have hg:=nY (E:=E) (O:=O) (t:=t) (k:=k) (by omega) (by omega);have lJ:=List.pairwise_cons.1 h.Nn;have hto:=dI.1 htk.2.1;have hno:∀j,op xs j≠11->¬(0<=aU O t/\(j:Int)=aU O t):=by{rintro j hj ⟨h1,h2⟩;have:=(h.oo t h1).2.2.2.1;rw[←h2,az]at this;exact hj this};have hsame:∀j,j≠t->op xs j≠11->aU (close E O t k) j=aU E j:=fun j h1 h2=>by{rw[hg,ax (by rintro(q|q);exact h1 q;exact hno j h2 q)]};have ht':aU (close E O t k) t=k:=by{rw[hg,ay (Or.inl rfl)]};have tZ:∀j,St.opens (op xs j)=true->op xs j≠11:=fun j hj=>by{rw[dI]at hj;omega};have J3:∀(i j:Nat),0<=aU O i->(j:Int)=aU O i->op xs i=10->op xs j=11->aU E j=aU E i->aU (close E O t k) j=aU (close E O t k) i:=by{intro i j hi hj adK mF he;by_cases e:i=t;{subst e;rw[ht',hg,ay (Or.inr ⟨hi,hj⟩)]};rw[hsame i e (by omega),hg,ax,he];rintro(q|⟨q1,q2⟩);{subst q;omega};exact e (h.inj i t hi (by omega))};refine⟨by rw[Cu];exact We,h.lO,hk,lJ.2,?_,?_,?_,?_,?_,?_,?_,?_,h.inj,?_,?_⟩;{intro x hx;have h1:=h.st x (List.mem_cons_of_mem _ hx);have h2:=lJ.1 x hx;exact⟨by omega,h1.2.1,by rw[hsame x (by omega) (tZ x h1.2.1)];exact h1.2.2⟩};{intro j hj;have:=h.out j (by omega);refine⟨?_,this.2⟩;rw[hg,ax (by omega)];exact this.1};{intro j;have:=h.low j;rw[hg];split<;>omega};{intro j hj hoj hjs;by_cases e:j=t;{subst e;rw[ht',az];exact⟨by omega,h12⟩};have hjk:j≠k:=by{rintro rfl;rw[dI]at hoj;omega};rw[hsame j e (tZ j hoj)];exact h.cl j (by omega) hoj (by rw[List.mem_cons,not_or];exact⟨e,hjs⟩)};{intro j hj mF;have hjk:j≠k:=by{rintro rfl;omega};obtain⟨t2,a1,a2,a3,a4⟩:=h.el j (by omega) mF;exact⟨t2,a1,a2,a3,J3 t2 j (by omega) a3.symm a2 mF a4⟩};{intro j hoj mF;rw[hsame j (by rintro rfl;rw[htk.2.1]at hoj;cases hoj) mF];exact h.ot j hoj mF};{intro j hj;obtain⟨a1,a2,a3,a4,a5⟩:=h.oo j hj;exact⟨a1,a2,by omega,a4,J3 j (aU O j).toNat hj (by omega) a1 a4 a5⟩};{intro j hj hjs;by_cases e:j=t;{subst e;rw[ht'];exact Np};rw[hsame j e (by have:=(h.oo j hj).1;omega)];exact h.oe j hj (by rw[List.mem_cons,not_or];exact⟨e,hjs⟩)};{intro i j hoi hij Wh mF;by_cases e:i=t;{subst e;rw[ht']at Wh ⊢;rw[hsame j (by omega) mF];exact(h.low j).2.1};rw[hsame i e (tZ i hoi)]at Wh ⊢;by_cases e2:j=t;{subst e2;exfalso;by_cases hiS:i∈j::S;{have:=(h.st i hiS).2.2;omega};have:=h.n2 j (by simp) i hij hoi hiS;omega};rw[hsame j e2 mF];exact h.n1 i j hoi hij Wh mF};intro x hx i hi hoi his;have hxt:=lJ.1 x hx;have e:i≠t:=by{omega};rw[hsame i e (tZ i hoi)];exact h.n2 x (List.mem_cons_of_mem _ hx) i hi hoi (by rw[List.mem_cons,not_or];exact⟨e,his⟩)
theorem Inv.gX:∀(f k:Nat)(E O:List Int)(S:List Nat){Ef Of:List Int},Inv xs k E O S->go xs f k E O S=(Ef,Of,true)->
   (∃m,m+1=xs.length/\op xs m=12/\Inv xs m Ef Of [])/\(∀j,j<k->St.opens (op xs j)=true->j∉S->aU Ef j=aU E j)/\(∀j∈S,(k:Int)<=aU Ef j)
 |0,k,E,O,S,Ef,Of,h,hgo=>by simp[go]at hgo
 | f + 1, k, E,O,S,Ef,Of,h,hgo=>by
   by_cases hk:xs.length<=k
   · rw[oG hk]at hgo;simp at hgo
   have hk:k<xs.length:=by omega
   rcases ho:St.opens (op xs k)with _|_
   · by_cases h11:op xs k=11
     · rcases S with _|⟨t,S'⟩
       · rw[jv hk ho h11]at hgo;simp at hgo
       · by_cases h2:op xs t=10/\aU O t<0
         · rw[jf hk ho h11 h2]at hgo
           obtain⟨a,b,c⟩:=Inv.gX f (k+1) E _ _ (h.LF hk h11 h2.1 h2.2) hgo
           exact⟨a,fun j hj=>b j (by omega),fun j hj=>by have:=c j hj;omega⟩
         · rw[ib hk ho h11 h2]at hgo;simp at hgo
     · by_cases h12:op xs k=12
       · rcases S with _|⟨t,S'⟩
         · rw[lC hk ho h11 h12]at hgo
           simp only[Prod.mk.injEq,decide_eq_true_eq]at hgo
           obtain⟨rfl,rfl,hl⟩:=hgo
           exact⟨⟨k,hl,h12,h⟩,fun j _ _ _=>rfl,by simp⟩
         · rw[jh hk ho h11 h12]at hgo
           obtain⟨a,b,c⟩:=Inv.gX f (k+1) _ _ _ (h.Nh hk h12) hgo
           have htk:=h.st t (by simp)
           have lJ:=List.pairwise_cons.1 h.Nn
           have Np:aU O t<k:=by
             by_cases e:0<=aU O t
             · exact(h.oo t e).2.2.1
             · omega
           have We:=h.lE
           have hg:=nY (E:=E) (O:=O) (t:=t) (k:=k) (by omega) (by omega)
           refine⟨a,fun j hj hoj hjs=>?_,fun j hj=>?_⟩
           · rw[List.mem_cons,not_or]at hjs
             rw[b j (by omega) hoj hjs.2,hg,ax]
             rintro(q|⟨q1,q2⟩)
             · exact hjs.1 q
             · have:=(h.oo t q1).2.2.2.1
               rw[←q2,az]at this
               rw[dI]at hoj
               omega
           · rcases List.mem_cons.1 hj with rfl|hj'
             · rw[b j (by omega) htk.2.1 (fun q=>by have:=lJ.1 j q;omega),hg,ay (Or.inl rfl)]
               omega
             · have:=c j hj';omega
       · rw[jy hk ho h11 h12]at hgo
         obtain⟨a,b,c⟩:=Inv.gX f (k+1) _ _ _ (h.other hk ho h11) hgo
         exact⟨a,fun j hj=>b j (by omega),fun j hj=>by have:=c j hj;omega⟩
   · rw[jd hk ho]at hgo
     obtain⟨a,b,c⟩:=Inv.gX f (k+1) _ _ _ (h.push hk ho) hgo
     refine⟨a,fun j hj hoj hjs=>b j (by omega) hoj (by rw[List.mem_cons,not_or];exact⟨by omega,hjs⟩),fun j hj=>?_⟩
     have:=c j (List.mem_cons_of_mem _ hj)
     omega
theorem wz (xs:List (Int×Int))(E:List Int)(aI:Int):∀(n:Nat)(S:List Nat),S.Pairwise (fun a b=>b<a)->(∀t∈S,t<n)->(∀j,j<n->(j∈S↔(St.opens (op xs j)=true/\aI<=E.getD j (-1))))->cK xs E aI n=iW S
 | 0,S,_,h2,_=>by
   rcases S with _|⟨t,S⟩
   · rfl
   · exact absurd (h2 t (by simp)) (by omega)
 | n + 1,S,h1,h2,h3=>by
   unfold cK
   by_cases hp:St.opens (op xs n)=true/\aI<=E.getD n (-1)
   · rw[ay hp]
     have hm:=(h3 n (by omega)).2 hp
     rcases S with _|⟨t,S⟩
     · simp at hm
     · have hs:=List.pairwise_cons.1 h1
       have ht:t=n:=by
         rcases List.mem_cons.1 hm with e|e
         · exact e.symm
         · have:=hs.1 n e
           have:=h2 t (by simp)
           omega
       subst ht
       rw[wz xs E aI t S hs.2 hs.1 (fun j hj=>?_)]
       · rfl
       · rw[←h3 j (by omega),List.mem_cons]
         exact⟨fun h=>Or.inr h,fun h=>h.resolve_left (by omega)⟩
   · rw[ax hp]
     have hm:n∉S:=fun h=>hp ((h3 n (by omega)).1 h)
     exact wz xs E aI n S h1 (fun t ht=>by have:=h2 t ht;have:t≠n:=(by rintro rfl;exact hm ht);omega) (fun j hj=>h3 j (by omega))
theorem Inv.Ey {f:Nat}{Ef Of:List Int}(h:Inv xs k E O S)(hgo:go xs f k E O S=(Ef,Of,true)):cK xs Ef k k=iW S:=by obtain⟨-,b,c⟩:=Inv.gX f k E O S h hgo;refine wz xs Ef k k S h.Nn (fun t ht=>(h.st t ht).1) (fun j hj=>⟨fun hm=>⟨(h.st j hm).2.1,c j hm⟩,fun⟨h1,h2⟩=>?_⟩);by_cases hm:j∈S;{exact hm};have:=b j hj h1 hm;have:=(h.low j).2.1;unfold aU at*;omega
structure Fin (xs:List (Int×Int))(E O:List Int):Prop where
 lE:E.length=xs.length
 lO:O.length=xs.length
 f1:∀i,i<xs.length->(0<=aU E i↔(St.opens (op xs i)=true\/op xs i=11))
 f2:∀i,i<xs.length->0<=aU O i->op xs i=10/\(i:Int)<aU O i/\aU O i<aU E i/\aU E (aU O i).toNat=aU E i
 f3:∀i,i<xs.length->0<=aU E i->(i:Int)<aU E i/\aU E i<xs.length/\op xs (aU E i).toNat=12
 f4:∀i j,St.opens (op xs i)=true->i<j->(j:Int)<aU E i->op xs j≠11->aU E j<aU E i
theorem Inv.fin {m:Nat}(h:Inv xs m E O [])(hm:m+1=xs.length)(h12:op xs m=12):Fin xs E O:=by have hop:∀i,i<xs.length->(St.opens (op xs i)=true\/op xs i=11)->(i:Int)<aU E i/\op xs (aU E i).toNat=12:=by{intro i hi ho;have him:i≠m:=by{rintro rfl;rw[dI]at ho;omega};rcases ho with ho|ho;{exact h.cl i (by omega) ho (by simp)};obtain⟨t,a1,a2,a3,a4⟩:=h.el i (by omega) ho;have:=h.oe t (by omega) (by simp);have h2:=h.cl t (by omega) (by rw[dI];omega) (by simp);rw[a4];exact⟨by omega,h2.2⟩};have hf1:∀i,i<xs.length->(0<=aU E i↔(St.opens (op xs i)=true\/op xs i=11)):=by{intro i hi;refine⟨fun h0=>?_,fun ho=>by have:=(hop i hi ho).1;omega⟩;by_cases ho:St.opens (op xs i)=true;{exact Or.inl ho};by_cases h11:op xs i=11;{exact Or.inr h11};have:=h.ot i (by simpa using ho) h11;omega};refine⟨h.lE,h.lO,hf1,?_,?_,h.n1⟩;{intro i hi h0;obtain⟨a1,a2,a3,a4,a5⟩:=h.oo i h0;exact⟨a1,a2,h.oe i h0 (by simp),a5⟩};intro i hi h0;have:=hop i hi ((hf1 i hi).1 h0);have h3:=(h.low i).2.1;exact⟨this.1,by omega,this.2⟩
theorem KG (h:isOk xs=true):Fin xs (ends xs) (aR xs):=by
 have h2:(all xs).2.2=true:=by rw[isOk,au]at h;exact h.2
 obtain⟨⟨m,hm,h12,hi⟩,-⟩:=Inv.gX (xs:=xs) (Ef:=(all xs).1) (Of:=(all xs).2.1) (xs.length+1) 0 _ _ _ (Inv.first xs) (by
  show all xs=_
  rw[←h2])
 rw[ends,aR,ay h,ay h]
 exact hi.fin hm h12
end aG
theorem NI.out {xs:List (Int×Int)}{len:Nat}{w w1 w2 wr:World}{gE cE gO cO gS cS k:Nat}{E O:List Int}{S:List Nat}(h:NI xs len w w1 w2 wr gE cE gO cO gS cS k E O S)(hg:(decide (xs.length<=80)&&St.bA xs)=true){r:Bool}(hr:aG.go xs (len+1-k) k E O S=(E,O,r)):aG.isOk xs=r/\(r=true->OI wr w.heap.size (.slice (some ⟨gE,0,none⟩) len cE) (aG.ends xs)/\OI wr w.heap.size (.slice (some ⟨gO,0,none⟩) len cO) (aG.aR xs)):=by have he:=h.eq;rw[hr]at he;have h1:aG.isOk xs=r:=by{rw[aG.isOk,hg,he,Bool.true_and]};refine⟨h1,fun hr=>?_⟩;subst hr;obtain⟨l1,l2⟩:=h.Ox;have h1w:w.heap.size<=w1.heap.size:=by{have:=(h.rE.lt gE rfl).1;have:=h.eE;omega};have e1:aG.ends xs=E:=by{rw[aG.ends,ay h1,he]};have e2:aG.aR xs=O:=by{rw[aG.aR,ay h1,he]};rw[e1,e2];unfold OI;rw[l1,l2];exact⟨h.rE,OI.mono (v:= .slice (some ⟨gO,0,none⟩) len cO) (xs:=O) (by unfold OI;rw[l2];exact h.rO) h1w |> fun q=>by unfold OI at q;rw[l2]at q;exact q⟩
theorem oZ (a:Option Addr)(len cap:Nat)(xs:List (Int×Int))(h20:len<=1048576)(w:World)(hs:SL w a len xs):Calls Tryz.prog 102 #[.slice a len cap] w fun e w'=>∃gE cE gO cO,e= .returned (.tuple #[.slice (some ⟨gE,0,none⟩) len cE, .slice (some ⟨gO,0,none⟩) len cO, .bool (aG.isOk xs)])/\(aG.isOk xs=true->OI w' w.heap.size (.slice (some ⟨gE,0,none⟩) len cE) (aG.ends xs)/\OI w' w.heap.size (.slice (some ⟨gO,0,none⟩) len cO) (aG.aR xs))/\Below w.heap.size w w':=by have hl:=hs.1;obtain⟨i0,hi,hz0,hz1,hz2⟩:=info_parts bU;go_enter Tryz.func102,Tryz.ntmps102;go_wp2_with fail;refine(iL len (by omega) w).mono ?_;rintro e w1 ⟨gE,cE,rfl,hE1,hB1⟩;have hgE:=(World.ownsRow.lt hE1 gE rfl);go_wp2_with fail;refine(iL len (by omega) w1).mono ?_;rintro e w2 ⟨gO,cO,rfl,hO2,hB2⟩;have Wi:=(World.ownsRow.lt hO2 gO rfl);have hE2:=hE1.kept hB2;have hBa:=hB1.trans (hB2.mono hB1.size);have hB3:=aA w2 (.cells #[] 2);have Wj:=OI.empty w2;have Wl:=hE2.kept hB3;have hO3:=hO2.kept hB3;have hBb:=hBa.trans (hB3.mono hBa.size);have hs3:=hs.kept hBb;have hcon:=vz a len cap xs _ hs3;clear hE1 hE2 hO2 hB1 hB2 hBa;rcases hok:(decide (len<=80)&&St.bA xs)with _|_;{rw[hok]at hcon;have mG:aG.isOk xs=false:=by{rw[aG.isOk,hl,hok,Bool.false_and]};have HIO:=ae mG;clear Wl hO3 Wj hs3 hs;go_wp2_with fail;refine hcon.mono ?_;rintro e w4 ⟨rfl,hB4⟩;have bP:=hBb.trans (hB4.mono hBb.size);clear hcon;go_wp2;go_ret3;exact⟨gE,cE,gO,cO,by rw[HIO.out];rfl,(fun h=>by rw[HIO.out]at h;cases h),bP⟩};rw[hok]at hcon;have gK:Hid ((decide (xs.length<=80)&&St.bA xs)=true):=by{rw[hl];exact hok};rw[au]at hok;have h80:len<=80:=of_decide_eq_true hok.1;have HA:=ae hok.2;clear hok;go_wp2_with fail;refine hcon.mono ?_;rintro e w4 ⟨rfl,hB4⟩;have hni:NI xs len w w1 w2 w4 gE cE gO cO w2.heap.size 0 0 (aG.dP len) (aG.dP len) []:=by{have Wm:=Wl.kept hB4;have hO4:=hO3.kept hB4;have GZ:=Wj.kept hB4;have hnl:(aG.dP len).length=len:=by{simp[aG.dP]};unfold OI at Wm hO4 GZ;rw[hnl]at Wm hO4;refine⟨Wm,hO4,GZ,by rw[←hl];rfl,Nat.le_refl _,by simp,by simp,fun t _=>by simp[aG.dP,ah,List.getElem?_replicate];split<;>rfl,hBb.trans (hB4.mono hBb.size),by have:=hB4.size;simp at this;omega,hgE.2,⟨Wi.1,Wi.2⟩⟩};have HNI:=ae hni;clear hcon Wl hO3 Wj hB4 hBb hB3 hgE Wi hni hs3;obtain⟨-,-,hrow⟩:=hs;have HL:=ae hl;clear hl;go_wp2;go_loopw [7,8] (fun v i wr=>∃(k:Nat)(E O:List Int)(S:List Nat)(gS cS:Nat),v= .slice (some ⟨gS,0,none⟩) S.length cS/\i= .int .i64 k/\k<=len/\NI xs len w w1 w2 wr gE cE gO cO gS cS k E O S) (fun _ i _=>len-(intOf i).toNat);(case atStart=>exact⟨0,_,_,[],_,_,rfl,rfl,Nat.zero_le _,HNI.out⟩);case round=>clear HNI;obtain⟨k,E,O,S,gS,cS,rfl,rfl,hk,hni⟩:=hrel;have HN:=ae hni;have hB:=hni.eY;have hSk:=hni.sl;obtain⟨hle,hlo⟩:=hni.Ox;by_cases hlt:k<len;{have bE:(k:Int)<(len:Int):=by{omega};rcases hrow with h0|⟨b,off,rfl,hb,hx⟩;{omega};have hkx:k<xs.length:=by{rw[HL.out];exact hlt};have hx0:=(hB.cell (p:=⟨b,off+k*2,none⟩) hb).trans (hx k hlt).1;have hx1:=(hB.cell (p:=⟨b,off+k*2+1,none⟩) hb).trans (hx k hlt).2;have xy:=St.bu HA.out hkx;obtain⟨⟨p,q⟩,hpq⟩:∃x,xs.getD k (0,0)=x:=⟨_,rfl⟩;rw[hpq]at hx0 hx1 xy;simp only at hx0 hx1 xy;have hop:aG.op xs k=p:=by{rw[aG.op,hpq]};have HX:=ae hx;have tZ:St.wo p q=St.opens p:=by{rw[St.wo,xy,Bool.true_and]};have hcon:=qE p q wr;rw[tZ]at hcon;have hlb:b<wr.heap.size:=aj hb hB.size;clear hx hpq tZ xy;rcases ho:St.opens p with _|_;{rw[ho]at hcon;have hoX:St.opens (aG.op xs k)=false:=by{rw[hop];exact ho};have HO:=ae (ak hop hoX);clear hop hoX;go_wp2_with fail;refine hcon.mono ?_;rintro e w5 ⟨rfl,bI⟩;have ek:=hni.kept bI;have y0:=(bI.cell (p:=⟨b,off+k*2,none⟩) hlb).trans hx0;have y1:=(bI.cell (p:=⟨b,off+k*2+1,none⟩) hlb).trans hx1;have adL:b<w5.heap.size:=aj hlb bI.size;have mH:=ek.eY;clear hcon hni hB bI hx0 hx1 hlb HN;by_cases h11:p=11;{subst h11;have hop:=HO.out.1;rcases S with _|⟨t,S'⟩;{have hgo:=aG.jv (f:=len-k) (E:=E) (O:=O) hkx HO.out.2 hop;obtain⟨e1,-⟩:=ek.out gK.out (by rw[show len+1-k=(len-k)+1 by omega];exact hgo);have xz:=ae e1;have HB:=ae mH;clear ek hgo mH e1 hop;simp only[List.length_nil];go_wp2;go_ret3;exact⟨gE,cE,gO,cO,by rw[xz.out];rfl,(fun h=>by rw[xz.out]at h;cases h),HB.out⟩};have htk:t<k:=ek.st t (by simp);have hso:=ek.so t (by simp);have htop:=ek.jR;have hxt:=(mH.cell (p:=⟨b,off+t*2,none⟩) hb).trans (HX.out t (by omega)).1;have hot:=iK ek.rO (k:=t) (by omega) (-1);have Pd:(xs.getD t (0,0)).1=aG.op xs t:=rfl;rw[Pd]at hxt;obtain⟨pt,hpt⟩:∃x,aG.op xs t=x:=⟨_,rfl⟩;obtain⟨ot,zo⟩:∃x,O.getD t (-1)=x:=⟨_,rfl⟩;rw[hpt]at hxt;rw[zo]at hot hso;have Wn:S'.length<=80:=by{have:=ek.sl;simp at this;omega};have xI:=ae ek;have Nq:=ae (ak hpt zo);have hfO:=ek.rO.frozenAt t;clear ek hpt zo Pd hop;simp only[List.length_cons];by_cases h10:pt=10;{subst h10;by_cases hneg:ot<0;{have hneg':¬(0<=ot):=by{omega};have Wo:=ae (xI.out.LF hkx HL.out HO.out.2 HO.out.1 ⟨Nq.out.1,by rw[Nq.out.2];exact hneg⟩);clear mH;go_wp2;go_roundw;(case rel=>exact⟨k+1,E,O.set t (k:Int),t::S',gS,cS,rfl,by simp,by omega,Wo.out⟩);case measure=>simp[intOf];omega};have hneg':0<=ot:=by{omega};have hgo:=aG.ib (f:=len-k) (E:=E) (O:=O) (t:=t) (S':=S') hkx HO.out.2 HO.out.1 (by rw[Nq.out.1,Nq.out.2];omega);obtain⟨e1,-⟩:=xI.out.out gK.out (by rw[show len+1-k=(len-k)+1 by omega];exact hgo);have xz:=ae e1;have HB:=ae mH;clear hgo mH e1;go_wp2;go_ret3;exact⟨gE,cE,gO,cO,by rw[xz.out];rfl,(fun h=>by rw[xz.out]at h;cases h),HB.out⟩};have adM:(pt==10)=false:=by{simpa using h10};have hgo:=aG.ib (f:=len-k) (E:=E) (O:=O) (t:=t) (S':=S') hkx HO.out.2 HO.out.1 (by rw[Nq.out.1,Nq.out.2];omega);obtain⟨e1,-⟩:=xI.out.out gK.out (by rw[show len+1-k=(len-k)+1 by omega];exact hgo);have xz:=ae e1;have HB:=ae mH;clear hgo mH e1;go_wp2;go_ret3;exact⟨gE,cE,gO,cO,by rw[xz.out];rfl,(fun h=>by rw[xz.out]at h;cases h),HB.out⟩};by_cases h12:p=12;{subst h12;have hop:=HO.out.1;have DJ:aG.op xs k≠11:=by{rw[hop];decide};rcases S with _|⟨t,S'⟩;{have hgo:=aG.lC (f:=len-k) (E:=E) (O:=O) hkx HO.out.2 DJ hop;have hout:=ek.out gK.out (by rw[show len+1-k=(len-k)+1 by omega];exact hgo);have xz:=ae hout;have HB:=ae mH;clear ek hgo mH hout hop DJ;simp only[List.length_nil];by_cases hkl:k+1=len;{have IX:((k:Int)==(len:Int)-1)=true:=by{simp;omega};have HK:=ae hkl;clear hkl;go_wp2;go_ret3;have hd:decide (k+1=xs.length)=true:=by{rw[HL.out];exact decide_eq_true HK.out};exact⟨gE,cE,gO,cO,by rw[xz.out.1,hd];rfl,fun _=>xz.out.2 hd,HB.out⟩};have IX:((k:Int)==(len:Int)-1)=false:=by{simp;omega};have HK:=ae hkl;clear hkl;go_wp2;go_ret3;have hd:decide (k+1=xs.length)=false:=by{rw[HL.out];exact decide_eq_false HK.out};exact⟨gE,cE,gO,cO,by rw[xz.out.1,hd];rfl,(fun h=>by rw[xz.out.1,hd]at h;cases h),HB.out⟩};have htk:t<k:=ek.st t (by simp);have hso:=ek.so t (by simp);have htop:=ek.jR;have hot:=iK ek.rO (k:=t) (by omega) (-1);have het:=iK ek.rE (k:=t) (by omega) (-1);obtain⟨ot,zo⟩:∃x,O.getD t (-1)=x:=⟨_,rfl⟩;rw[zo]at hot hso;have Wn:S'.length<=80:=by{have:=ek.sl;simp at this;omega};have hcls:=fun wA hA=>ek.Nh (wA:=wA) hkx HL.out HO.out.2 DJ hop hA;rw[zo]at hcls;have hgs:=(ek.rS.lt gS rfl);have hgo:=(ek.rO.lt gO rfl);have hge:=(ek.rE.lt gE rfl);have hne1:gE≠gO:=by{have:=ek.eE;have:=ek.eO;omega};have hne2:gE≠gS:=by{have:=ek.eE;have:=ek.eO;omega};have hfE:=fun j=>ek.rE.frozenAt j;have hSc:S'.length+1<=cS:=by{rcases ek.rS.2 with⟨h',_⟩|⟨g',c',cur,h',_,_,h1,_⟩;{cases h'};cases h';simpa using h1};have HC:=ae hcls;simp only[List.length_cons];by_cases hneg:ot<0;{have hneg':¬(0<=ot):=by{omega};clear ek hcls hop DJ zo;go_wp2;go_roundw;(case rel=>exact⟨k+1,_,_,S',gS,cS,rfl,by simp,by omega,HC.out _ (by rw[ax hneg'])⟩);case measure=>simp[intOf];omega};have hneg':0<=ot:=by{omega};obtain⟨m,rfl⟩:∃m:Nat,ot=m:=⟨ot.toNat,by omega⟩;have hst:=(ek.rE.stored t (.int .i64 (k:Int))).1;rw[←fJ]at hst;have hem:=iK hst (k:=m) (by omega) (-1);have hfm:=hst.frozenAt m;clear hst;clear ek hcls hop DJ zo;go_wp2;go_roundw;(case rel=>exact⟨k+1,_,_,S',gS,cS,rfl,by simp,by omega,HC.out _ (by rw[ay hneg',az])⟩);case measure=>simp[intOf];omega};have DJ:(p==11)=false:=by{simpa using h11};have adN:(p==12)=false:=by{simpa using h12};have Wo:=ae (ek.step hkx HL.out HO.out.2 (by rw[HO.out.1];exact h11) (by rw[HO.out.1];exact h12));clear ek mH;go_wp2;go_roundw;(case rel=>exact⟨k+1,E,O,S,gS,cS,rfl,by simp,by omega,Wo.out⟩);case measure=>simp[intOf];omega};rw[ho]at hcon;go_wp2_with fail;refine hcon.mono ?_;rintro e w5 ⟨rfl,bI⟩;have xI:=ae (hni.kept bI);have HRW:=ae ((hni.kept bI).rS.alloc (.cells #[.int .i64 (k:Int)] 2));have hsz5:w2.heap.size<=w5.heap.size:=(hni.kept bI).sz;clear hcon hni hB bI;go_wp2_with(at_builtin;refine wpList_append_own _ rfl _ _ 26 rfl w2.heap.size 2 i0 (.int .i64 0) 1 8 Tryz.underlying26 hi hz0 hz1 hz2 rfl (by decide) _ _ _ rfl HRW.out ⟨w5.heap.size,0,none⟩ 1 1 [.int .i64 (k:Int)] rfl rfl (fV _ _ _ _ rfl) (by simp[Value.oneCell']) (by simp only[maxLen];omega) (by omega) (by simp;omega) ?_;intro v' wA hown' hgrow _;obtain⟨g',cap',rfl⟩:=ownsRow_succ hown');go_roundw;(case rel=>refine⟨k+1,E,O,k::S,g',cap',rfl,by simp,by omega,(xI.out.kept (aA w5 _)).push hkx HL.out (by rw[hop];exact ho) hown' hgrow⟩);case measure=>simp[intOf];omega};have hke:k=len:=by{omega};subst hke;clear hrow;have hgo:=aG.oG (xs:=xs) (f:=0) (i:=k) (E:=E) (O:=O) (S:=S) (by rw[HL.out];exact Nat.le_refl _);obtain⟨e1,-⟩:=hni.out gK.out (by rw[show k+1-k=0+1 by omega];exact hgo);have xz:=ae e1;have HB:=ae hni.eY;clear hni hgo hB e1;go_wp2;go_ret3;exact⟨gE,cE,gO,cO,by rw[xz.out];rfl,(fun h=>by rw[xz.out]at h;cases h),HB.out⟩
theorem aG.zW (xs:List (Int×Int))(E:List Int)(aI:Int)(k:Nat):∃f:Nat->List Int,f k=[]/\(∀j,j<k->f j=f (j+1)++(if St.opens (aG.op xs j)=true/\aI<=E.getD j (-1)then[(j:Int)]else[]))/\aG.cK xs E aI k=f 0:=by
 suffices h:∀k,∃f:Nat->List Int,(∀j,k<=j->f j=[])/\(∀j,j<k->f j=f (j+1)++(if St.opens (aG.op xs j)=true/\aI<=E.getD j (-1)then[(j:Int)]else[]))/\aG.cK xs E aI k=f 0 by obtain⟨f,h1,h2,h3⟩:=h k;exact⟨f,h1 k (Nat.le_refl _),h2,h3⟩
 intro k
 induction k with
 |zero=>exact⟨fun _=>[],fun _ _=>rfl,fun j hj=>by omega,rfl⟩
 |succ k ih=>
  obtain⟨f,h1,h2,h3⟩:=ih
  obtain⟨c,hc⟩:∃c:List Int,(if St.opens (aG.op xs k)=true/\aI<=E.getD k (-1)then[(k:Int)]else[])=c:=⟨_,rfl⟩
  refine⟨fun j=>if k+1<=j then[]else c++f j,fun j hj=>ay hj,fun j hj=>?_,?_⟩
  · dsimp only;rw[ax (show¬k+1<=j by omega)];by_cases e:j=k;{subst e;rw[ay (Nat.le_refl _),h1 j (Nat.le_refl _),List.append_nil,List.nil_append,hc]};rw[ax (show¬k+1<=j+1 by omega),h2 j (by omega),List.append_assoc]
  · dsimp only;rw[ax (show¬k+1<=0 by omega),←h3,←hc];show(if St.opens (aG.op xs k)=true/\aI<=E.getD k (-1)then(k:Int)::aG.cK xs E aI k else aG.cK xs E aI k)=_;by_cases h:St.opens (aG.op xs k)=true/\aI<=E.getD k (-1);{rw[ay h,ay h];rfl};rw[ax h,ax h];rfl
theorem tF (a:Option Addr)(len cap:Nat)(xs:List (Int×Int))(h80:len<=80)(hall:St.bA xs=true)(e:Option Addr)(ec:Nat)(E:List Int)(n:Nat)(hn:n<len)(w:World)(hs:SL w a len xs)(hE:IL w e len E):Calls Tryz.prog 125 #[.slice a len cap, .slice e len ec, .int .i64 n] w fun e w'=>∃v,e= .returned v/\OI w' w.heap.size v (aG.cK xs E n n)/\Below w.heap.size w w':=by
 obtain⟨i0,hi,hz0,hz1,hz2⟩:=info_parts bU
 obtain⟨f,f0,f1,f2⟩:=aG.zW xs E n n
 have hfl:∀j,j<=n->(f j).length<=n-j:=by
  intro j hj
  obtain⟨d,hd⟩:∃d,n=j+d:=⟨n-j,by omega⟩
  clear f2
  induction d generalizing j with
  |zero=>rw[show j=n by omega,f0];simp
  |succ d ih=>
   have:=ih (j+1) (by omega) (by omega)
   rw[f1 j (by omega),List.length_append]
   split<;>simp<;>omega
 obtain⟨hl,-,hrow⟩:=hs
 obtain⟨hEl,-,hrE⟩:=hE
 have HE:=ae hEl
 clear hEl
 have HL:=ae hl
 have HF:=ae (ak f0 (ak f1 (ak f2 hfl)))
 have hr0:=OI.empty w
 have hB0:=(Below.refl w.heap.size w).alloc (Nat.le_refl _) (.cells #[] 2)
 clear hl f0 f1 f2 hfl
 go_enter Tryz.func125,Tryz.ntmps125
 go_wp2
 go_loopw [7,8] (fun v i wr=>∃(k g c:Nat),i= .int .i64 ((k:Int)-1)/\k<=n/\v= .slice (some ⟨g,0,none⟩) (f k).length c/\wr.ownsRow w.heap.size 2 1 (.slice (some ⟨g,0,none⟩) (f k).length c) (f k).length ((f k).map iv)/\Below w.heap.size w wr) (fun _ i _=>(intOf i+1).toNat)
 case atStart=>refine⟨n,_,0,rfl,Nat.le_refl _,by rw[HF.out.1];rfl,?_,hB0⟩;rw[HF.out.1];exact hr0
 case round=>obtain⟨k,g,c,rfl,hk,rfl,hown,hB⟩:=hrel;clear hr0 hB0;rcases Nat.eq_zero_or_pos k with rfl|hkp;{have HOW:=ae hown;clear hown hrow hrE;go_wp2;go_ret;refine⟨_,rfl,?_,hB⟩;rw[HF.out.2.2.1];exact HOW.out};obtain⟨j,rfl⟩:∃j,k=j+1:=⟨k-1,by omega⟩;have hij:((j+1:Nat):Int)-1=(j:Int):=by{omega};rw[hij];have hjn:j<len:=by{omega};rcases hrow with h0|⟨b,off,rfl,hb,hx⟩;{omega};rcases hrE with h0|⟨b2,pW,rfl,hb2,hx2⟩;{omega};have hx0:=(hB.cell (p:=⟨b,off+j*2,none⟩) hb).trans (hx j hjn).1;have hx1:=(hB.cell (p:=⟨b,off+j*2+1,none⟩) hb).trans (hx j hjn).2;have hy0:=(hB.cell (p:=⟨b2,pW+j,none⟩) hb2).trans (hx2 j hjn);have hok:=St.bu hall (j:=j) (by rw[HL.out];exact hjn);obtain⟨⟨p,q⟩,hpq⟩:∃x,xs.getD j (0,0)=x:=⟨_,rfl⟩;rw[hpq]at hx0 hx1 hok;simp only at hx0 hx1 hok;have hop:aG.op xs j=p:=by{rw[aG.op,hpq]};have hfj:=HF.out.2.1 j (by omega);have hlen:=HF.out.2.2.2 (j+1) (by omega);rw[hop]at hfj;obtain⟨ej,Wp⟩:∃x,E.getD j 0=x:=⟨_,rfl⟩;have hEl:E.length=len:=HE.out;have Pe:E.getD j (-1)=ej:=by{rw[←Wp,ah,ah,ai (by omega)];rfl};rw[Wp]at hy0;rw[Pe]at hfj;have tZ:St.wo p q=St.opens p:=by{rw[St.wo,hok,Bool.true_and]};have hcon:=qE p q wr;rw[tZ]at hcon;have Pf:b2<wr.heap.size:=aj hb2 hB.size;obtain⟨m,hm⟩:∃m,(f (j+1)).length=m:=⟨_,rfl⟩;rw[hm]at hown hlen ⊢;have HM:=ae (ak hm hfj);clear hx hx2 hpq tZ hok hop Wp Pe hEl hm hfj;rcases ho:St.opens p with _|_;{rw[ho]at hcon;go_wp2_with fail;refine hcon.mono ?_;rintro e w5 ⟨rfl,bI⟩;have HOW:=ae (aH hown bI);have bD:=hB.trans (bI.mono hB.size);clear hcon hown bI hB;go_wp2;go_roundw;(case rel=>obtain⟨hm,hfj⟩:=HM.out;rw[ho,ax (by simp),List.append_nil]at hfj;refine⟨j,g,c,rfl,by omega,by rw[hfj,hm],?_,bD⟩;rw[hfj,hm];exact HOW.out);case measure=>first|(simp[intOf];done)|(simp[intOf];omega)};rw[ho]at hcon;by_cases hge:(n:Int)<=ej;{go_wp2_with fail;refine hcon.mono ?_;rintro e w5 ⟨rfl,bI⟩;have z0:=(bI.cell (p:=⟨b2,pW+j,none⟩) Pf).trans hy0;have hown5:=aH hown bI;have bD:=hB.trans (bI.mono hB.size);have hBx:=bD.alloc bD.size (.cells #[.int .i64 (j:Int)] 2);have HRW:=ae (hown5.alloc (.cells #[.int .i64 (j:Int)] 2));have hsz:=bD.size;clear hcon hown bI hB hown5;go_wp2_with(at_builtin;refine wpList_append_own _ rfl _ _ 26 rfl w.heap.size 2 i0 (.int .i64 0) 1 8 Tryz.underlying26 hi hz0 hz1 hz2 rfl (by decide) _ _ _ rfl HRW.out ⟨w5.heap.size,0,none⟩ 1 1 [.int .i64 (j:Int)] rfl rfl (fV _ _ _ _ rfl) (by simp[Value.oneCell']) (by simp only[maxLen];omega) (by omega) (by simp;omega) ?_;intro v' wA hown' hgrow _;have hB4:=dM HRW.out hBx (by simp;omega) hgrow;obtain⟨g',cap',rfl⟩:=ownsRow_succ hown');go_roundw;(case rel=>obtain⟨hm,hfj⟩:=HM.out;rw[ho,ay ⟨rfl,hge⟩]at hfj;refine⟨j,g',cap',rfl,by omega,by rw[hfj,List.length_append,hm];rfl,?_,hB4⟩;rw[hfj,List.length_append,hm,List.map_append];exact hown');case measure=>first|(simp[intOf];done)|(simp[intOf];omega)};go_wp2_with fail;refine hcon.mono ?_;rintro e w5 ⟨rfl,bI⟩;have z0:=(bI.cell (p:=⟨b2,pW+j,none⟩) Pf).trans hy0;have HOW:=ae (aH hown bI);have bD:=hB.trans (bI.mono hB.size);clear hcon hown bI hB;go_wp2;go_roundw;(case rel=>obtain⟨hm,hfj⟩:=HM.out;rw[ax (by rintro⟨_,h⟩;omega),List.append_nil]at hfj;refine⟨j,g,c,rfl,by omega,by rw[hfj,hm],?_,bD⟩;rw[hfj,hm];exact HOW.out);case measure=>first|(simp[intOf];done)|(simp[intOf];omega)
section
open Go.ChangeShapes Go.WideShapes Go.ChangeAt Go.RowKit Go.Shelf Go.Deep
theorem OI.il {W:World}{n₀:Nat}{a:Option Addr}{n c:Nat}{xs:List Int}(h:OI W n₀ (.slice a n c) xs):n=xs.length/\IL W a n xs:=by obtain⟨a',c',e,hil⟩:=h.slice;simp only[Value.slice.injEq]at e;obtain⟨rfl,rfl,rfl⟩:=e;exact⟨rfl,hil⟩
theorem kH {W W':World}(h:W.grownBy W' none):Below W.heap.size W W':=⟨h.os,h.tape,h.output,h.size,fun k hk=>h.block k hk (by simp)⟩
end
theorem tX (a b:Option Addr)(len cap cap':Nat)(xs:List Int)(w:World)(hs:IL w a len xs)(hs':IL w b len xs):Calls Tryz.prog 9 #[.slice a len cap, .slice b len cap'] w fun e w'=>e= .returned (.bool true)/\Below w.heap.size w w':=by obtain⟨hl,hm,hrow⟩:=hs;obtain⟨-,-,hrow'⟩:=hs';clear hl;unfold maxLen at hm;go_enter Tryz.func9,Tryz.ntmps9;go_wp2;go_loopw [5] (fun i wr=>∃k:Nat,i= .int .i64 k/\k<=len/\Below w.heap.size w wr) (fun i _=>len-(intOf i).toNat);(case atStart=>exact⟨0,rfl,Nat.zero_le _,Below.refl _ _⟩);case round=>obtain⟨k,rfl,hk,hB⟩:=hrel;by_cases hlt:k<len;{rcases hrow with h0|⟨b1,Pg,rfl,hb1,hx1⟩;{omega};rcases hrow' with h0|⟨b2,pW,rfl,hb2,hx2⟩;{omega};obtain⟨p,hpq⟩:∃x,xs.getD k 0=x:=⟨_,rfl⟩;have hx3:=hx1 k hlt;have hx4:=hx2 k hlt;rw[hpq]at hx3 hx4;have hc1:∀wx:bV wr,wx.to.cell? ⟨b1,Pg+k,none⟩=some (.int .i64 p):=fun wx=>((hB.trans (wx.h.mono hB.size)).cell (p:=⟨b1,Pg+k,none⟩) hb1).trans hx3;have hc3:∀wx:bV wr,wx.to.cell? ⟨b2,pW+k,none⟩=some (.int .i64 p):=fun wx=>((hB.trans (wx.h.mono hB.size)).cell (p:=⟨b2,pW+k,none⟩) hb2).trans hx4;have hne:=bV.any wr;clear hx1 hx2 hx3 hx4 hpq;go_wp2;refine aS (by kernel_rfl) (by kernel_rfl) ?_;(repeat(go_big_quiet_step (fail)));refine wpQuiet_nil ?_;rintro _ ⟨pw,rfl⟩;have bq:=hB.trans (pw.h.mono hB.size);generalize pw.to=w7 at*;go_wp2;go_roundw;(case rel=>exact⟨k+1,by simp,by omega,bq⟩);case measure=>simp[intOf];omega};clear hrow hrow';go_wp2;go_ret;exact⟨rfl,hB⟩
theorem IL.aU {w:World}{a:Option Addr}{n:Nat}{E:List Int}(h:IL w a n E)(hn:0<n):∃b off,a=some ⟨b,off,none⟩/\∀(wx:World),Below w.heap.size w wx->∀j,j<n->wx.cell? ⟨b,off+j,none⟩=some (.int .i64 (aG.aU E j)):=by obtain⟨hl,-,h0|⟨b,off,rfl,hb,hx⟩⟩:=h;{omega};refine⟨b,off,rfl,fun wx hB j hj=>?_⟩;have e:aG.aU E j=E.getD j 0:=by{unfold aG.aU;rw[ah,ah,ai (by omega)];rfl};rw[e];exact(hB.cell (p:=⟨b,off+j,none⟩) hb).trans (hx j hj)
theorem bf (W:World)(n:Nat):Below W.heap.size W (W.drewN n):=⟨rfl,rfl,rfl,Nat.le_refl _,fun _ _=>rfl⟩
structure Still (p:Prop):Prop where
 out:p
def gY (W:World)(g:Nat)(t:TypeId)(vs:List Value):Prop:=W.heap[g]?=some (.cells vs.toArray t (0,0))
theorem gY.lt {W:World}{g:Nat}{t:TypeId}{vs:List Value}(h:gY W g t vs):g<W.heap.size:=(Array.getElem?_eq_some_iff.1 h).1
theorem gY.cell {W:World}{g:Nat}{t:TypeId}{vs:List Value}(h:gY W g t vs){j:Nat}{v:Value}(hj:vs[j]?=some v):W.cell? ⟨g,j,none⟩=some v:=by rw[cell_of_row W g j _ t _ h];simpa using hj
theorem gY.frozen {W:World}{g:Nat}{t:TypeId}{vs:List Value}(h:gY W g t vs)(j:Nat):W.frozen? ⟨g,j,none⟩=false:=frozen_of_row W g j _ t h
theorem gY.kept {W W':World}{g:Nat}{t:TypeId}{vs:List Value}(h:gY W g t vs)(hB:Below W.heap.size W W'):gY W' g t vs:=(hB.block g h.lt).trans h
theorem gY.bS {W W':World}{g:Nat}{t:TypeId}{vs:List Value}{row:Option Nat}(h:gY W g t vs)(hg:W.grownBy W' row)(hne:some g≠row):gY W' g t vs:=(hg.block g h.lt hne).trans h
theorem gY.set {W:World}{g:Nat}{t:TypeId}{vs:List Value}(h:gY W g t vs)(j:Nat)(v:Value):gY (W.setCell ⟨g,j,none⟩ v) g t (vs.set j v):=by have:=heap_setCell_same W g j vs.toArray t v h;unfold gY;rw[this];simp
theorem gY.row {W:World}{g:Nat}{t:TypeId}{vs:List Value}(h:gY W g t vs)(ws:List Value):gY (W.setRow g ws.toArray) g t ws:=setRow_heap W g _ _ t _ h
theorem aB {w w1 w2:World}{r:Nat}(h:Below w.heap.size w w1)(hg:w1.grownBy w2 (some r))(hr:w.heap.size<=r):Below w.heap.size w w2:=
 ⟨hg.os.trans h.os,hg.tape.trans h.tape,hg.output.trans h.output,Nat.le_trans h.size hg.size,fun k hk=>(hg.block k (aj hk h.size) (by simp only[ne_eq,af];omega)).trans (h.block k hk)⟩
section
variable {P : Program}
theorem oU {ops:Array Oper}{rest:List Oper}{o:Oper}{a:Act}{w:World}{Q:Exit->Act->World->Prop}(hgd:o.guard=none)(t:TypeId)(x:Operand)(ho:o.op= .box t x)(zs:List Value)(hx:a.eval x= .agg zs.toArray)(h:∀g w',Hid (g=w.heap.size)->gY w' g t zs->Below w.heap.size w w'->wpList P ops Q rest (a.put o.dst (.pointer (some ⟨g,0,none⟩))) w'):wpList P ops Q (o::rest) a w:=by refine wpList_plain hgd fun K hK=>?_;unfold Oper.wp execOp;simp only[ho,hx,Instr.box,Sem.run_bind];simp[newVar,Value.cells];exact hK _ _ (h w.heap.size (w.alloc (.cells zs.toArray t)) rfl (heap_alloc_last w _) (Below.alloc (Below.refl _ _) (Nat.le_refl _) _))
theorem lQ {ops:Array Oper}{rest:List Oper}{o:Oper}{a:Act}{w:World}{Q:Exit->Act->World->Prop}(hgd:o.guard=none)(ty:TypeId)(x y:Operand)(ho:o.op= .index ty x y)(vs:List Value)(k:Nat)(hx:a.eval x= .agg vs.toArray)(hy:a.eval y= .int .i64 k)(n:Nat)(e:TypeId)(hu:P.underlying ty=some (.array n e))(hk:k<n)(hs:∀w,(sizeOf e).run P w= .ok 1 w)(ha:∀w,(isAgg e).run P w= .ok false w)(v:Value)(hv:vs[k]?=some v)(h:wpList P ops Q rest (a.put o.dst v) w):wpList P ops Q (o::rest) a w:=by refine wpList_plain hgd fun K hK=>?_;have hrun:(Instr.index ty (.agg vs.toArray) (.int .i64 k)).run P w= .ok v w:=by{simp[Instr.index,asIntOf,Sem.run_bind,run_underlying hu,hs,part,ha,hv];omega};unfold Oper.wp execOp;simp only[ho,hx,hy,Sem.run_bind,hrun,Result.andThen_ok];exact hK _ _ h
theorem yG {ops:Array Oper}{rest:List Oper}{o:Oper}{a:Act}{w:World}{Q:Exit->Act->World->Prop}(t:TypeId)(x:Operand)(ho:o.op= .box t x)(h:Still (wpList P ops Q (o::rest) a w)):wpList P ops Q (o::rest) a w:=h.out
theorem oD {ops:Array Oper}{rest:List Oper}{o:Oper}{a:Act}{w:World}{Q:Exit->Act->World->Prop}(t:TypeId)(x:Operand)(ho:o.op= .load t x)(h:Still (wpList P ops Q (o::rest) a w)):wpList P ops Q (o::rest) a w:=h.out
theorem jL {ops:Array Oper}{rest:List Oper}{o:Oper}{a:Act}{w:World}{Q:Exit->Act->World->Prop}(t:TypeId)(x y:Operand)(ho:o.op= .index t x y)(h:Still (wpList P ops Q (o::rest) a w)):wpList P ops Q (o::rest) a w:=h.out
theorem sD {ops:Array Oper}{rest:List Oper}{o:Oper}{a:Act}{w:World}{Q:Exit->Act->World->Prop}(t:TypeId)(ps:Array (Nat×Operand))(ho:o.op= .build t ps)(h:Still (wpList P ops Q (o::rest) a w)):wpList P ops Q (o::rest) a w:=h.out
variable {C : World → Prop}
end
theorem FU {bs:List Int}:∀v∈bs.map iv,v.oneCell'=true:=by intro v hv;obtain⟨b,_,rfl⟩:=List.mem_map.1 hv;rfl
theorem vN {f:Int->Value}{bs:List Int}{k:Nat}(h:k<bs.length):(bs.map f)[k]?=some (f (bs.getD k 0)):=by rw[List.getElem?_map,ai h,ah,ai h];rfl
end Go.Proofs.YthamlonlgnjljaaGreat
