/-
  Own texts for a law: Lin2 Nest0 Nest1 Nest2 Nest6 LikeI RowsB BoxL Mod1
-/
import Derived.Test.YtlbkdlnalgkjeaaLB03
import Derived.Deep.RegionLaw
namespace Go.Proofs.Ytlbkdlnalgkjeaa
open Go.RowKit Go.Shelf
set_option linter.all false
set_option maxRecDepth 100000
set_option maxHeartbeats 16000000
def LC (w:World)(b o:Nat)(x:Ln):Prop:=
 w.cell? ⟨b,o,none⟩=some (.int .i64 x.k)/\w.cell? ⟨b,o+1,none⟩=some (.int .i64 x.d)/\w.cell? ⟨b,o+2,none⟩=some (.int .i64 x.a)/\w.cell? ⟨b,o+3,none⟩=some (.int .i64 x.b)/\w.cell? ⟨b,o+4,none⟩=some (.int .i64 x.n)/\
   ∃la ln lc,w.cell? ⟨b,o+5,none⟩=some (.slice la ln lc)/\IL w la ln x.l
theorem LC.kept {w w':World}{b o:Nat}{x:Ln}(h:LC w b o x)(hb:b<w.heap.size)(hB:Below w.heap.size w w'):LC w' b o x:=by obtain⟨c0,c1,c2,c3,c4,la,ln,lc,c5,hi⟩:=h;exact⟨(hB.cell (p:=⟨b,o,none⟩) hb).trans c0,(hB.cell (p:=⟨b,o+1,none⟩) hb).trans c1,(hB.cell (p:=⟨b,o+2,none⟩) hb).trans c2,(hB.cell (p:=⟨b,o+3,none⟩) hb).trans c3,(hB.cell (p:=⟨b,o+4,none⟩) hb).trans c4,la,ln,lc,(hB.cell (p:=⟨b,o+5,none⟩) hb).trans c5,hi.kept hB⟩
def LL (w:World)(a:Option Addr)(len:Nat)(ls:List Ln):Prop:=
 ls.length=len/\len<=maxLen/\(len=0\/∃b off,a=some ⟨b,off,none⟩/\b<w.heap.size/\∀j,j<len->LC w b (off+j*6) (ls.getD j .z))
theorem LL.kept {w w':World}{a:Option Addr}{len:Nat}{ls:List Ln}(h:LL w a len ls)(hB:Below w.heap.size w w'):LL w' a len ls:=by obtain⟨h1,h2,h3|⟨b,off,rfl,hb,hx⟩⟩:=h;{exact⟨h1,h2, .inl h3⟩};exact⟨h1,h2, .inr ⟨b,off,rfl,aj hb hB.size,fun j hj=>(hx j hj).kept hb hB⟩⟩
namespace Ln
theorem iW {m:Nat}{ls:List Ln}{i:Nat}(h:(ls.take i).all (bK m)=true)(hi:i<ls.length):(ls.take (i+1)).all (bK m)=bK m (ls.getD i z):=by rw[List.take_add_one,ai hi,List.all_append,h,ah,ai hi];simp
theorem fK {m:Nat}{ls:List Ln}{i:Nat}(hi:i<ls.length)(h:bK m (ls.getD i z)=false):ls.all (bK m)=false:=by rw[List.all_eq_false];refine⟨ls.getD i z,?_,by rw[h];decide⟩;rw[ah,ai hi];exact List.getElem_mem hi
theorem kr {ls:List Ln}(h:ls.length<1\/300<ls.length):isOk ls=false:=by unfold isOk;rw[decide_eq_false (by omega)];rfl
end Ln
theorem ku (a:Option Addr)(len cap:Nat)(ls:List Ln)(w:World)(hs:LL w a len ls):Calls Try.prog 21 #[.slice a len cap] w fun e w'=>e= .returned (.bool (Ln.isOk ls))/\Below w.heap.size w w':=by have hl:=hs.1;have hm:=hs.2.1;unfold maxLen at hm;by_cases h1:len<1;{rw[Ln.kr (.inl (by omega))];have Ay:(len:Int)<1:=by{omega};clear hs hl;go_enter Try.func21,Try.ntmps21;go_wp2;go_ret;exact⟨rfl,Below.refl _ _⟩};by_cases h2:300<len;{rw[Ln.kr (.inr (by omega))];have Ay:¬(len:Int)<1:=by{omega};have BP:(300:Int)<(len:Int):=by{omega};clear hs hl;go_enter Try.func21,Try.ntmps21;go_wp2;go_ret;exact⟨rfl,Below.refl _ _⟩};have Ay:¬(len:Int)<1:=by{omega};have BP:¬(300:Int)<(len:Int):=by{omega};obtain⟨R,hR⟩:∃R,Ln.isOk ls=R:=⟨_,rfl⟩;rw[hR];have HR:Hid (R=(ls.all (Ln.bK len)&&Ln.cB ls)):=by{show _=_;rw[←hR];unfold Ln.isOk;rw[decide_eq_true (by omega),Bool.true_and,hl]};have HL:=ae hl;obtain⟨-,-,h0|⟨b,off,rfl,hb,hx⟩⟩:=hs;{omega};clear hR hl;go_enter Try.func21,Try.ntmps21;go_wp2;go_loopw [4] (fun i wr=>∃k:Nat,i= .int .i64 k/\k<=len/\Hid ((ls.take k).all (Ln.bK len)=true)/\Below w.heap.size w wr) (fun i _=>len-(intOf i).toNat);(case atStart=>exact⟨0,rfl,Nat.zero_le _,(by show _=_;simp),Below.refl _ _⟩);case round=>obtain⟨i,rfl,hi,HA,hB⟩:=hrel;by_cases hlt:i<len;{have aX:(i:Int)<(len:Int):=by{omega};have hb':b<wr.heap.size:=aj hb hB.size;have hc:=(hx i hlt).kept hb hB;obtain⟨⟨k,d,aa,bb,n,l⟩,lg⟩:∃x,ls.getD i .z=x:=⟨_,rfl⟩;rw[lg]at hc;have HX:=ae lg;obtain⟨c0,c1,c2,c3,c4,la,ln,lc,c5,hil⟩:=id hc;have hcon:=lu ⟨k,d,aa,bb,n,l⟩ la ln lc wr hil;simp only at c0 c1 c2 c3 c4 hil hcon;rcases hok:Ln.ok ⟨k,d,aa,bb,n,l⟩with _|_;{rw[hok]at hcon;have HF:Hid (R=false):=by{show _=_;rw[HR.out,Ln.fK (by rw[HL.out];exact hlt) (by rw[HX.out];simp[Ln.bK,hok])];rfl};clear hx lg hc;go_wp2_with(go_at_call 33;refine hcon.mono ?_;rintro e w2 ⟨rfl,hB2⟩;dsimp only);go_ret;exact⟨by rw[HF.out]<;>rfl,hB.trans (hB2.mono hB.size)⟩};rw[hok]at hcon;have hq:(k=5\/k=6)\/((k==5)=false/\(k==6)=false):=by{by_cases e:k=5;{exact .inl (.inl e)};by_cases e2:k=6;{exact .inl (.inr e2)};exact .inr ⟨by simpa using e,by simpa using e2⟩};rcases hq with hq|⟨q5,q6⟩;{by_cases hn:(len:Int)<=n;{have HF:Hid (R=false):=by{show _=_;rw[HR.out,Ln.fK (by rw[HL.out];exact hlt) (by rw[HX.out];rcases hq with rfl|rfl<;>simp[Ln.bK,hok,hn])];rfl};clear hx lg HX;rcases hq with rfl|rfl;all_goals go_wp2_with(go_at_call 33;refine hcon.mono ?_;rintro e w2 ⟨rfl,hB2⟩;dsimp only;have e0:=(hB2.cell (p:=⟨b,off+i*6,none⟩) hb').trans c0;have e4:=(hB2.cell (p:=⟨b,off+i*6+4,none⟩) hb').trans c4);go_ret;exact⟨by rw[HF.out]<;>rfl,hB.trans (hB2.mono hB.size)⟩};have HA2:Hid ((ls.take (i+1)).all (Ln.bK len)=true):=by{show _=_;rw[Ln.iW HA.out (by rw[HL.out];exact hlt),HX.out];simp[Ln.bK,hok,hn]};clear hx lg HX;rcases hq with rfl|rfl;all_goals go_wp2_with(go_at_call 33;refine hcon.mono ?_;rintro e w2 ⟨rfl,hB2⟩;dsimp only;have e0:=(hB2.cell (p:=⟨b,off+i*6,none⟩) hb').trans c0;have e4:=(hB2.cell (p:=⟨b,off+i*6+4,none⟩) hb').trans c4);go_roundw;(case rel=>exact⟨i+1,by simp,hlt,HA2,hB.trans (hB2.mono hB.size)⟩);case measure=>simp[intOf];omega};have HA2:Hid ((ls.take (i+1)).all (Ln.bK len)=true):=by{show _=_;rw[Ln.iW HA.out (by rw[HL.out];exact hlt),HX.out];have e5:k≠5:=by{simpa using q5};have e6:k≠6:=by{simpa using q6};simp[Ln.bK,hok,e5,e6]};clear hx lg HX;go_wp2_with(go_at_call 33;refine hcon.mono ?_;rintro e w2 ⟨rfl,hB2⟩;dsimp only;have e0:=(hB2.cell (p:=⟨b,off+i*6,none⟩) hb').trans c0);go_roundw;(case rel=>exact⟨i+1,by simp,hlt,HA2,hB.trans (hB2.mono hB.size)⟩);case measure=>simp[intOf];omega};have hie:i=len:=by{omega};have HR2:Hid (R=Ln.cB ls):=by{show _=_;have:=HA.out;rw[hie,←HL.out,List.take_length]at this;rw[HR.out,←HL.out,this,Bool.true_and]};subst hie;have hc:=(hx (i-1) (by omega)).kept hb hB;have hb':b<wr.heap.size:=aj hb hB.size;obtain⟨⟨k,d,aa,bb,n,l⟩,lg⟩:∃x,ls.getD (i-1) .z=x:=⟨_,rfl⟩;rw[lg]at hc;obtain⟨c0,-⟩:=hc;simp only at c0;have HK:Hid (R=(decide (k=5)||decide (k=10)||decide (k=11))):=by{show _=_;rw[HR2.out];unfold Ln.cB;rw[HL.out,lg]};clear hx lg HR HR2 HA;have hi1:0<i:=by{omega};have EE:(i:Int)-1=((i-1:Nat):Int):=by{omega};have hqq:k=5\/k=10\/k=11\/((k==5)=false/\(k==10)=false/\(k==11)=false):=by{by_cases e:k=5;{exact .inl e};by_cases e2:k=10;{exact .inr (.inl e2)};by_cases e3:k=11;{exact .inr (.inr (.inl e3))};exact .inr (.inr (.inr ⟨by simpa using e,by simpa using e2,by simpa using e3⟩))};rcases hqq with rfl|rfl|rfl|⟨q5,mI,pM⟩;{have HF:Hid (R=true):=by{show _=_;rw[HK.out];rfl};go_wp2;go_ret;exact⟨by rw[HF.out]<;>rfl,hB⟩};{have HF:Hid (R=true):=by{show _=_;rw[HK.out];rfl};go_wp2;go_ret;exact⟨by rw[HF.out]<;>rfl,hB⟩};{have HF:Hid (R=true):=by{show _=_;rw[HK.out];rfl};go_wp2;go_ret;exact⟨by rw[HF.out]<;>rfl,hB⟩};have HF:Hid (R=false):=by{show _=_;have e5:k≠5:=by{simpa using q5};have e6:k≠10:=by{simpa using mI};have e7:k≠11:=by{simpa using pM};rw[HK.out];simp[e5,e6,e7]};go_wp2;go_ret;exact⟨by rw[HF.out]<;>rfl,hB⟩
namespace aG
def op (xs:List (Int×Int))(i:Nat):Int:=(xs.getD i (0,0)).1
def close (E O:List Int)(t i:Nat):List Int:=if 0<=O.getD t (-1)then(E.set t i).set (O.getD t (-1)).toNat i else E.set t i
def go (xs:List (Int×Int)):Nat->Nat->List Int->List Int->List Nat->List Int×List Int×Bool
 |0,_,E,O,_=>(E,O,false)
 | f +1,i,E,O,S=>
   if xs.length<=i then(E,O,false)else
   if St.opens (op xs i)=true then go xs f (i+1) E O (i::S)else
   if op xs i=11 then
     match S with
     |[]=>(E,O,false)
     |t::S'=>if op xs t=10/\O.getD t (-1)<0 then go xs f (i+1) E (O.set t i) (t::S')else(E,O,false)
   else if op xs i=12 then
     match S with
     |[]=>(E,O,decide (i+1=xs.length))
     |t::S'=>go xs f (i+1) (close E O t i) O S'
   else go xs f (i+1) E O S
def gP (n:Nat):List Int:=List.replicate n (-1)
def all (xs:List (Int×Int)):List Int×List Int×Bool:=go xs (xs.length+1) 0 (gP xs.length) (gP xs.length) []
def isOk (xs:List (Int×Int)):Bool:=(decide (xs.length<=80)&&St.bV xs)&&(all xs).2.2
def ends (xs:List (Int×Int)):List Int:=if isOk xs=true then(all xs).1 else[]
def gV (xs:List (Int×Int)):List Int:=if isOk xs=true then(all xs).2.1 else[]
def eU (xs:List (Int×Int))(E:List Int)(at':Int):Nat->List Int
 |0=>[]
 |k+1=>if St.opens (op xs k)=true/\at'<=E.getD k (-1)then(k:Int)::eU xs E at' k else eU xs E at' k
variable {xs : List (Int × Int)} {f i t : Nat} {E O : List Int} {S S' : List Nat}
theorem vN (h:xs.length<=i):go xs (f+1) i E O S=(E,O,false):=by unfold go;rw[ax h]
theorem l5 (h:i<xs.length)(ho:St.opens (op xs i)=true):go xs (f+1) i E O S=go xs f (i+1) E O (i::S):=by(conv=>lhs;unfold go);rw[av (by omega),ax ho]
theorem qU (h:i<xs.length)(ho:St.opens (op xs i)=false)(h1:op xs i=11):go xs (f+1) i E O []=(E,O,false):=by unfold go;rw[av (by omega),av (by simp[ho]),ax h1]
theorem ry (h:i<xs.length)(ho:St.opens (op xs i)=false)(h1:op xs i=11)(h2:¬(op xs t=10/\O.getD t (-1)<0)):go xs (f+1) i E O (t::S')=(E,O,false):=by unfold go;rw[av (by omega),av (by simp[ho]),ax h1];exact av h2
theorem ma (h:i<xs.length)(ho:St.opens (op xs i)=false)(h1:op xs i=11)(h2:op xs t=10/\O.getD t (-1)<0):go xs (f+1) i E O (t::S')=go xs f (i+1) E (O.set t i) (t::S'):=by(conv=>lhs;unfold go);rw[av (by omega),av (by simp[ho]),ax h1];exact ax h2
theorem sZ (h:i<xs.length)(ho:St.opens (op xs i)=false)(h1:op xs i≠11)(h2:op xs i=12):go xs (f+1) i E O []=(E,O,decide (i+1=xs.length)):=by unfold go;rw[av (by omega),av (by simp[ho]),av h1,ax h2]
theorem mf (h:i<xs.length)(ho:St.opens (op xs i)=false)(h1:op xs i≠11)(h2:op xs i=12):go xs (f+1) i E O (t::S')=go xs f (i+1) (close E O t i) O S':=by(conv=>lhs;unfold go);rw[av (by omega),av (by simp[ho]),av h1,ax h2]
theorem lI (h:i<xs.length)(ho:St.opens (op xs i)=false)(h1:op xs i≠11)(h2:op xs i≠12):go xs (f+1) i E O S=go xs f (i+1) E O S:=by(conv=>lhs;unfold go);rw[av (by omega),av (by simp[ho]),av h1,av h2]
theorem oV:(close E O t i).length=E.length:=by unfold close;split<;>simp
end aG
theorem aF {W W':World}{n₀ e k n:Nat}{v:Value}{xs:List Value}(h:W.ownsRow n₀ e k v n xs)(hB:Below W.heap.size W W'):W'.ownsRow n₀ e k v n xs:=by refine h.kept (row:=none) ⟨hB.os,hB.tape,hB.output,hB.size,fun k hk _=>hB.block k hk⟩ ?_;rcases hv:v.ownBlock with _|b;{exact .inl rfl};exact .inr (by simp)
theorem rV {W:World}{n₀ e g n c:Nat}{xs:List Value}(h:W.ownsRow n₀ e 1 (.slice (some ⟨g,0,none⟩) n c) n xs)(m:Nat)(hm:m<=n):W.ownsRow n₀ e 1 (.slice (some ⟨g,0,none⟩) m c) m (xs.take m):=by obtain⟨h1,h2⟩:=h;refine⟨by rw[List.length_take,h1];omega,?_⟩;rcases h2 with⟨h',_⟩|⟨g',cap',cur,h',hb,hc,hn,hx,hs,ht⟩;{cases h'};cases h';refine .inr ⟨g,c,cur,rfl,hb,hc,by omega,hx,hs,?_⟩;rw[←ht,List.take_take];congr 1;omega
theorem nZ {W:World}{n₀ g n c:Nat}{xs:List Int}(h:W.ownsRow n₀ 2 1 (.slice (some ⟨g,0,none⟩) n c) n (xs.map iv)){k:Nat}(hk:k<n)(d:Int):W.cell? ⟨g,k,none⟩=some (.int .i64 (xs.getD k d)):=by have hl:xs.length=n:=by{have:=h.1;simpa using this};rw[h.cellAt k (by omega),List.getElem?_map,ai (by omega),ah,ai (by omega)];rfl
def eX (S:List Nat):List Int:=S.map fun(x:Nat)=>(x:Int)
theorem dC {W W':World}{n₀ e k n b:Nat}{g c:Nat}{xs:List Value}(h:W.ownsRow n₀ e k (.slice (some ⟨g,0,none⟩) n c) n xs)(hg:W.grownBy W' (some b))(hb:g≠b):W'.ownsRow n₀ e k (.slice (some ⟨g,0,none⟩) n c) n xs:=
 h.kept hg (.inr (by simp only[Value.ownBlock,ne_eq,af];omega))
structure NI (xs:List (Int×Int))(len:Nat)(w w1 w2 wr:World)(gE cE gO cO gS cS:Nat)(k:Nat)(E O:List Int)(S:List Nat):Prop where
 rE:wr.ownsRow w.heap.size 2 1 (.slice (some ⟨gE,0,none⟩) len cE) len (E.map iv)
 rO:wr.ownsRow w1.heap.size 2 1 (.slice (some ⟨gO,0,none⟩) len cO) len (O.map iv)
 rS:wr.ownsRow w2.heap.size 2 1 (.slice (some ⟨gS,0,none⟩) S.length cS) S.length ((eX S.reverse).map iv)
 eq:aG.all xs=aG.go xs (len+1-k) k E O S
 sl:S.length<=k
 st:∀t∈S,t<k
 so:∀t∈S,-1<=O.getD t (-1)/\O.getD t (-1)<k
 oz:∀t,k<=t->O.getD t (-1)=-1
 jc:Below w.heap.size w wr
 sz:w2.heap.size<=wr.heap.size
 eE:gE<w1.heap.size
 eO:w1.heap.size<=gO/\gO<w2.heap.size
theorem NI.kept {xs:List (Int×Int)}{len:Nat}{w w1 w2 wr wx:World}{gE cE gO cO gS cS k:Nat}{E O:List Int}{S:List Nat}(h:NI xs len w w1 w2 wr gE cE gO cO gS cS k E O S)(hB:Below wr.heap.size wr wx):NI xs len w w1 w2 wx gE cE gO cO gS cS k E O S:=
 {h with rE:=aF h.rE hB,rO:=aF h.rO hB,rS:=aF h.rS hB,jc:=h.jc.trans (hB.mono h.jc.size),sz:=Nat.le_trans h.sz hB.size}
theorem NI.push {xs:List (Int×Int)}{len:Nat}{w w1 w2 wr wA:World}{gE cE gO cO gS cS k gS' BQ:Nat}{E O:List Int}{S:List Nat}(h:NI xs len w w1 w2 wr gE cE gO cO gS cS k E O S)(hk:k<xs.length)(hl:xs.length=len)(ho:St.opens (aG.op xs k)=true)(hown:wA.ownsRow w2.heap.size 2 1 (.slice (some ⟨gS',0,none⟩) (S.length+1) BQ) (S.length+1) ((eX S.reverse).map iv++[.int .i64 (k:Int)]))(hg:wr.grownBy wA (Value.slice (some ⟨gS,0,none⟩) S.length cS).ownBlock):NI xs len w w1 w2 wA gE cE gO cO gS' BQ (k+1) E O (k::S):=by have hgs:=(h.rS.lt gS rfl).1;have hg':wr.grownBy wA (some gS):=hg;have hE:=h.eE;have Dt:=h.eO;refine⟨dC h.rE hg' (by omega),dC h.rO hg' (by omega),?_,?_,by simp;exact h.sl,?_,?_,fun t ht=>h.oz t (by omega),?_,Nat.le_trans h.sz hg.size,hE,Dt⟩;{have e:(eX (k::S).reverse).map iv=(eX S.reverse).map iv++[.int .i64 (k:Int)]:=by{simp[eX,iv]};rw[e,List.length_cons];exact hown};{rw[h.eq,show len+1-k=(len+1-(k+1))+1 by omega,aG.l5 hk ho]};{intro t ht;rcases List.mem_cons.1 ht with rfl|ht;{omega};have:=h.st t ht;omega};{intro t ht;rcases List.mem_cons.1 ht with rfl|ht;{have:=h.oz t (Nat.le_refl _);omega};have:=h.so t ht;omega};exact h.jc.grown hg h.jc.size fun j ej=>by have:j=gS:=by{simpa[Value.ownBlock]using ej.symm};have:=h.jc.size;have h1:w.heap.size<=w1.heap.size:=by{have:=(h.rE.lt gE rfl).1;omega};omega
theorem NI.step {xs:List (Int×Int)}{len:Nat}{w w1 w2 wr:World}{gE cE gO cO gS cS k:Nat}{E O:List Int}{S:List Nat}(h:NI xs len w w1 w2 wr gE cE gO cO gS cS k E O S)(hk:k<xs.length)(hl:xs.length=len)(ho:St.opens (aG.op xs k)=false)(h1:aG.op xs k≠11)(h2:aG.op xs k≠12):
   NI xs len w w1 w2 wr gE cE gO cO gS cS (k+1) E O S:=
 { h with
   eq:=by rw[h.eq,show len+1-k=(len+1-(k+1))+1 by omega,aG.lI hk ho h1 h2]
   sl:=Nat.le_succ_of_le h.sl
   st:=fun t ht=>by have:=h.st t ht;omega
   so:=fun t ht=>by have:=h.so t ht;omega
   oz:=fun t ht=>h.oz t (by omega)}
theorem bH {l:List Int}{k j:Nat}{x d:Int}:(l.set k x).getD j d=if j=k/\k<l.length then x else l.getD j d:=by by_cases h:j=k;{subst h;by_cases hk:j<l.length;{rw[ax ⟨rfl,hk⟩,ah,List.getElem?_set_self hk];rfl};rw[av (fun e=>hk e.2),List.set_eq_of_length_le (by omega)]};rw[av (fun e=>h e.1),ah,List.getElem?_set_ne (by omega),←ah]
theorem NI.Av {xs:List (Int×Int)}{len:Nat}{w w1 w2 wr:World}{gE cE gO cO gS cS k:Nat}{E O:List Int}{S:List Nat}(h:NI xs len w w1 w2 wr gE cE gO cO gS cS k E O S):E.length=len/\O.length=len:=by have h1:=h.rE.1;have h2:=h.rO.1;simp at h1 h2;exact⟨h1,h2⟩
theorem NI.zB {xs:List (Int×Int)}{len:Nat}{w w1 w2 wr:World}{gE cE gO cO gS cS k t:Nat}{E O:List Int}{S:List Nat}(h:NI xs len w w1 w2 wr gE cE gO cO gS cS k E O (t::S))(hk:k<xs.length)(hl:xs.length=len)(ho:St.opens (aG.op xs k)=false)(h1:aG.op xs k=11)(h2:aG.op xs t=10/\O.getD t (-1)<0):NI xs len w w1 w2 (wr.setCell ⟨gO,t,none⟩ (.int .i64 (k:Int))) gE cE gO cO gS cS (k+1) E (O.set t (k:Int)) (t::S):=by have hst:=h.rO.stored t (.int .i64 (k:Int));rw[←bn]at hst;have hg:=aA wr ⟨gO,t,none⟩ (.int .i64 (k:Int));have hE:=h.eE;have hO:=h.eO;have hgs:=(h.rS.lt gS rfl).1;have BR:w.heap.size<=w1.heap.size:=by{have:=(h.rE.lt gE rfl).1;omega};refine⟨dC h.rE hg (by simp;omega),hst.1,dC h.rS hg (by simp;omega),?_,Nat.le_succ_of_le h.sl,?_,?_,?_,h.jc.setCell (p:=⟨gO,t,none⟩) (by simp;omega) _,by simpa[World.setCell]using h.sz,hE,hO⟩;{rw[h.eq,show len+1-k=(len+1-(k+1))+1 by omega,aG.ma hk ho h1 h2]};{intro x hx;have:=h.st x hx;omega};{intro x hx;have:=h.so x hx;rw[bH];split<;>omega};intro x hx;have:=h.st t (by simp);rw[bH,av (by omega)];exact h.oz x (by omega)
theorem NI.BI {xs:List (Int×Int)}{len:Nat}{w w1 w2 wr wA:World}{gE cE gO cO gS cS k t:Nat}{E O:List Int}{S:List Nat}(h:NI xs len w w1 w2 wr gE cE gO cO gS cS k E O (t::S))(hk:k<xs.length)(hl:xs.length=len)(ho:St.opens (aG.op xs k)=false)(h1:aG.op xs k≠11)(h2:aG.op xs k=12)(hA:wA=if 0<=O.getD t (-1)then(wr.setCell ⟨gE,t,none⟩ (.int .i64 (k:Int))).setCell ⟨gE,(O.getD t (-1)).toNat,none⟩ (.int .i64 (k:Int))else wr.setCell ⟨gE,t,none⟩ (.int .i64 (k:Int))):NI xs len w w1 w2 wA gE cE gO cO gS cS (k+1) (aG.close E O t k) O S:=by have hst:=h.rE.stored t (.int .i64 (k:Int));rw[←bn]at hst;have nG:=hst.1.stored (O.getD t (-1)).toNat (.int .i64 (k:Int));rw[←bn]at nG;have hE:=h.eE;have hO:=h.eO;have hge:=(h.rE.lt gE rfl).1;have hgs:=(h.rS.lt gS rfl).1;have hrow:wA.ownsRow w.heap.size 2 1 (.slice (some ⟨gE,0,none⟩) len cE) len ((aG.close E O t k).map iv)/\wr.grownBy wA (some gE)/\Below w.heap.size w wA/\wr.heap.size=wA.heap.size:=by{unfold aG.close;by_cases hc:0<=O.getD t (-1);{rw[ax hc]at hA ⊢;subst hA;exact⟨nG.1,aJ hst.2 nG.2,(h.jc.setCell (p:=⟨gE,t,none⟩) hge _).setCell (p:=⟨gE,(O.getD t (-1)).toNat,none⟩) hge _,by simp[World.setCell]⟩};rw[av hc]at hA ⊢;subst hA;exact⟨hst.1,hst.2,h.jc.setCell (p:=⟨gE,t,none⟩) hge _,by simp[World.setCell]⟩};obtain⟨r1,r2,r3,r4⟩:=hrow;have hS:=dC (rV h.rS S.length (by simp)) r2 (by omega);refine⟨r1,dC h.rO r2 (by omega),?_,?_,?_,?_,?_,fun t ht=>h.oz t (by omega),r3,by have:=h.sz;omega,hE,hO⟩;{have e:((eX (t::S).reverse).map iv).take S.length=(eX S.reverse).map iv:=by{simp[eX]};rw[e]at hS;exact hS};{rw[h.eq,show len+1-k=(len+1-(k+1))+1 by omega,aG.mf hk ho h1 h2]};{have:=h.sl;simp at this;omega};{intro x hx;have:=h.st x (List.mem_cons_of_mem _ hx);omega};intro x hx;have:=h.so x (List.mem_cons_of_mem _ hx);omega
theorem NI.iF {xs:List (Int×Int)}{len:Nat}{w w1 w2 wr:World}{gE cE gO cO gS cS k t:Nat}{E O:List Int}{S:List Nat}(h:NI xs len w w1 w2 wr gE cE gO cO gS cS k E O (t::S)):wr.cell? ⟨gS,S.length,none⟩=some (.int .i64 (t:Int)):=by have:=nZ (xs:=eX (t::S).reverse) h.rS (k:=S.length) (by simp) 0;rw[this];simp[eX]
namespace aG
abbrev aH (E:List Int)(j:Nat):Int:=E.getD j (-1)
theorem bz {p:Int}:St.opens p=true↔p=8\/p=9\/p=10:=by unfold St.opens;exact decide_eq_true_iff
theorem jG {E O:List Int}{t k:Nat}(ht:t<E.length)(ho:aH O t<E.length)(j:Nat):aH (close E O t k) j=if j=t\/(0<=aH O t/\(j:Int)=aH O t)then(k:Int)else aH E j:=by unfold aH at ho ⊢;unfold close;by_cases hc:0<=O.getD t (-1);{rw[ax hc,bH,bH];simp only[List.length_set];have hto:(O.getD t (-1)).toNat<E.length:=by{omega};by_cases h1:j=(O.getD t (-1)).toNat;{rw[ax ⟨h1,hto⟩,ax (Or.inr ⟨hc,by omega⟩)]};rw[av (fun h=>h1 h.1)];by_cases h2:j=t;{rw[ax ⟨h2,ht⟩,ax (Or.inl h2)]};rw[av (fun h=>h2 h.1),av (by rintro(h|⟨-,h⟩);exact h2 h;omega)]};rw[av hc,bH];by_cases h2:j=t;{rw[ax ⟨h2,ht⟩,ax (Or.inl h2)]};rw[av (fun h=>h2 h.1),av (by rintro(h|⟨h,-⟩);exact h2 h;exact hc h)]
structure Inv (xs:List (Int×Int))(k:Nat)(E O:List Int)(S:List Nat):Prop where
 lE:E.length=xs.length
 lO:O.length=xs.length
 kl:k<=xs.length
 Az:S.Pairwise (fun a b=>b<a)
 st:∀t∈S,t<k/\St.opens (op xs t)=true/\aH E t=-1
 out:∀j,k<=j->aH E j=-1/\aH O j=-1
 low:∀j,-1<=aH E j/\aH E j<k/\-1<=aH O j
 cl:∀j,j<k->St.opens (op xs j)=true->j∉S->(j:Int)<aH E j/\op xs (aH E j).toNat=12
 el:∀j,j<k->op xs j=11->∃t,t<j/\op xs t=10/\aH O t=j/\aH E j=aH E t
 ot:∀j,St.opens (op xs j)=false->op xs j≠11->aH E j=-1
 oo:∀j,0<=aH O j->op xs j=10/\(j:Int)<aH O j/\aH O j<k/\op xs (aH O j).toNat=11/\aH E (aH O j).toNat=aH E j
 oe:∀j,0<=aH O j->j∉S->aH O j<aH E j
 inj:∀i j,0<=aH O i->aH O i=aH O j->i=j
 n1:∀i j,St.opens (op xs i)=true->i<j->(j:Int)<aH E i->op xs j≠11->aH E j<aH E i
 n2:∀t∈S,∀i,i<t->St.opens (op xs i)=true->i∉S->aH E i<t
theorem Inv.first (xs:List (Int×Int)):Inv xs 0 (gP xs.length) (gP xs.length) []:=by have h:∀j,aH (gP xs.length) j=-1:=fun j=>by{simp only[aH,gP,ah,List.getElem?_replicate];split<;>rfl};refine⟨by simp[gP],by simp[gP],Nat.zero_le _,List.Pairwise.nil,by simp,fun j _=>⟨h j,h j⟩,fun j=>by rw[h];omega,fun j hj=>by omega,fun j hj=>by omega,fun j _ _=>h j,fun j hj=>?_,fun j hj=>?_,fun i j hi=>?_,fun i j _ _ hj=>?_,by simp⟩;{rw[h]at hj;omega};{rw[h]at hj;omega};{rw[h]at hi;omega};rw[h]at hj;omega
variable {xs : List (Int × Int)} {k t : Nat} {E O : List Int} {S : List Nat}
theorem Inv.push (h:Inv xs k E O S)(hk:k<xs.length)(ho:St.opens (op xs k)=true):Inv xs (k+1) E O (k::S):=by have hk':=bz.1 ho;refine⟨h.lE,h.lO,hk,List.pairwise_cons.2 ⟨fun x hx=>(h.st x hx).1,h.Az⟩,?_,fun j hj=>h.out j (by omega),fun j=>?_,?_,?_,h.ot,?_,?_,h.inj,h.n1,?_⟩;{intro x hx;rcases List.mem_cons.1 hx with rfl|hx;{exact⟨by omega,ho,(h.out x (Nat.le_refl _)).1⟩};have:=h.st x hx;exact⟨by omega,this.2⟩};{have:=h.low j;omega};{intro j hj hoj hjs;rw[List.mem_cons,not_or]at hjs;exact h.cl j (by omega) hoj hjs.2};{intro j hj h11;have hjk:j≠k:=by{rintro rfl;omega};exact h.el j (by omega) h11};{intro j hj;have:=h.oo j hj;exact⟨this.1,this.2.1,by omega,this.2.2.2⟩};{intro j hj hjs;rw[List.mem_cons,not_or]at hjs;exact h.oe j hj hjs.2};intro x hx i hi hoi his;rw[List.mem_cons,not_or]at his;rcases List.mem_cons.1 hx with rfl|hx;{have:=h.low i;omega};exact h.n2 x hx i hi hoi his.2
theorem Inv.other (h:Inv xs k E O S)(hk:k<xs.length)(ho:St.opens (op xs k)=false)(h11:op xs k≠11):Inv xs (k+1) E O S:=by refine{h with kl:=hk,st:=fun x hx=>?_,out:=fun j hj=>h.out j (by omega),low:=fun j=>?_,cl:=?_,el:=?_,oo:=?_};{have:=h.st x hx;exact⟨by omega,this.2⟩};{have:=h.low j;omega};{intro j hj hoj hjs;have hjk:j≠k:=by{rintro rfl;rw[ho]at hoj;cases hoj};exact h.cl j (by omega) hoj hjs};{intro j hj fu;have hjk:j≠k:=by{rintro rfl;exact h11 fu};exact h.el j (by omega) fu};intro j hj;have:=h.oo j hj;exact⟨this.1,this.2.1,by omega,this.2.2.2⟩
theorem Inv.zB (h:Inv xs k E O (t::S))(hk:k<xs.length)(h11:op xs k=11)(h10:op xs t=10)(hneg:aH O t<0):Inv xs (k+1) E (O.set t (k:Int)) (t::S):=by have htk:=h.st t (by simp);have Du:=h.lO;have hg:∀j,aH (O.set t (k:Int)) j=if j=t then(k:Int)else aH O j:=fun j=>by{unfold aH;rw[bH];by_cases e:j=t;{rw[ax ⟨e,by omega⟩,ax e]};rw[av (fun q=>e q.1),av e]};have hEk:=(h.out k (Nat.le_refl _)).1;refine{h with lO:=by simp[Du],kl:=hk,st:=fun x hx=>?_,out:=fun j hj=>?_,low:=fun j=>?_,cl:=?_,el:=?_,oo:=?_,oe:=?_,inj:=?_};{have:=h.st x hx;exact⟨by omega,this.2⟩};{rw[hg,av (by omega)];exact h.out j (by omega)};{have:=h.low j;rw[hg];split<;>omega};{intro j hj hoj hjs;have hjk:j≠k:=by{rintro rfl;rw[bz]at hoj;omega};exact h.cl j (by omega) hoj hjs};{intro j hj fu;by_cases e:j=k;{subst e;exact⟨t,htk.1,h10,by rw[hg,ax rfl],by rw[hEk,htk.2.2]⟩};obtain⟨t2,a1,a2,a3,a4⟩:=h.el j (by omega) fu;have hne:t2≠t:=by{rintro rfl;omega};exact⟨t2,a1,a2,by rw[hg,av hne];exact a3,a4⟩};{intro j hj;rw[hg]at hj ⊢;by_cases e:j=t;{subst e;rw[ax rfl];rw[Int.toNat_natCast];exact⟨h10,by omega,by omega,h11,by rw[hEk,htk.2.2]⟩};rw[av e]at hj ⊢;have:=h.oo j hj;exact⟨this.1,this.2.1,by omega,this.2.2.2⟩};{intro j hj hjs;have hne:j≠t:=by{rintro rfl;exact hjs (by simp)};rw[hg,av hne]at hj ⊢;exact h.oe j hj hjs};intro i j hi hij;rw[hg]at hi hij;rw[hg]at hij;by_cases e1:i=t;{rw[ax e1]at hi hij;by_cases e2:j=t;{rw[e1,e2]};rw[av e2]at hij;have:=(h.oo j (by omega)).2.2.1;omega};rw[av e1]at hi hij;by_cases e2:j=t;{rw[ax e2]at hij;have:=(h.oo i hi).2.2.1;omega};rw[av e2]at hij;exact h.inj i j hi hij
theorem Inv.BI (h:Inv xs k E O (t::S))(hk:k<xs.length)(h12:op xs k=12):Inv xs (k+1) (close E O t k) O S:=by have htk:=h.st t (by simp);have BS:=h.lE;have BU:aH O t<k:=by{by_cases e:0<=aH O t;{exact(h.oo t e).2.2.1};omega};have hkl:=h.kl;have hg:=jG (E:=E) (O:=O) (t:=t) (k:=k) (by omega) (by omega);have fA:=List.pairwise_cons.1 h.Az;have hto:=bz.1 htk.2.1;have hno:∀j,op xs j≠11->¬(0<=aH O t/\(j:Int)=aH O t):=by{rintro j hj ⟨h1,h2⟩;have:=(h.oo t h1).2.2.2.1;rw[←h2,Int.toNat_natCast]at this;exact hj this};have hsame:∀j,j≠t->op xs j≠11->aH (close E O t k) j=aH E j:=fun j h1 h2=>by{rw[hg,av (by rintro(q|q);exact h1 q;exact hno j h2 q)]};have ht':aH (close E O t k) t=k:=by{rw[hg,ax (Or.inl rfl)]};have tQ:∀j,St.opens (op xs j)=true->op xs j≠11:=fun j hj=>by{rw[bz]at hj;omega};have uI:∀(i j:Nat),0<=aH O i->(j:Int)=aH O i->op xs i=10->op xs j=11->aH E j=aH E i->aH (close E O t k) j=aH (close E O t k) i:=by{intro i j hi hj Dv fu he;by_cases e:i=t;{subst e;rw[ht',hg,ax (Or.inr ⟨hi,hj⟩)]};rw[hsame i e (by omega),hg,av,he];rintro(q|⟨q1,q2⟩);{subst q;omega};exact e (h.inj i t hi (by omega))};refine⟨by rw[oV];exact BS,h.lO,hk,fA.2,?_,?_,?_,?_,?_,?_,?_,?_,h.inj,?_,?_⟩;{intro x hx;have h1:=h.st x (List.mem_cons_of_mem _ hx);have h2:=fA.1 x hx;exact⟨by omega,h1.2.1,by rw[hsame x (by omega) (tQ x h1.2.1)];exact h1.2.2⟩};{intro j hj;have:=h.out j (by omega);refine⟨?_,this.2⟩;rw[hg,av (by omega)];exact this.1};{intro j;have:=h.low j;rw[hg];split<;>omega};{intro j hj hoj hjs;by_cases e:j=t;{subst e;rw[ht',Int.toNat_natCast];exact⟨by omega,h12⟩};have hjk:j≠k:=by{rintro rfl;rw[bz]at hoj;omega};rw[hsame j e (tQ j hoj)];exact h.cl j (by omega) hoj (by rw[List.mem_cons,not_or];exact⟨e,hjs⟩)};{intro j hj fu;have hjk:j≠k:=by{rintro rfl;omega};obtain⟨t2,a1,a2,a3,a4⟩:=h.el j (by omega) fu;exact⟨t2,a1,a2,a3,uI t2 j (by omega) a3.symm a2 fu a4⟩};{intro j hoj fu;rw[hsame j (by rintro rfl;rw[htk.2.1]at hoj;cases hoj) fu];exact h.ot j hoj fu};{intro j hj;obtain⟨a1,a2,a3,a4,a5⟩:=h.oo j hj;exact⟨a1,a2,by omega,a4,uI j (aH O j).toNat hj (by omega) a1 a4 a5⟩};{intro j hj hjs;by_cases e:j=t;{subst e;rw[ht'];exact BU};rw[hsame j e (by have:=(h.oo j hj).1;omega)];exact h.oe j hj (by rw[List.mem_cons,not_or];exact⟨e,hjs⟩)};{intro i j hoi hij AA fu;by_cases e:i=t;{subst e;rw[ht']at AA ⊢;rw[hsame j (by omega) fu];exact(h.low j).2.1};rw[hsame i e (tQ i hoi)]at AA ⊢;by_cases e2:j=t;{subst e2;exfalso;by_cases BV:i∈j::S;{have:=(h.st i BV).2.2;omega};have:=h.n2 j (by simp) i hij hoi BV;omega};rw[hsame j e2 fu];exact h.n1 i j hoi hij AA fu};intro x hx i hi hoi his;have hxt:=fA.1 x hx;have e:i≠t:=by{omega};rw[hsame i e (tQ i hoi)];exact h.n2 x (List.mem_cons_of_mem _ hx) i hi hoi (by rw[List.mem_cons,not_or];exact⟨e,his⟩)
theorem Inv.dE:∀(f k:Nat)(E O:List Int)(S:List Nat){Ef Of:List Int},Inv xs k E O S->go xs f k E O S=(Ef,Of,true)->
   (∃m,m+1=xs.length/\op xs m=12/\Inv xs m Ef Of [])/\(∀j,j<k->St.opens (op xs j)=true->j∉S->aH Ef j=aH E j)/\(∀j∈S,(k:Int)<=aH Ef j)
 |0,k,E,O,S,Ef,Of,h,hgo=>by simp[go]at hgo
 | f + 1, k, E,O,S,Ef,Of,h,hgo=>by
   by_cases hk:xs.length<=k
   · rw[vN hk]at hgo;simp at hgo
   have hk:k<xs.length:=by omega
   rcases ho:St.opens (op xs k)with _|_
   · by_cases h11:op xs k=11
     · rcases S with _|⟨t,S'⟩
       · rw[qU hk ho h11]at hgo;simp at hgo
       · by_cases h2:op xs t=10/\aH O t<0
         · rw[ma hk ho h11 h2]at hgo
           obtain⟨a,b,c⟩:=Inv.dE f (k+1) E _ _ (h.zB hk h11 h2.1 h2.2) hgo
           exact⟨a,fun j hj=>b j (by omega),fun j hj=>by have:=c j hj;omega⟩
         · rw[ry hk ho h11 h2]at hgo;simp at hgo
     · by_cases h12:op xs k=12
       · rcases S with _|⟨t,S'⟩
         · rw[sZ hk ho h11 h12]at hgo
           simp only[Prod.mk.injEq,decide_eq_true_eq]at hgo
           obtain⟨rfl,rfl,hl⟩:=hgo
           exact⟨⟨k,hl,h12,h⟩,fun j _ _ _=>rfl,by simp⟩
         · rw[mf hk ho h11 h12]at hgo
           obtain⟨a,b,c⟩:=Inv.dE f (k+1) _ _ _ (h.BI hk h12) hgo
           have htk:=h.st t (by simp)
           have fA:=List.pairwise_cons.1 h.Az
           have BU:aH O t<k:=by
             by_cases e:0<=aH O t
             · exact(h.oo t e).2.2.1
             · omega
           have BS:=h.lE
           have hg:=jG (E:=E) (O:=O) (t:=t) (k:=k) (by omega) (by omega)
           refine⟨a,fun j hj hoj hjs=>?_,fun j hj=>?_⟩
           · rw[List.mem_cons,not_or]at hjs
             rw[b j (by omega) hoj hjs.2,hg,av]
             rintro(q|⟨q1,q2⟩)
             · exact hjs.1 q
             · have:=(h.oo t q1).2.2.2.1
               rw[←q2,Int.toNat_natCast]at this
               rw[bz]at hoj
               omega
           · rcases List.mem_cons.1 hj with rfl|hj'
             · rw[b j (by omega) htk.2.1 (fun q=>by have:=fA.1 j q;omega),hg,ax (Or.inl rfl)]
               omega
             · have:=c j hj';omega
       · rw[lI hk ho h11 h12]at hgo
         obtain⟨a,b,c⟩:=Inv.dE f (k+1) _ _ _ (h.other hk ho h11) hgo
         exact⟨a,fun j hj=>b j (by omega),fun j hj=>by have:=c j hj;omega⟩
   · rw[l5 hk ho]at hgo
     obtain⟨a,b,c⟩:=Inv.dE f (k+1) _ _ _ (h.push hk ho) hgo
     refine⟨a,fun j hj hoj hjs=>b j (by omega) hoj (by rw[List.mem_cons,not_or];exact⟨by omega,hjs⟩),fun j hj=>?_⟩
     have:=c j (List.mem_cons_of_mem _ hj)
     omega
structure Fin (xs:List (Int×Int))(E O:List Int):Prop where
 lE:E.length=xs.length
 lO:O.length=xs.length
 f1:∀i,i<xs.length->(0<=aH E i↔(St.opens (op xs i)=true\/op xs i=11))
 f2:∀i,i<xs.length->0<=aH O i->op xs i=10/\(i:Int)<aH O i/\aH O i<aH E i/\aH E (aH O i).toNat=aH E i
 f3:∀i,i<xs.length->0<=aH E i->(i:Int)<aH E i/\aH E i<xs.length/\op xs (aH E i).toNat=12
 f4:∀i j,St.opens (op xs i)=true->i<j->(j:Int)<aH E i->op xs j≠11->aH E j<aH E i
theorem Inv.fin {m:Nat}(h:Inv xs m E O [])(hm:m+1=xs.length)(h12:op xs m=12):Fin xs E O:=by have hop:∀i,i<xs.length->(St.opens (op xs i)=true\/op xs i=11)->(i:Int)<aH E i/\op xs (aH E i).toNat=12:=by{intro i hi ho;have him:i≠m:=by{rintro rfl;rw[bz]at ho;omega};rcases ho with ho|ho;{exact h.cl i (by omega) ho (by simp)};obtain⟨t,a1,a2,a3,a4⟩:=h.el i (by omega) ho;have:=h.oe t (by omega) (by simp);have h2:=h.cl t (by omega) (by rw[bz];omega) (by simp);rw[a4];exact⟨by omega,h2.2⟩};have hf1:∀i,i<xs.length->(0<=aH E i↔(St.opens (op xs i)=true\/op xs i=11)):=by{intro i hi;refine⟨fun h0=>?_,fun ho=>by have:=(hop i hi ho).1;omega⟩;by_cases ho:St.opens (op xs i)=true;{exact Or.inl ho};by_cases h11:op xs i=11;{exact Or.inr h11};have:=h.ot i (by simpa using ho) h11;omega};refine⟨h.lE,h.lO,hf1,?_,?_,h.n1⟩;{intro i hi h0;obtain⟨a1,a2,a3,a4,a5⟩:=h.oo i h0;exact⟨a1,a2,h.oe i h0 (by simp),a5⟩};intro i hi h0;have:=hop i hi ((hf1 i hi).1 h0);have h3:=(h.low i).2.1;exact⟨this.1,by omega,this.2⟩
end aG
theorem IL.aH {w:World}{a:Option Addr}{n:Nat}{E:List Int}(h:IL w a n E)(hn:0<n):∃b off,a=some ⟨b,off,none⟩/\∀(wx:World),Below w.heap.size w wx->∀j,j<n->wx.cell? ⟨b,off+j,none⟩=some (.int .i64 (aG.aH E j)):=by obtain⟨hl,-,h0|⟨b,off,rfl,hb,hx⟩⟩:=h;{omega};refine⟨b,off,rfl,fun wx hB j hj=>?_⟩;have e:aG.aH E j=E.getD j 0:=by{unfold aG.aH;rw[ah,ah,ai (by omega)];rfl};rw[e];exact(hB.cell (p:=⟨b,off+j,none⟩) hb).trans (hx j hj)
theorem bA (W:World)(n:Nat):Below W.heap.size W (W.drewN n):=⟨rfl,rfl,rfl,Nat.le_refl _,fun _ _=>rfl⟩
theorem qW {W:World}{n₀ e k g n c:Nat}{xs:List Value}(h:W.ownsRow n₀ e k (.slice (some ⟨g,0,none⟩) n c) n xs)(m:Nat)(hm:m<=n):W.ownsRow n₀ e k (.slice (some ⟨g,0,none⟩) m c) m (xs.take (m*k)):=by obtain⟨h1,h2⟩:=h;have hmk:m*k<=n*k:=Nat.mul_le_mul_right k hm;refine⟨by rw[List.length_take,h1];omega,?_⟩;rcases h2 with⟨h',_⟩|⟨g',cap',cur,h',hb,hc,hn,hx,hs,ht⟩;{cases h'};cases h';refine .inr ⟨g,c,cur,rfl,hb,hc,by omega,hx,hs,?_⟩;rw[←ht,List.take_take];congr 1;omega
def bE (W:World)(b:Nat)(vs:List Value):Prop:=b<W.heap.size/\∀i x,vs[i]?=some x->W.cell? ⟨b,i,none⟩=some x/\W.frozen? ⟨b,i,none⟩=false
theorem bE.bM {W W':World}{b:Nat}{row:Option Nat}{vs:List Value}(h:bE W b vs)(hg:W.grownBy W' row)(hne:row≠some b):bE W' b vs:=by have hb:=hg.block b h.1 (fun e=>hne e.symm);refine⟨aj h.1 hg.size,fun i x hx=>?_⟩;obtain⟨h1,h2⟩:=h.2 i x hx;exact⟨(World.cell?_of_block hb).trans h1,by unfold World.frozen?;rw[hb];exact h2⟩
theorem bE.kept {W W':World}{b:Nat}{vs:List Value}(h:bE W b vs)(hB:Below W.heap.size W W'):bE W' b vs:=h.bM (row:=none) ⟨hB.os,hB.tape,hB.output,hB.size,fun k hk _=>hB.block k hk⟩ (by simp)
theorem bE.new (W:World)(vs:List Value)(t:TypeId):bE (W.alloc (.cells vs.toArray t)) W.heap.size vs:=by refine⟨by simp,fun i x hx=>⟨?_,by simp⟩⟩;rw[World.cell?_alloc_at _ _ _ _ rfl];simpa using hx
theorem bE.set {W:World}{b:Nat}{vs:List Value}(h:bE W b vs)(i:Nat)(x:Value):bE (W.setCell ⟨b,i,none⟩ x) b (vs.set i x):=by refine⟨by simpa[World.setCell]using h.1,fun j y hy=>?_⟩;by_cases e:i=j;{subst e;have hi:i<vs.length:=by{rcases Nat.lt_or_ge i vs.length with h'|h';{exact h'};rw[List.getElem?_eq_none (by simpa using h')]at hy;cases hy};rw[List.getElem?_set_self hi]at hy;cases hy;obtain⟨h1,h2⟩:=h.2 i vs[i] (ai hi);exact⟨World.cell?_setCell_same _ _ _ h1,by simpa using h2⟩};rw[List.getElem?_set_ne e]at hy;obtain⟨h1,h2⟩:=h.2 j y hy;exact⟨(World.cell?_setCell_other _ _ _ _ (fun q=>e (by cases q;rfl))).trans h1,by simpa using h2⟩
structure Fn where
 a:Int
 l:Int
 g:Int
 b:List (Int×Int)
namespace Fn
def z:Fn:=⟨0,0,0,[]⟩
end Fn
namespace Md
def xn (f:Fn):Bool:=Wd.aK f.a 0 3&&(Wd.aK f.l 0 3&&(Wd.aK f.g 0 1&&(decide (f.b.length<=80)&&St.bV f.b)))
def bV (fs:List Fn):Bool:=fs.all xn
def ok (fs:List Fn)(d:ByteArray):Bool:=(Wd.aK fs.length 1 4&&decide (d.size<=64))&&bV fs
def sum:List Fn->Nat
 |[]=>0
 |f::fs=>f.b.length+sum fs
theorem bG {fs:List Fn}(h:bV fs=true){j:Nat}(hj:j<fs.length):xn (fs.getD j .z)=true:=by rw[ah,ai hj];simp only[bV,List.all_eq_true]at h;exact h _ (List.getElem_mem hj)
theorem mY {fs:List Fn}(h:bV fs=true):sum fs<=80*fs.length:=by
 induction fs with
 |nil=>simp[sum]
 |cons x xs ih=>
  simp only[bV,List.all_cons,au]at h
  have:=ih h.2
  have h1:=h.1
  simp only[xn,au,decide_eq_true_eq]at h1
  simp only[sum,List.length_cons]
  omega
end Md
def FL (w:World)(a:Option Addr)(len:Nat)(fs:List Fn):Prop:=
 fs.length=len/\len<=maxLen/\(len=0\/∃b off,a=some ⟨b,off,none⟩/\b<w.heap.size/\
   ∀ j,j<len->w.cell? ⟨b,off+j*4,none⟩=some (.int .i64 (fs.getD j .z).a)/\w.cell? ⟨b,off+j*4+1,none⟩=some (.int .i64 (fs.getD j .z).l)/\w.cell? ⟨b,off+j*4+2,none⟩=some (.int .i64 (fs.getD j .z).g)/\
     ∃ba bl bc,w.cell? ⟨b,off+j*4+3,none⟩=some (.slice ba bl bc)/\SL w ba bl (fs.getD j .z).b)
theorem FL.kept {w w':World}{a:Option Addr}{len:Nat}{fs:List Fn}(h:FL w a len fs)(hB:Below w.heap.size w w'):FL w' a len fs:=by obtain⟨h1,h2,h3|⟨b,off,rfl,hb,hx⟩⟩:=h;{exact⟨h1,h2, .inl h3⟩};refine⟨h1,h2, .inr ⟨b,off,rfl,aj hb hB.size,fun j hj=>?_⟩⟩;obtain⟨c0,c1,c2,ba,bl,bc,c3,hs⟩:=hx j hj;exact⟨(hB.cell (p:=⟨b,off+j*4,none⟩) hb).trans c0,(hB.cell (p:=⟨b,off+j*4+1,none⟩) hb).trans c1,(hB.cell (p:=⟨b,off+j*4+2,none⟩) hb).trans c2,ba,bl,bc,(hB.cell (p:=⟨b,off+j*4+3,none⟩) hb).trans c3,hs.kept hB⟩
end Go.Proofs.Ytlbkdlnalgkjeaa
