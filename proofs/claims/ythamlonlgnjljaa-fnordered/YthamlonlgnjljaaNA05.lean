/-
  Own texts for a law: Lin2 Nest3 SlOf Arr0 Mod1
-/
import Derived.Test.YthamlonlgnjljaaNA04
import Derived.OpenShut
import Derived.Deep.SlicePairs
import Derived.Deep.WholeRow
import Derived.Stop.BytesEq
import Derived.Laws.CopyOwn
import Derived.Laws.ResultCell
namespace Go.Proofs.Ythamlonlgnjljaa
open Go.RowKit Go.Shelf
set_option linter.all false
set_option maxRecDepth 100000
set_option maxHeartbeats 16000000
def LC (w:World)(b o:Nat)(x:Ln):Prop:=
 w.cell? ⟨b,o,none⟩=some (.int .i64 x.k)/\w.cell? ⟨b,o+1,none⟩=some (.int .i64 x.d)/\w.cell? ⟨b,o+2,none⟩=some (.int .i64 x.a)/\w.cell? ⟨b,o+3,none⟩=some (.int .i64 x.b)/\w.cell? ⟨b,o+4,none⟩=some (.int .i64 x.n)/\
   ∃la ln lc,w.cell? ⟨b,o+5,none⟩=some (.slice la ln lc)/\IL w la ln x.l
theorem LC.kept {w w':World}{b o:Nat}{x:Ln}(h:LC w b o x)(hb:b<w.heap.size)(hB:Below w.heap.size w w'):LC w' b o x:=by obtain⟨c0,c1,c2,c3,c4,la,ln,lc,c5,hi⟩:=h;exact⟨(hB.cell (p:=⟨b,o,none⟩) hb).trans c0,(hB.cell (p:=⟨b,o+1,none⟩) hb).trans c1,(hB.cell (p:=⟨b,o+2,none⟩) hb).trans c2,(hB.cell (p:=⟨b,o+3,none⟩) hb).trans c3,(hB.cell (p:=⟨b,o+4,none⟩) hb).trans c4,la,ln,lc,(hB.cell (p:=⟨b,o+5,none⟩) hb).trans c5,hi.kept hB⟩
def LL (w:World)(a:Option Addr)(len:Nat)(ls:List Ln):Prop:=
 ls.length=len/\len<=maxLen/\(len=0\/∃b off,a=some ⟨b,off,none⟩/\b<w.heap.size/\∀j,j<len->LC w b (off+j*6) (ls.getD j .z))
theorem LL.kept {w w':World}{a:Option Addr}{len:Nat}{ls:List Ln}(h:LL w a len ls)(hB:Below w.heap.size w w'):LL w' a len ls:=by obtain⟨h1,h2,h3|⟨b,off,rfl,hb,hx⟩⟩:=h;{exact⟨h1,h2, .inl h3⟩};exact⟨h1,h2, .inr ⟨b,off,rfl,aj hb hB.size,fun j hj=>(hx j hj).kept hb hB⟩⟩
namespace Ln
theorem lU {m:Nat}{ls:List Ln}{i:Nat}(h:(ls.take i).all (aR m)=true)(hi:i<ls.length):(ls.take (i+1)).all (aR m)=aR m (ls.getD i z):=by rw[List.take_add_one,ai hi,List.all_append,h,ah,ai hi];simp
theorem iY {m:Nat}{ls:List Ln}{i:Nat}(hi:i<ls.length)(h:aR m (ls.getD i z)=false):ls.all (aR m)=false:=by rw[List.all_eq_false];refine⟨ls.getD i z,?_,by rw[h];decide⟩;rw[ah,ai hi];exact List.getElem_mem hi
theorem oD {ls:List Ln}(h:ls.length<1\/300<ls.length):isOk ls=false:=by unfold isOk;rw[decide_eq_false (by omega)];rfl
end Ln
theorem oU (a:Option Addr)(len cap:Nat)(ls:List Ln)(w:World)(hs:LL w a len ls):Calls Try.prog 44 #[.slice a len cap] w fun e w'=>e= .returned (.bool (Ln.isOk ls))/\Below w.heap.size w w':=by have hl:=hs.1;have hm:=hs.2.1;unfold maxLen at hm;by_cases h1:len<1;{rw[Ln.oD (.inl (by omega))];have DV:(len:Int)<1:=by{omega};clear hs hl;go_enter Try.func44,Try.ntmps44;go_wp2;go_ret;exact⟨rfl,Below.refl _ _⟩};by_cases h2:300<len;{rw[Ln.oD (.inr (by omega))];have DV:¬(len:Int)<1:=by{omega};have LH:(300:Int)<(len:Int):=by{omega};clear hs hl;go_enter Try.func44,Try.ntmps44;go_wp2;go_ret;exact⟨rfl,Below.refl _ _⟩};have DV:¬(len:Int)<1:=by{omega};have LH:¬(300:Int)<(len:Int):=by{omega};obtain⟨R,hR⟩:∃R,Ln.isOk ls=R:=⟨_,rfl⟩;rw[hR];have HR:Hid (R=(ls.all (Ln.aR len)&&Ln.fu ls)):=by{show _=_;rw[←hR];unfold Ln.isOk;rw[decide_eq_true (by omega),Bool.true_and,hl]};have HL:=ae hl;obtain⟨-,-,h0|⟨b,off,rfl,hb,hx⟩⟩:=hs;{omega};clear hR hl;go_enter Try.func44,Try.ntmps44;go_wp2;go_loopw [4] (fun i wr=>∃k:Nat,i= .int .i64 k/\k<=len/\Hid ((ls.take k).all (Ln.aR len)=true)/\Below w.heap.size w wr) (fun i _=>len-(intOf i).toNat);(case atStart=>exact⟨0,rfl,Nat.zero_le _,(by show _=_;simp),Below.refl _ _⟩);case round=>obtain⟨i,rfl,hi,HA,hB⟩:=hrel;by_cases hlt:i<len;{have aP:(i:Int)<(len:Int):=by{omega};have hb':b<wr.heap.size:=aj hb hB.size;have hc:=(hx i hlt).kept hb hB;obtain⟨⟨k,d,aa,bb,n,l⟩,qj⟩:∃x,ls.getD i .z=x:=⟨_,rfl⟩;rw[qj]at hc;have HX:=ae qj;obtain⟨c0,c1,c2,c3,c4,la,ln,lc,c5,hil⟩:=id hc;have hcon:=rz ⟨k,d,aa,bb,n,l⟩ la ln lc wr hil;simp only at c0 c1 c2 c3 c4 hil hcon;rcases hok:Ln.ok ⟨k,d,aa,bb,n,l⟩with _|_;{rw[hok]at hcon;have HF:Hid (R=false):=by{show _=_;rw[HR.out,Ln.iY (by rw[HL.out];exact hlt) (by rw[HX.out];simp[Ln.aR,hok])];rfl};clear hx qj hc;go_wp2_with(go_at_call 65;refine hcon.mono ?_;rintro e w2 ⟨rfl,hB2⟩;dsimp only);go_ret;exact⟨by rw[HF.out]<;>rfl,hB.trans (hB2.mono hB.size)⟩};rw[hok]at hcon;have hq:(k=5\/k=6)\/((k==5)=false/\(k==6)=false):=by{by_cases e:k=5;{exact .inl (.inl e)};by_cases e2:k=6;{exact .inl (.inr e2)};exact .inr ⟨by simpa using e,by simpa using e2⟩};rcases hq with hq|⟨q5,q6⟩;{by_cases hn:(len:Int)<=n;{have HF:Hid (R=false):=by{show _=_;rw[HR.out,Ln.iY (by rw[HL.out];exact hlt) (by rw[HX.out];rcases hq with rfl|rfl<;>simp[Ln.aR,hok,hn])];rfl};clear hx qj HX;rcases hq with rfl|rfl;all_goals go_wp2_with(go_at_call 65;refine hcon.mono ?_;rintro e w2 ⟨rfl,hB2⟩;dsimp only;have e0:=(hB2.cell (p:=⟨b,off+i*6,none⟩) hb').trans c0;have e4:=(hB2.cell (p:=⟨b,off+i*6+4,none⟩) hb').trans c4);go_ret;exact⟨by rw[HF.out]<;>rfl,hB.trans (hB2.mono hB.size)⟩};have HA2:Hid ((ls.take (i+1)).all (Ln.aR len)=true):=by{show _=_;rw[Ln.lU HA.out (by rw[HL.out];exact hlt),HX.out];simp[Ln.aR,hok,hn]};clear hx qj HX;rcases hq with rfl|rfl;all_goals go_wp2_with(go_at_call 65;refine hcon.mono ?_;rintro e w2 ⟨rfl,hB2⟩;dsimp only;have e0:=(hB2.cell (p:=⟨b,off+i*6,none⟩) hb').trans c0;have e4:=(hB2.cell (p:=⟨b,off+i*6+4,none⟩) hb').trans c4);go_roundw;(case rel=>exact⟨i+1,by simp,hlt,HA2,hB.trans (hB2.mono hB.size)⟩);case measure=>simp[intOf];omega};have HA2:Hid ((ls.take (i+1)).all (Ln.aR len)=true):=by{show _=_;rw[Ln.lU HA.out (by rw[HL.out];exact hlt),HX.out];have e5:k≠5:=by{simpa using q5};have e6:k≠6:=by{simpa using q6};simp[Ln.aR,hok,e5,e6]};clear hx qj HX;go_wp2_with(go_at_call 65;refine hcon.mono ?_;rintro e w2 ⟨rfl,hB2⟩;dsimp only;have e0:=(hB2.cell (p:=⟨b,off+i*6,none⟩) hb').trans c0);go_roundw;(case rel=>exact⟨i+1,by simp,hlt,HA2,hB.trans (hB2.mono hB.size)⟩);case measure=>simp[intOf];omega};have hie:i=len:=by{omega};have HR2:Hid (R=Ln.fu ls):=by{show _=_;have:=HA.out;rw[hie,←HL.out,List.take_length]at this;rw[HR.out,←HL.out,this,Bool.true_and]};subst hie;have hc:=(hx (i-1) (by omega)).kept hb hB;have hb':b<wr.heap.size:=aj hb hB.size;obtain⟨⟨k,d,aa,bb,n,l⟩,qj⟩:∃x,ls.getD (i-1) .z=x:=⟨_,rfl⟩;rw[qj]at hc;obtain⟨c0,-⟩:=hc;simp only at c0;have HK:Hid (R=(decide (k=5)||decide (k=10)||decide (k=11))):=by{show _=_;rw[HR2.out];unfold Ln.fu;rw[HL.out,qj]};clear hx qj HR HR2 HA;have hi1:0<i:=by{omega};have PM:(i:Int)-1=((i-1:Nat):Int):=by{omega};have hqq:k=5\/k=10\/k=11\/((k==5)=false/\(k==10)=false/\(k==11)=false):=by{by_cases e:k=5;{exact .inl e};by_cases e2:k=10;{exact .inr (.inl e2)};by_cases e3:k=11;{exact .inr (.inr (.inl e3))};exact .inr (.inr (.inr ⟨by simpa using e,by simpa using e2,by simpa using e3⟩))};rcases hqq with rfl|rfl|rfl|⟨q5,sK,xH⟩;{have HF:Hid (R=true):=by{show _=_;rw[HK.out];rfl};go_wp2;go_ret;exact⟨by rw[HF.out]<;>rfl,hB⟩};{have HF:Hid (R=true):=by{show _=_;rw[HK.out];rfl};go_wp2;go_ret;exact⟨by rw[HF.out]<;>rfl,hB⟩};{have HF:Hid (R=true):=by{show _=_;rw[HK.out];rfl};go_wp2;go_ret;exact⟨by rw[HF.out]<;>rfl,hB⟩};have HF:Hid (R=false):=by{show _=_;have e5:k≠5:=by{simpa using q5};have e6:k≠10:=by{simpa using sK};have e7:k≠11:=by{simpa using xH};rw[HK.out];simp[e5,e6,e7]};go_wp2;go_ret;exact⟨by rw[HF.out]<;>rfl,hB⟩
theorem NI.out {xs:List (Int×Int)}{len:Nat}{w w1 w2 wr:World}{gE cE gO cO gS cS k:Nat}{E O:List Int}{S:List Nat}(h:NI xs len w w1 w2 wr gE cE gO cO gS cS k E O S)(hg:(decide (xs.length<=80)&&St.eB xs)=true){r:Bool}(hr:aK.go xs (len+1-k) k E O S=(E,O,r)):aK.isOk xs=r/\(r=true->OI wr w.heap.size (.slice (some ⟨gE,0,none⟩) len cE) (aK.ends xs)/\OI wr w.heap.size (.slice (some ⟨gO,0,none⟩) len cO) (aK.jW xs)):=by have he:=h.eq;rw[hr]at he;have h1:aK.isOk xs=r:=by{rw[aK.isOk,hg,he,Bool.true_and]};refine⟨h1,fun hr=>?_⟩;subst hr;obtain⟨l1,l2⟩:=h.JD;have LA:w.heap.size<=w1.heap.size:=by{have:=(h.rE.lt gE rfl).1;have:=h.eE;omega};have e1:aK.ends xs=E:=by{rw[aK.ends,ax h1,he]};have e2:aK.jW xs=O:=by{rw[aK.jW,ax h1,he]};rw[e1,e2];unfold OI;rw[l1,l2];exact⟨h.rE,OI.mono (v:= .slice (some ⟨gO,0,none⟩) len cO) (xs:=O) (by unfold OI;rw[l2];exact h.rO) LA |> fun q=>by unfold OI at q;rw[l2]at q;exact q⟩
section
open Go.ChangeShapes Go.WideShapes Go.ChangeAt Go.RowKit Go.Shelf Go.Deep
theorem OI.il {W:World}{n₀:Nat}{a:Option Addr}{n c:Nat}{xs:List Int}(h:OI W n₀ (.slice a n c) xs):n=xs.length/\IL W a n xs:=by obtain⟨a',c',e,hil⟩:=h.slice;simp only[Value.slice.injEq]at e;obtain⟨rfl,rfl,rfl⟩:=e;exact⟨rfl,hil⟩
theorem gK {W W':World}(h:W.grownBy W' none):Below W.heap.size W W':=⟨h.os,h.tape,h.output,h.size,fun k hk=>h.block k hk (by simp)⟩
end
structure Still (p:Prop):Prop where
 out:p
def gJ (W:World)(g:Nat)(t:TypeId)(vs:List Value):Prop:=W.heap[g]?=some (.cells vs.toArray t (0,0))
theorem gJ.lt {W:World}{g:Nat}{t:TypeId}{vs:List Value}(h:gJ W g t vs):g<W.heap.size:=(Array.getElem?_eq_some_iff.1 h).1
theorem gJ.cell {W:World}{g:Nat}{t:TypeId}{vs:List Value}(h:gJ W g t vs){j:Nat}{v:Value}(hj:vs[j]?=some v):W.cell? ⟨g,j,none⟩=some v:=by rw[cell_of_row W g j _ t _ h];simpa using hj
theorem gJ.frozen {W:World}{g:Nat}{t:TypeId}{vs:List Value}(h:gJ W g t vs)(j:Nat):W.frozen? ⟨g,j,none⟩=false:=frozen_of_row W g j _ t h
theorem gJ.kept {W W':World}{g:Nat}{t:TypeId}{vs:List Value}(h:gJ W g t vs)(hB:Below W.heap.size W W'):gJ W' g t vs:=(hB.block g h.lt).trans h
theorem gJ.bD {W W':World}{g:Nat}{t:TypeId}{vs:List Value}{row:Option Nat}(h:gJ W g t vs)(hg:W.grownBy W' row)(hne:some g≠row):gJ W' g t vs:=(hg.block g h.lt hne).trans h
theorem gJ.set {W:World}{g:Nat}{t:TypeId}{vs:List Value}(h:gJ W g t vs)(j:Nat)(v:Value):gJ (W.setCell ⟨g,j,none⟩ v) g t (vs.set j v):=by have:=heap_setCell_same W g j vs.toArray t v h;unfold gJ;rw[this];simp
theorem gJ.row {W:World}{g:Nat}{t:TypeId}{vs:List Value}(h:gJ W g t vs)(ws:List Value):gJ (W.setRow g ws.toArray) g t ws:=setRow_heap W g _ _ t _ h
theorem aA {w w1 w2:World}{r:Nat}(h:Below w.heap.size w w1)(hg:w1.grownBy w2 (some r))(hr:w.heap.size<=r):Below w.heap.size w w2:=
 ⟨hg.os.trans h.os,hg.tape.trans h.tape,hg.output.trans h.output,Nat.le_trans h.size hg.size,fun k hk=>(hg.block k (aj hk h.size) (by simp only[ne_eq,af];omega)).trans (h.block k hk)⟩
section
variable {P : Program}
theorem qx {ops:Array Oper}{rest:List Oper}{o:Oper}{a:Act}{w:World}{Q:Exit->Act->World->Prop}(hgd:o.guard=none)(t:TypeId)(x:Operand)(ho:o.op= .box t x)(zs:List Value)(hx:a.eval x= .agg zs.toArray)(h:∀g w',Hid (g=w.heap.size)->gJ w' g t zs->Below w.heap.size w w'->wpList P ops Q rest (a.put o.dst (.pointer (some ⟨g,0,none⟩))) w'):wpList P ops Q (o::rest) a w:=by refine wpList_plain hgd fun K hK=>?_;unfold Oper.wp execOp;simp only[ho,hx,Instr.box,Sem.run_bind];simp[newVar,Value.cells];exact hK _ _ (h w.heap.size (w.alloc (.cells zs.toArray t)) rfl (heap_alloc_last w _) (Below.alloc (Below.refl _ _) (Nat.le_refl _) _))
theorem zx {ops:Array Oper}{rest:List Oper}{o:Oper}{a:Act}{w:World}{Q:Exit->Act->World->Prop}(t:TypeId)(x:Operand)(ho:o.op= .box t x)(h:Still (wpList P ops Q (o::rest) a w)):wpList P ops Q (o::rest) a w:=h.out
theorem tq {ops:Array Oper}{rest:List Oper}{o:Oper}{a:Act}{w:World}{Q:Exit->Act->World->Prop}(t:TypeId)(ps:Array (Nat×Operand))(ho:o.op= .build t ps)(h:Still (wpList P ops Q (o::rest) a w)):wpList P ops Q (o::rest) a w:=h.out
variable {C : World → Prop}
end
structure Fn where
 a:Int
 l:Int
 g:Int
 b:List (Int×Int)
namespace Fn
def z:Fn:=⟨0,0,0,[]⟩
end Fn
namespace Md
def E8 (f:Fn):Bool:=Wd.aQ f.a 0 3&&(Wd.aQ f.l 0 3&&(Wd.aQ f.g 0 1&&(decide (f.b.length<=80)&&St.eB f.b)))
def eB (fs:List Fn):Bool:=fs.all E8
def ok (fs:List Fn)(d:ByteArray):Bool:=(Wd.aQ fs.length 1 4&&decide (d.size<=64))&&eB fs
def sum:List Fn->Nat
 |[]=>0
 |f::fs=>f.b.length+sum fs
theorem cK {fs:List Fn}(h:eB fs=true){j:Nat}(hj:j<fs.length):E8 (fs.getD j .z)=true:=by rw[ah,ai hj];simp only[eB,List.all_eq_true]at h;exact h _ (List.getElem_mem hj)
theorem uf {fs:List Fn}(h:eB fs=true):sum fs<=80*fs.length:=by
 induction fs with
 |nil=>simp[sum]
 |cons x xs ih=>
  simp only[eB,List.all_cons,au]at h
  have:=ih h.2
  have h1:=h.1
  simp only[E8,au,decide_eq_true_eq]at h1
  simp only[sum,List.length_cons]
  omega
end Md
def FL (w:World)(a:Option Addr)(len:Nat)(fs:List Fn):Prop:=
 fs.length=len/\len<=maxLen/\(len=0\/∃b off,a=some ⟨b,off,none⟩/\b<w.heap.size/\
   ∀ j,j<len->w.cell? ⟨b,off+j*4,none⟩=some (.int .i64 (fs.getD j .z).a)/\w.cell? ⟨b,off+j*4+1,none⟩=some (.int .i64 (fs.getD j .z).l)/\w.cell? ⟨b,off+j*4+2,none⟩=some (.int .i64 (fs.getD j .z).g)/\
     ∃ba bl bc,w.cell? ⟨b,off+j*4+3,none⟩=some (.slice ba bl bc)/\SL w ba bl (fs.getD j .z).b)
theorem FL.kept {w w':World}{a:Option Addr}{len:Nat}{fs:List Fn}(h:FL w a len fs)(hB:Below w.heap.size w w'):FL w' a len fs:=by obtain⟨h1,h2,h3|⟨b,off,rfl,hb,hx⟩⟩:=h;{exact⟨h1,h2, .inl h3⟩};refine⟨h1,h2, .inr ⟨b,off,rfl,aj hb hB.size,fun j hj=>?_⟩⟩;obtain⟨c0,c1,c2,ba,bl,bc,c3,hs⟩:=hx j hj;exact⟨(hB.cell (p:=⟨b,off+j*4,none⟩) hb).trans c0,(hB.cell (p:=⟨b,off+j*4+1,none⟩) hb).trans c1,(hB.cell (p:=⟨b,off+j*4+2,none⟩) hb).trans c2,ba,bl,bc,(hB.cell (p:=⟨b,off+j*4+3,none⟩) hb).trans c3,hs.kept hB⟩
end Go.Proofs.Ythamlonlgnjljaa
