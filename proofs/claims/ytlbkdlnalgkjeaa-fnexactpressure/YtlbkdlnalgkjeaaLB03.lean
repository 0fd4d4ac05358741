/-
  Own texts for a law: Step2 Leb1 Leb2 Step3 Step4 Quiet Step7 Ints1 Lin1
-/
import Derived.Test.YtlbkdlnalgkjeaaLB02
import Derived.RangeFuncBox
import Derived.RangeFuncNested
import Derived.RangeFuncBound
import Derived.RangeFuncCalls
import Derived.RangeFuncLeaves
import Derived.Shelf.Abstract
import Derived.Shelf.RegionOpen
import Derived.OwnWalkIn
import Derived.TacticsInMore
import Derived.LoopNIn
import Derived.LoopIn
import Derived.Maps.AppendAt
import Derived.Laws.BytesString
import Derived.Laws.IdiomStrings
import Derived.Laws.BytesArg
import Derived.Deep.QuietTactic
import Derived.Deep.Draws
import Derived.Laws.OwnMore
import Derived.BigQuiet
namespace Go.Proofs.Ytlbkdlnalgkjeaa
open Go.RowKit Go.Shelf
set_option linter.all false
set_option maxRecDepth 100000
set_option maxHeartbeats 16000000
section
open Go.RowKit
theorem jZ (w:World)(a b c:Obj):Below w.heap.size w (((w.alloc a).alloc b).alloc c):=
 (((Below.refl _ w).alloc (Nat.le_refl _) _).alloc (by simp) _).alloc (by simp;omega) _
end
section
attribute [local go_sem] Oper.semAt_some

end
section
attribute [local go_sem] Oper.semAt_some
end
namespace St
def bV (xs:List (Int×Int)):Bool:=xs.all fun x=>ok x.1 x.2
theorem bi {op a:Int}(h:ok op a=true):1<=op/\op<=20:=by rw[ok,au]at h;exact Wd.bL.1 h.1
end St
def SL (w:World)(a:Option Addr)(len:Nat)(xs:List (Int×Int)):Prop:=
 xs.length=len/\len<=maxLen/\(len=0\/∃b off,a=some ⟨b,off,none⟩/\b<w.heap.size/\
   ∀j,j<len->w.cell? ⟨b,off+j*2,none⟩=some (.int .i64 (xs.getD j (0,0)).1)/\w.cell? ⟨b,off+j*2+1,none⟩=some (.int .i64 (xs.getD j (0,0)).2))
theorem SL.kept {w w':World}{a:Option Addr}{len:Nat}{xs:List (Int×Int)}(h:SL w a len xs)(hB:Below w.heap.size w w'):SL w' a len xs:=by obtain⟨h1,h2,h3|⟨b,off,rfl,hb,hx⟩⟩:=h;{exact⟨h1,h2, .inl h3⟩};refine⟨h1,h2, .inr ⟨b,off,rfl,aj hb hB.size,fun j hj=>?_⟩⟩;exact⟨(hB.cell (p:=⟨b,off+j*2,none⟩) hb).trans (hx j hj).1,(hB.cell (p:=⟨b,off+j*2+1,none⟩) hb).trans (hx j hj).2⟩
namespace St
theorem bG {xs:List (Int×Int)}(h:bV xs=true){j:Nat}(hj:j<xs.length):ok (xs.getD j (0,0)).1 (xs.getD j (0,0)).2=true:=by rw[ah,ai hj];simp only[bV,List.all_eq_true]at h;exact h _ (List.getElem_mem hj)
end St
section
open Go.RowKit
def bF (w:World):Type:={to:World // Below w.heap.size w to}
def bF.to {w:World}(p:bF w):World:=p.1
theorem bF.h {w:World}(p:bF w):Below w.heap.size w p.to:=p.2
theorem bF.any (w:World):Nonempty (bF w):=⟨⟨w,Below.refl _ _⟩⟩
theorem aT {P:Program}{id:Nat}{Q:Exit->Act->World->Prop}{a:Act}{w:World}{l:List Oper}(hm:P.follows .mixedOrders=true)(hB:Region.lexB .any l.toArray=true)
   (h:wpQuiet P l.toArray (fun w'=>∃p:bF w,w'=p.to) (fun a'=>∀w',(∃p:bF w,w'=p.to)->Q .normal a' w') l a):(Code.region id l.toArray true).wp P Q a w:=
 wp_region_quiet (C:=fun w'=>∃p:bF w,w'=p.to) hm hB ⟨⟨w.drew,(Below.refl _ w).drew⟩,rfl⟩ (by simpa using h)
theorem aS {P:Program}{f:FuncId}{args:Array Value}{w:World}{p:bF w}{v:Value}
   (h:Calls P f args p.to fun e w'=>e= .returned v/\Below p.to.heap.size p.to w'):Calls P f args p.to fun e w''=>e= .returned v/\∃p:bF w,w''=p.to:=
 h.mono fun _ w' ⟨he,hb⟩=>⟨he,⟨w',p.h.trans (hb.mono p.h.size)⟩,rfl⟩
end
theorem aA (W:World)(p:Addr)(v:Value):W.grownBy (W.setCell p v) (some p.block):=
 ⟨rfl,rfl,rfl,by simp[World.setCell],fun i _ hne=>Below.heap_setCell _ _ _ _ (fun e=>hne (by rw[e]))⟩
theorem aJ {a b c:World}{row:Option Nat}(h:a.grownBy b row)(k:b.grownBy c row):a.grownBy c row:=
 ⟨k.os.trans h.os,k.tape.trans h.tape,k.output.trans h.output,Nat.le_trans h.size k.size,fun i hi hn=>(k.block i (aj hi h.size) hn).trans (h.block i hi hn)⟩
def iv (x:Int):Value:= .int .i64 x
def IL (w:World)(a:Option Addr)(len:Nat)(xs:List Int):Prop:=
 xs.length=len/\len<=maxLen/\(len=0\/∃b off,a=some ⟨b,off,none⟩/\b<w.heap.size/\∀j,j<len->w.cell? ⟨b,off+j,none⟩=some (.int .i64 (xs.getD j 0)))
theorem IL.kept {w w':World}{a:Option Addr}{len:Nat}{xs:List Int}(h:IL w a len xs)(hB:Below w.heap.size w w'):IL w' a len xs:=by obtain⟨h1,h2,h3|⟨b,off,rfl,hb,hx⟩⟩:=h;{exact⟨h1,h2, .inl h3⟩};exact⟨h1,h2, .inr ⟨b,off,rfl,aj hb hB.size,fun j hj=>(hB.cell (p:=⟨b,off+j,none⟩) hb).trans (hx j hj)⟩⟩
def OI (W:World)(n₀:Nat)(v:Value)(xs:List Int):Prop:=W.ownsRow n₀ 2 1 v xs.length (xs.map iv)
theorem OI.slice {W:World}{n₀:Nat}{v:Value}{xs:List Int}(h:OI W n₀ v xs):∃a cap,v= .slice a xs.length cap/\IL W a xs.length xs:=by rcases h.2 with⟨rfl,h0⟩|⟨g,cap,cur,rfl,hb,hc,hn,hm,hs,ht⟩;{exact⟨none,0,by rw[h0],rfl,by rw[h0];exact Nat.zero_le _, .inl h0⟩};refine⟨_,cap,rfl,rfl,Nat.le_trans hn hm, .inr ⟨g,0,rfl,(h.lt g rfl).2,fun j hj=>?_⟩⟩;have:=h.cellAt j (by omega);rw[Nat.zero_add,this,List.getElem?_map,ai hj,ah,ai hj];rfl
theorem OI.kept {W W':World}{n₀:Nat}{v:Value}{xs:List Int}(h:OI W n₀ v xs)(hB:Below W.heap.size W W'):OI W' n₀ v xs:=by refine World.ownsRow.kept (row:=none) h ⟨hB.os,hB.tape,hB.output,hB.size,fun k hk _=>hB.block k hk⟩ ?_;rcases hv:v.ownBlock with _|b;{exact .inl rfl};exact .inr (by simp)
theorem OI.bM {W W':World}{n₀ b:Nat}{v:Value}{xs:List Int}(h:OI W n₀ v xs)(hg:W.grownBy W' (some b))(hne:∀g,v.ownBlock=some g->g≠b):OI W' n₀ v xs:=by refine World.ownsRow.kept h hg ?_;rcases hv:v.ownBlock with _|b';{exact .inl rfl};refine .inr ?_;have:=hne b' hv;simp only[ne_eq,af];omega
theorem OI.mono {W:World}{n₀ n₁:Nat}{v:Value}{xs:List Int}(h:OI W n₁ v xs)(hn:n₀<=n₁):OI W n₀ v xs:=by refine⟨h.1,?_⟩;rcases h.2 with h'|⟨g',cap',cur,h',hb,r⟩;{exact .inl h'};exact .inr ⟨g',cap',cur,h',Nat.le_trans hn hb,r⟩
theorem OI.nil (W:World)(n₀:Nat):OI W n₀ (.slice none 0 0) []:=⟨rfl, .inl ⟨rfl,rfl⟩⟩
theorem OI.empty (W:World):OI (W.alloc (.cells #[] 2)) W.heap.size (.slice (some ⟨W.heap.size,0,none⟩) 0 0) []:=
 ⟨rfl, .inr ⟨W.heap.size,0,#[],rfl,Nat.le_refl _,World.alloc_heap_new W _,Nat.le_refl _,Nat.zero_le _,rfl,rfl⟩⟩
theorem fH:(Try.prog.info? 2).map (fun i=>(i.zero,i.size,i.bytes))=some (some (.int .i64 0),1,8):=by kernel_rfl
theorem jo (a b:Option Addr)(len cap cap':Nat)(xs:List Int)(w:World)(hs:IL w a len xs)(hs':IL w b len xs):Calls Try.prog 45 #[.slice a len cap, .slice b len cap'] w fun e w'=>e= .returned (.bool true)/\Below w.heap.size w w':=by obtain⟨hl,hm,hrow⟩:=hs;obtain⟨-,-,hrow'⟩:=hs';clear hl;unfold maxLen at hm;go_enter Try.func45,Try.ntmps45;go_wp2;go_loopw [5] (fun i wr=>∃k:Nat,i= .int .i64 k/\k<=len/\Below w.heap.size w wr) (fun i _=>len-(intOf i).toNat);(case atStart=>exact⟨0,rfl,Nat.zero_le _,Below.refl _ _⟩);case round=>obtain⟨k,rfl,hk,hB⟩:=hrel;by_cases hlt:k<len;{rcases hrow with h0|⟨b1,fe,rfl,hb1,hx1⟩;{omega};rcases hrow' with h0|⟨b2,fq,rfl,hb2,hx2⟩;{omega};obtain⟨p,hpq⟩:∃x,xs.getD k 0=x:=⟨_,rfl⟩;have hx3:=hx1 k hlt;have hx4:=hx2 k hlt;rw[hpq]at hx3 hx4;have hc1:∀wx:bF wr,wx.to.cell? ⟨b1,fe+k,none⟩=some (.int .i64 p):=fun wx=>((hB.trans (wx.h.mono hB.size)).cell (p:=⟨b1,fe+k,none⟩) hb1).trans hx3;have hc3:∀wx:bF wr,wx.to.cell? ⟨b2,fq+k,none⟩=some (.int .i64 p):=fun wx=>((hB.trans (wx.h.mono hB.size)).cell (p:=⟨b2,fq+k,none⟩) hb2).trans hx4;have hne:=bF.any wr;clear hx1 hx2 hx3 hx4 hpq;go_wp2;refine aT (by kernel_rfl) (by kernel_rfl) ?_;(repeat(go_big_quiet_step (fail)));refine wpQuiet_nil ?_;rintro _ ⟨pw,rfl⟩;have ww:=hB.trans (pw.h.mono hB.size);generalize pw.to=w7 at*;go_wp2;go_roundw;(case rel=>exact⟨k+1,by simp,by omega,ww⟩);case measure=>simp[intOf];omega};clear hrow hrow';go_wp2;go_ret;exact⟨rfl,hB⟩
theorem bn (xs:List Int)(k:Nat)(x:Int):(xs.set k x).map iv=(xs.map iv).set k (.int .i64 x):=by rw[List.map_set];rfl
theorem qz (a c:Int):((a==c)=false/\¬a=c)\/c=a:=by by_cases h:a=c;{exact .inr h.symm};exact .inl ⟨by simpa using h,h⟩
theorem kz (k:Int):1=k\/2=k\/4=k\/3=k\/5=k\/6=k\/8=k\/9=k\/10=k\/11=k\/((k==1)=false/\¬k=1)/\((k==2)=false/\¬k=2)/\((k==4)=false/\¬k=4)/\((k==3)=false/\¬k=3)/\((k==5)=false/\¬k=5)/\((k==6)=false/\¬k=6)/\((k==8)=false/\¬k=8)/\((k==9)=false/\¬k=9)/\((k==10)=false/\¬k=10)/\((k==11)=false/\¬k=11):=by simp only[beq_eq_false_iff_ne,ne_eq];omega
theorem bq (b:Int)(w:World):Calls Try.prog 47 #[.int .i64 b] w fun e w'=>e= .returned (.bool (Wd.aK b 0 39))/\w'=w:=by go_enter Try.func47,Try.ntmps47;go_wp2_with(go_at_call 46;refine(bu _ _ _ _).mono ?_;rintro e w' ⟨rfl,aY⟩;subst w');go_ret;exact⟨rfl,rfl⟩
namespace Ln
theorem xW {k d a b n:Int}{l:List Int}(h:k≠7)(hl:0<l.length):ok ⟨k,d,a,b,n,l⟩=false:=by simp[ok,h,hl]
theorem yF {k d a b n:Int}{l:List Int}(hl:l.length=0):ok ⟨k,d,a,b,n,l⟩=(asks k d a b n l).all id:=by simp[ok,hl]
theorem rR {d a b n:Int}{l:List Int}:ok ⟨7,d,a,b,n,l⟩=(asks 7 d a b n l).all id:=by simp[ok]
end Ln
theorem jV (k d a b n:Int)(l:List Int)(la:Option Addr)(ln lc:Nat)(w:World)(hln:l.length=ln)(hl0:ln=0)(k7:(k==7)=false)(j7:¬k=7):Calls Try.prog 33 #[.agg #[.int .i64 k, .int .i64 d, .int .i64 a, .int .i64 b, .int .i64 n, .slice la ln lc]] w fun e w'=>e= .returned (.bool (Ln.ok ⟨k,d,a,b,n,l⟩))/\Below w.heap.size w w':=by subst hl0;have hB:=ay w (.cells #[.int .i64 k, .int .i64 d, .int .i64 a, .int .i64 b, .int .i64 n, .slice la 0 lc] 45);rw[Ln.yF hln];clear hln;rcases kz k with rfl|rfl|rfl|rfl|rfl|rfl|rfl|rfl|rfl|rfl|⟨⟨k1,j1⟩,⟨k2,j2⟩,⟨k4,j4⟩,⟨k3,j3⟩,⟨k5,j5⟩,⟨k6,j6⟩,⟨k8,j8⟩,⟨k9,j9⟩,⟨k10,j10⟩,⟨k11,j11⟩⟩;rcases h0:Wd.aK d 0 39 with _|_;rotate_left;rcases h1:Wd.ok n with _|_;rotate_left;rcases qz a 0 with⟨h2,g2⟩|rfl;rotate_left;rcases qz b 0 with⟨h3,g3⟩|rfl;rotate_left;rotate_left;rcases h0:Wd.aK d 0 39 with _|_;rotate_left;rcases h1:Wd.aK a 0 39 with _|_;rotate_left;rcases qz b 0 with⟨h2,g2⟩|rfl;rotate_left;rcases qz n 0 with⟨h3,g3⟩|rfl;rotate_left;rotate_left;rcases h0:Wd.aK d 0 39 with _|_;rotate_left;rcases h1:Wd.aK a 0 39 with _|_;rotate_left;rcases qz b 0 with⟨h2,g2⟩|rfl;rotate_left;rcases qz n 0 with⟨h3,g3⟩|rfl;rotate_left;rotate_left;rcases h0:Wd.aK d 0 39 with _|_;rotate_left;rcases h1:Wd.aK a 0 39 with _|_;rotate_left;rcases h2:Wd.aK b 0 39 with _|_;rotate_left;rcases h3:Wd.aK n 1 12 with _|_;rotate_left;rotate_left;rcases h0:Wd.aK n 0 299 with _|_;rotate_left;rcases qz d 0 with⟨h1,g1⟩|rfl;rotate_left;rcases qz a 0 with⟨h2,g2⟩|rfl;rotate_left;rcases qz b 0 with⟨h3,g3⟩|rfl;rotate_left;rotate_left;rcases h0:Wd.aK n 0 299 with _|_;rotate_left;rcases h1:Wd.aK a 0 39 with _|_;rotate_left;rcases qz d 0 with⟨h2,g2⟩|rfl;rotate_left;rcases qz b 0 with⟨h3,g3⟩|rfl;rotate_left;rotate_left;rcases h0:Wd.aK d 0 39 with _|_;rotate_left;rcases h1:Wd.aK a 0 39 with _|_;rotate_left;rcases qz b 0 with⟨h2,g2⟩|rfl;rotate_left;rcases h3:Wd.aK n 0 255 with _|_;rotate_left;rotate_left;rcases qz d 0 with⟨h0,g0⟩|rfl;rotate_left;rcases h1:Wd.aK a 0 39 with _|_;rotate_left;rcases h2:Wd.aK b 0 39 with _|_;rotate_left;rcases h3:Wd.aK n 0 255 with _|_;rotate_left;rotate_left;rcases h0:Wd.aK a 0 39 with _|_;rotate_left;rcases qz d 0 with⟨h1,g1⟩|rfl;rotate_left;rcases qz b 0 with⟨h2,g2⟩|rfl;rotate_left;rcases qz n 0 with⟨h3,g3⟩|rfl;rotate_left;rotate_left;rcases qz d 0 with⟨h0,g0⟩|rfl;rotate_left;rcases qz a 0 with⟨h1,g1⟩|rfl;rotate_left;rcases qz b 0 with⟨h2,g2⟩|rfl;rotate_left;rcases qz n 0 with⟨h3,g3⟩|rfl;rotate_left;rotate_left;all_goals as_aux_lemma=>go_enter Try.func33,Try.ntmps33;go_wp2_with(first|(go_at_call 46;refine(bu _ _ _ _).mono ?_;rintro e w' ⟨rfl,aY⟩;subst w')|(go_at_call 47;refine(bq _ _).mono ?_;rintro e w' ⟨rfl,aY⟩;subst w')|(go_at_call 48;refine(aW _ _).mono ?_;rintro e w' ⟨rfl,aY⟩;subst w'));go_ret;exact⟨by simp[*,Ln.asks,Ln.bx,Ln.q0],hB⟩
theorem jX (k d a b n:Int)(l:List Int)(la:Option Addr)(ln lc:Nat)(w:World)(hln:l.length=ln)(hl0:0<ln)(h7:k≠7):Calls Try.prog 33 #[.agg #[.int .i64 k, .int .i64 d, .int .i64 a, .int .i64 b, .int .i64 n, .slice la ln lc]] w fun e w'=>e= .returned (.bool (Ln.ok ⟨k,d,a,b,n,l⟩))/\Below w.heap.size w w':=by have hB:=ay w (.cells #[.int .i64 k, .int .i64 d, .int .i64 a, .int .i64 b, .int .i64 n, .slice la ln lc] 45);rw[Ln.xW h7 (by omega)];have EC:(k==7)=false:=by{simpa using h7};have ED:¬(k=7):=h7;have Dr:(0:Int)<(ln:Int):=by{omega};clear hln;go_enter Try.func33,Try.ntmps33;go_wp2_with(first|(go_at_call 46;refine(bu _ _ _ _).mono ?_;rintro e w' ⟨rfl,aY⟩;subst w')|(go_at_call 47;refine(bq _ _).mono ?_;rintro e w' ⟨rfl,aY⟩;subst w')|(go_at_call 48;refine(aW _ _).mono ?_;rintro e w' ⟨rfl,aY⟩;subst w'));go_ret;exact⟨rfl,hB⟩
theorem pV {l:List Int}{i:Nat}(h:(l.take i).all Ln.bx=true)(hi:i<l.length):(l.take (i+1)).all Ln.bx=Ln.bx (l.getD i 0):=by rw[List.take_add_one,ai hi,List.all_append,h,ah,ai hi];simp
theorem sN {l:List Int}{i:Nat}(hi:i<l.length)(h:Ln.bx (l.getD i 0)=false):l.all Ln.bx=false:=by rw[List.all_eq_false];refine⟨l.getD i 0,?_,by rw[h];decide⟩;rw[ah,ai hi];exact List.getElem_mem hi
theorem kS (d a b n:Int)(l:List Int)(la:Option Addr)(ln lc:Nat)(w:World)(hs:IL w la ln l):Calls Try.prog 33 #[.agg #[.int .i64 7, .int .i64 d, .int .i64 a, .int .i64 b, .int .i64 n, .slice la ln lc]] w fun e w'=>e= .returned (.bool (Ln.ok ⟨7,d,a,b,n,l⟩))/\Below w.heap.size w w':=by have hB:=ay w (.cells #[.int .i64 7, .int .i64 d, .int .i64 a, .int .i64 b, .int .i64 n, .slice la ln lc] 45);obtain⟨hl,hm,hrow⟩:=hs.kept hB;rw[Ln.rR];have HL:=ae hl;clear hl;unfold maxLen at hm;obtain⟨R,hR⟩:∃R,(Ln.asks 7 d a b n l).all id=R:=⟨_,rfl⟩;rw[hR];have HR:Hid (R=(l.all Ln.bx&&(decide (ln<=3)&&(Wd.aK d 0 39&&(decide (a=0)&&(decide (b=0)&&Wd.aK n 0 3)))))):=by{show _=_;rw[←hR,←HL.out];simp[Ln.asks,Ln.bx,Ln.q0]};clear hR;go_enter Try.func33,Try.ntmps33;go_wp2_with(first|(go_at_call 46;refine(bu _ _ _ _).mono ?_;rintro e w' ⟨rfl,aY⟩;subst w')|(go_at_call 47;refine(bq _ _).mono ?_;rintro e w' ⟨rfl,aY⟩;subst w')|(go_at_call 48;refine(aW _ _).mono ?_;rintro e w' ⟨rfl,aY⟩;subst w'));go_loopw [4] (fun i wr=>∃k:Nat,i= .int .i64 k/\k<=ln/\Hid ((l.take k).all Ln.bx=true)/\wr=w.alloc (.cells #[.int .i64 7, .int .i64 d, .int .i64 a, .int .i64 b, .int .i64 n, .slice la ln lc] 45)) (fun i _=>ln-(intOf i).toNat);(case atStart=>exact⟨0,rfl,Nat.zero_le _,(by show _=_;simp),rfl⟩);case round=>obtain⟨i,rfl,hi,HA,rfl⟩:=hrel;by_cases hlt:i<ln;{have aX:(i:Int)<(ln:Int):=by{omega};rcases hrow with h0|⟨lb,lo,rfl,hlb,hx⟩;{omega};obtain⟨y,hy⟩:∃y,l.getD i 0=y:=⟨_,rfl⟩;have hx3:=hx i hlt;rw[hy]at hx3;rcases hb:Wd.aK y 0 39 with _|_;{have HF:Hid (R=false):=by{show _=_;rw[HR.out,sN (by rw[HL.out];exact hlt) (by rw[hy];exact hb)];rfl};clear hx hy;go_wp2_with(first|(go_at_call 46;refine(bu _ _ _ _).mono ?_;rintro e w' ⟨rfl,aY⟩;subst w')|(go_at_call 47;refine(bq _ _).mono ?_;rintro e w' ⟨rfl,aY⟩;subst w')|(go_at_call 48;refine(aW _ _).mono ?_;rintro e w' ⟨rfl,aY⟩;subst w'));go_ret;exact⟨by rw[HF.out]<;>rfl,hB⟩};have HA2:Hid ((l.take (i+1)).all Ln.bx=true):=by{show _=_;rw[pV HA.out (by rw[HL.out];exact hlt),hy];exact hb};clear hx hy;go_wp2_with(first|(go_at_call 46;refine(bu _ _ _ _).mono ?_;rintro e w' ⟨rfl,aY⟩;subst w')|(go_at_call 47;refine(bq _ _).mono ?_;rintro e w' ⟨rfl,aY⟩;subst w')|(go_at_call 48;refine(aW _ _).mono ?_;rintro e w' ⟨rfl,aY⟩;subst w'));go_roundw;(case rel=>exact⟨i+1,by simp,hlt,HA2,by simp⟩);case measure=>simp[intOf];omega};have hie:i=ln:=by{omega};have HA2:Hid (l.all Ln.bx=true):=by{show _=_;have:=HA.out;rwa [hie,←HL.out,List.take_length]at this};clear hrow HA;subst hie;have aX:¬(i:Int)<(i:Int):=by{omega};rcases h3:decide (i<=3)with _|_;{have h3':¬((i:Int)<=3):=by{simp only[decide_eq_false_iff_not]at h3;omega};have HF:Hid (R=false):=by{show _=_;rw[HR.out,HA2.out,h3];rfl};go_wp2_with(first|(go_at_call 46;refine(bu _ _ _ _).mono ?_;rintro e w' ⟨rfl,aY⟩;subst w')|(go_at_call 47;refine(bq _ _).mono ?_;rintro e w' ⟨rfl,aY⟩;subst w')|(go_at_call 48;refine(aW _ _).mono ?_;rintro e w' ⟨rfl,aY⟩;subst w'));go_ret;exact⟨by rw[HF.out]<;>rfl,hB⟩};have h3':(i:Int)<=3:=by{simp only[decide_eq_true_eq]at h3;omega};have HR2:Hid (R=(Wd.aK d 0 39&&(decide (a=0)&&(decide (b=0)&&Wd.aK n 0 3)))):=by{show _=_;rw[HR.out,HA2.out,h3,Bool.true_and,Bool.true_and]};clear HR HA2 h3;rcases h0:Wd.aK d 0 39 with _|_;rotate_left;rcases qz a 0 with⟨h1,g1⟩|rfl;rotate_left;rcases qz b 0 with⟨h2,g2⟩|rfl;rotate_left;rcases h3:Wd.aK n 0 3 with _|_;rotate_left;all_goals go_wp2_with(first|(go_at_call 46;refine(bu _ _ _ _).mono ?_;rintro e w' ⟨rfl,aY⟩;subst w')|(go_at_call 47;refine(bq _ _).mono ?_;rintro e w' ⟨rfl,aY⟩;subst w')|(go_at_call 48;refine(aW _ _).mono ?_;rintro e w' ⟨rfl,aY⟩;subst w'));go_ret;exact⟨by rw[HR2.out];simp[*],hB⟩
theorem lu (x:Ln)(la:Option Addr)(ln lc:Nat)(w:World)(hs:IL w la ln x.l):Calls Try.prog 33 #[.agg #[.int .i64 x.k, .int .i64 x.d, .int .i64 x.a, .int .i64 x.b, .int .i64 x.n, .slice la ln lc]] w fun e w'=>e= .returned (.bool (Ln.ok x))/\Below w.heap.size w w':=by obtain⟨k,d,a,b,n,l⟩:=x;simp only at hs ⊢;by_cases h7:k=7;{subst h7;exact kS d a b n l la ln lc w hs};have hl:=hs.1;by_cases hl0:0<ln;{exact jX k d a b n l la ln lc w hl hl0 h7};have hl0:ln=0:=by{omega};exact jV k d a b n l la ln lc w hl hl0 (by simpa using h7) h7
end Go.Proofs.Ytlbkdlnalgkjeaa
