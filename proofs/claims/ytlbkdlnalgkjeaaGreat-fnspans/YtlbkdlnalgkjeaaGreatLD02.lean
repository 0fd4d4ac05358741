/-
  Own texts for a law: StepD1 StepD2 Nest0 Quiet Step6 Step7 Ints1 Step2o Nest1 Nest2 RowsB BoxL
-/
import Derived.Test.YtlbkdlnalgkjeaaGreatLD01
import Derived.Laws.OwnMore
namespace Go.Proofs.YtlbkdlnalgkjeaaGreat
open Go.RowKit Go.Shelf
set_option linter.all false
set_option maxRecDepth 100000
set_option maxHeartbeats 16000000
theorem vJ {w1 w2:World}{B r:Nat}{a:Option Addr}{len cap:Nat}{zs:List Int}(hd:aN w1 w2 B a len cap zs)(hr:r<w1.heap.size)(hne:r≠B)(o:Nat):
   w2.cell? ⟨r,o,none⟩=w1.cell? ⟨r,o,none⟩/\w2.frozen? ⟨r,o,none⟩=w1.frozen? ⟨r,o,none⟩:=
 ⟨World.grownBy.cell_far hd.2 ⟨r,o,none⟩ hr (by simpa using hne),World.grownBy.frozen_far hd.2 ⟨r,o,none⟩ hr (by simpa using hne)⟩
theorem aN.put {w w1:World}{B:Nat}{a:Option Addr}{len cap:Nat}{zs:List Int}(h:aN w w1 B a len cap zs)(hB:B<w.heap.size)(p:Addr)(hp:w.heap.size<=p.block)(v:Value):aN w (w1.setCell p v) B a len cap zs:=
 h.fresh hB (jF w1 p v) hp
theorem aN.xM {w w1:World}{B:Nat}{a:Option Addr}{len cap:Nat}{zs:List Int}{o:Obj}(hc:fZ w B a len cap zs)(h:aN (w.alloc o) w1 B a len cap zs):aN w w1 B a len cap zs:=
 (aN.alloc (aN.refl hc) o).andThen h
def EZ (w:World)(R:Nat)(x y:Value):Prop:=
 R<w.heap.size/\w.cell? ⟨R,0,none⟩=some x/\w.cell? ⟨R,1,none⟩=some y/\w.frozen? ⟨R,0,none⟩=false/\w.frozen? ⟨R,1,none⟩=false
theorem EZ.new (w:World)(x y:Value)(t:TypeId):EZ (w.alloc (.cells #[x,y] t)) w.heap.size x y:=
 ⟨by simp,by go_simp,by go_simp,by go_simp,by go_simp⟩
theorem EZ.alloc {w:World}{R:Nat}{x y:Value}(h:EZ w R x y)(o:Obj):EZ (w.alloc o) R x y:=by obtain⟨h0,h1,h2,h3,h4⟩:=h;have hb:=Below.heap_alloc w o R h0;exact⟨by simp;omega,(World.cell?_of_block (a:=⟨R,0,none⟩) hb).trans h1,(World.cell?_of_block (a:=⟨R,1,none⟩) hb).trans h2,(World.frozen?_of_block (a:=⟨R,0,none⟩) hb).trans h3,(World.frozen?_of_block (a:=⟨R,1,none⟩) hb).trans h4⟩
theorem EZ.drawn {w w':World}{B R:Nat}{a:Option Addr}{len cap:Nat}{zs:List Int}{x y:Value}(h:EZ w R x y)(hd:aN w w' B a len cap zs)(hne:R≠B):EZ w' R x y:=by obtain⟨h0,h1,h2,h3,h4⟩:=h;obtain⟨a0,b0⟩:=vJ hd h0 hne 0;obtain⟨a1,b1⟩:=vJ hd h0 hne 1;exact⟨aj h0 hd.2.size,a0.trans h1,a1.trans h2,b0.trans h3,b1.trans h4⟩
namespace aG
def op (xs:List (Int×Int))(i:Nat):Int:=(xs.getD i (0,0)).1
def close (E O:List Int)(t i:Nat):List Int:=if 0<=O.getD t (-1)then(E.set t i).set (O.getD t (-1)).toNat i else E.set t i
def go (xs:List (Int×Int)):Nat->Nat->List Int->List Int->List Nat->List Int×List Int×Bool
 |0,_,E,O,_=>(E,O,false)
 | f +1,i,E,O,S=>
   if xs.length<=i then(E,O,false)else
   if St.opens (op xs i)=true then go xs f (i+1) E O (i::S)else
   if op xs i=11 then
     match S with
     |[]=>(E,O,false)
     |t::S'=>if op xs t=10/\O.getD t (-1)<0 then go xs f (i+1) E (O.set t i) (t::S')else(E,O,false)
   else if op xs i=12 then
     match S with
     |[]=>(E,O,decide (i+1=xs.length))
     |t::S'=>go xs f (i+1) (close E O t i) O S'
   else go xs f (i+1) E O S
def dP (n:Nat):List Int:=List.replicate n (-1)
def all (xs:List (Int×Int)):List Int×List Int×Bool:=go xs (xs.length+1) 0 (dP xs.length) (dP xs.length) []
def isOk (xs:List (Int×Int)):Bool:=(decide (xs.length<=80)&&St.bi xs)&&(all xs).2.2
def ends (xs:List (Int×Int)):List Int:=if isOk xs=true then(all xs).1 else[]
def aS (xs:List (Int×Int)):List Int:=if isOk xs=true then(all xs).2.1 else[]
def bQ (xs:List (Int×Int))(E:List Int)(at':Int):Nat->List Int
 |0=>[]
 |k+1=>if St.opens (op xs k)=true/\at'<=E.getD k (-1)then(k:Int)::bQ xs E at' k else bQ xs E at' k
def AA (xs:List (Int×Int))(at':Int):List Int:=if isOk xs=true/\0<=at'/\at'<xs.length then bQ xs (ends xs) at' at'.toNat else[]
variable {xs : List (Int × Int)} {f i t : Nat} {E O : List Int} {S S' : List Nat}
theorem mf (h:xs.length<=i):go xs (f+1) i E O S=(E,O,false):=by unfold go;rw[ay h]
theorem iQ (h:i<xs.length)(ho:St.opens (op xs i)=true):go xs (f+1) i E O S=go xs f (i+1) E O (i::S):=by(conv=>lhs;unfold go);rw[ax (by omega),ay ho]
theorem iA (h:i<xs.length)(ho:St.opens (op xs i)=false)(h1:op xs i=11):go xs (f+1) i E O []=(E,O,false):=by unfold go;rw[ax (by omega),ax (by simp[ho]),ay h1]
theorem gI (h:i<xs.length)(ho:St.opens (op xs i)=false)(h1:op xs i=11)(h2:¬(op xs t=10/\O.getD t (-1)<0)):go xs (f+1) i E O (t::S')=(E,O,false):=by unfold go;rw[ax (by omega),ax (by simp[ho]),ay h1];exact ax h2
theorem iw (h:i<xs.length)(ho:St.opens (op xs i)=false)(h1:op xs i=11)(h2:op xs t=10/\O.getD t (-1)<0):go xs (f+1) i E O (t::S')=go xs f (i+1) E (O.set t i) (t::S'):=by(conv=>lhs;unfold go);rw[ax (by omega),ax (by simp[ho]),ay h1];exact ay h2
theorem jP (h:i<xs.length)(ho:St.opens (op xs i)=false)(h1:op xs i≠11)(h2:op xs i=12):go xs (f+1) i E O []=(E,O,decide (i+1=xs.length)):=by unfold go;rw[ax (by omega),ax (by simp[ho]),ax h1,ay h2]
theorem iF (h:i<xs.length)(ho:St.opens (op xs i)=false)(h1:op xs i≠11)(h2:op xs i=12):go xs (f+1) i E O (t::S')=go xs f (i+1) (close E O t i) O S':=by(conv=>lhs;unfold go);rw[ax (by omega),ax (by simp[ho]),ax h1,ay h2]
theorem iH (h:i<xs.length)(ho:St.opens (op xs i)=false)(h1:op xs i≠11)(h2:op xs i≠12):go xs (f+1) i E O S=go xs f (i+1) E O S:=by(conv=>lhs;unfold go);rw[ax (by omega),ax (by simp[ho]),ax h1,ax h2]
theorem zi:(close E O t i).length=E.length:=by unfold close;split<;>simp
end aG
section
open Go.RowKit
def bU (w:World):Type:={to:World // Below w.heap.size w to}
def bU.to {w:World}(p:bU w):World:=p.1
theorem bU.h {w:World}(p:bU w):Below w.heap.size w p.to:=p.2
theorem bU.any (w:World):Nonempty (bU w):=⟨⟨w,Below.refl _ _⟩⟩
theorem aQ {P:Program}{id:Nat}{Q:Exit->Act->World->Prop}{a:Act}{w:World}{l:List Oper}(hm:P.follows .mixedOrders=true)(hB:Region.lexB .any l.toArray=true)
   (h:wpQuiet P l.toArray (fun w'=>∃p:bU w,w'=p.to) (fun a'=>∀w',(∃p:bU w,w'=p.to)->Q .normal a' w') l a):(Code.region id l.toArray true).wp P Q a w:=
 wp_region_quiet (C:=fun w'=>∃p:bU w,w'=p.to) hm hB ⟨⟨w.drew,(Below.refl _ w).drew⟩,rfl⟩ (by simpa using h)
theorem iI {P:Program}{f:FuncId}{args:Array Value}{w:World}{p:bU w}{v:Value}
   (h:Calls P f args p.to fun e w'=>e= .returned v/\Below p.to.heap.size p.to w'):Calls P f args p.to fun e w''=>e= .returned v/\∃p:bU w,w''=p.to:=
 h.mono fun _ w' ⟨he,hb⟩=>⟨he,⟨w',p.h.trans (hb.mono p.h.size)⟩,rfl⟩
theorem bP {P:Program}{f:FuncId}{args:Array Value}{w:World}{p:bU w}{v:Value}
   (h:Calls P f args p.to fun e w'=>e= .returned v/\w'=p.to):Calls P f args p.to fun e w''=>e= .returned v/\∃p:bU w,w''=p.to:=
 h.mono fun _ _ ⟨he,hb⟩=>⟨he,p,hb⟩
end
def encS (xs:List (Int×Int)):List Value:=xs.flatMap fun x=>[.int .i64 x.1, .int .i64 x.2]
theorem jm (xs:List (Int×Int)):(encS xs).length=xs.length*2:=by
 induction xs with
 |nil=>rfl
 |cons x xs ih=>simp only[encS,List.flatMap_cons,List.length_append,List.length_cons]at ih ⊢;simp only[List.length_nil];omega
theorem vz (xs ys:List (Int×Int)):encS (xs++ys)=encS xs++encS ys:=by simp[encS]
theorem kX:∀(xs:List (Int×Int))(j:Nat),j<xs.length->(encS xs)[j*2]?=some (.int .i64 (xs.getD j (0,0)).1)/\(encS xs)[j*2+1]?=some (.int .i64 (xs.getD j (0,0)).2)
 |[],j,h=>by simp at h
 |x::xs,0,_=>⟨rfl,rfl⟩
 | x::xs,j+1,h=>by
   have ih:=kX xs j (by simp at h;omega)
   have e:encS (x::xs)= .int .i64 x.1:: .int .i64 x.2::encS xs:=rfl
   rw[e,show(j+1)*2=j*2+1+1 by omega]
   simpa using ih
def OS (W:World)(n₀:Nat)(v:Value)(xs:List (Int×Int)):Prop:=
 ∃g cap,v= .slice (some ⟨g,0,none⟩) xs.length cap/\n₀<=g/\g<W.heap.size/\xs.length<=maxLen/\W.ownsRow n₀ 111 2 v xs.length (encS xs)
theorem OS.o6 {W:World}{n₀ g cap n:Nat}{xs:List (Int×Int)}(h:W.ownsRow n₀ 111 2 (.slice (some ⟨g,0,none⟩) n cap) n (encS xs)):OS W n₀ (.slice (some ⟨g,0,none⟩) n cap) xs:=by have hn:n=xs.length:=by{have:=h.1;rw[jm]at this;omega};subst hn;have:=h.lt g rfl;rcases h.2 with⟨h',_⟩|⟨g',cap',cur,h',_,_,hc,hm,_⟩;{cases h'};cases h';exact⟨g,cap,rfl,this.1,this.2,Nat.le_trans hc hm,h⟩
theorem OS.kept {W W':World}{n₀:Nat}{v:Value}{xs:List (Int×Int)}(h:OS W n₀ v xs)(hB:Below W.heap.size W W'):OS W' n₀ v xs:=by obtain⟨g,cap,rfl,h0,hlt,hm,hrow⟩:=h;refine⟨g,cap,rfl,h0,aj hlt hB.size,hm,?_⟩;exact hrow.kept (row:=none) ⟨hB.os,hB.tape,hB.output,hB.size,fun k hk _=>hB.block k hk⟩ (.inr (by simp[Value.ownBlock]))
theorem OS.mono {W:World}{n₀ n₁:Nat}{v:Value}{xs:List (Int×Int)}(h:OS W n₁ v xs)(hn:n₀<=n₁):OS W n₀ v xs:=by obtain⟨g,cap,rfl,h0,hlt,hm,hrow⟩:=h;refine⟨g,cap,rfl,Nat.le_trans hn h0,hlt,hm,hrow.1,?_⟩;rcases hrow.2 with⟨h',_⟩|⟨g',cap',cur,h',hb,r⟩;{cases h'};exact .inr ⟨g',cap',cur,h',Nat.le_trans hn hb,r⟩
theorem OS.SL {W:World}{n₀:Nat}{v:Value}{xs:List (Int×Int)}(h:OS W n₀ v xs):∃g cap,v= .slice (some ⟨g,0,none⟩) xs.length cap/\n₀<=g/\g<W.heap.size/\SL W (some ⟨g,0,none⟩) xs.length xs:=by obtain⟨g,cap,rfl,h0,hlt,hm,hrow⟩:=h;refine⟨g,cap,rfl,h0,hlt,rfl,hm, .inr ⟨g,0,rfl,hlt,fun j hj=>?_⟩⟩;have:=kX xs j hj;rw[Nat.zero_add];exact⟨(hrow.cellAt (j*2) (by omega)).trans this.1,(hrow.cellAt (j*2+1) (by omega)).trans this.2⟩
theorem zU:(Tryz.prog.info? 111).map (fun i=>(i.zero,i.size,i.bytes))=some (some (.agg #[.int .i64 0, .int .i64 0]),2,16):=by kernel_rfl
theorem OS.grown {W W':World}{n₀ g n cap k:Nat}{xs:List (Int×Int)}(h:OS W n₀ (.slice (some ⟨g,0,none⟩) n cap) xs)(hg:W.grownBy W' (some k))(hne:g≠k):OS W' n₀ (.slice (some ⟨g,0,none⟩) n cap) xs:=by obtain⟨g',cap',hv,h0,hlt,hm,hrow⟩:=h;cases hv;exact⟨g,cap,rfl,h0,aj hlt hg.size,hm,hrow.kept hg (.inr (by simp only[Value.ownBlock,ne_eq,af];omega))⟩
theorem OS.sl {W:World}{n₀ g n cap:Nat}{xs:List (Int×Int)}(h:OS W n₀ (.slice (some ⟨g,0,none⟩) n cap) xs):Go.Proofs.YtlbkdlnalgkjeaaGreat.SL W (some ⟨g,0,none⟩) n xs:=by obtain⟨g',cap',hv,_,_,hsl⟩:=h.SL;cases hv;exact hsl
theorem aL (W:World)(p:Addr)(v:Value):W.grownBy (W.setCell p v) (some p.block):=
 ⟨rfl,rfl,rfl,by simp[World.setCell],fun i _ hne=>Below.heap_setCell _ _ _ _ (fun e=>hne (by rw[e]))⟩
theorem di {a b c:World}{row:Option Nat}(h:a.grownBy b row)(k:b.grownBy c row):a.grownBy c row:=
 ⟨k.os.trans h.os,k.tape.trans h.tape,k.output.trans h.output,Nat.le_trans h.size k.size,fun i hi hn=>(k.block i (aj hi h.size) hn).trans (h.block i hi hn)⟩
def iv (x:Int):Value:= .int .i64 x
def IL (w:World)(a:Option Addr)(len:Nat)(xs:List Int):Prop:=
 xs.length=len/\len<=maxLen/\(len=0\/∃b off,a=some ⟨b,off,none⟩/\b<w.heap.size/\∀j,j<len->w.cell? ⟨b,off+j,none⟩=some (.int .i64 (xs.getD j 0)))
theorem IL.kept {w w':World}{a:Option Addr}{len:Nat}{xs:List Int}(h:IL w a len xs)(hB:Below w.heap.size w w'):IL w' a len xs:=by obtain⟨h1,h2,h3|⟨b,off,rfl,hb,hx⟩⟩:=h;{exact⟨h1,h2, .inl h3⟩};exact⟨h1,h2, .inr ⟨b,off,rfl,aj hb hB.size,fun j hj=>(hB.cell (p:=⟨b,off+j,none⟩) hb).trans (hx j hj)⟩⟩
def OI (W:World)(n₀:Nat)(v:Value)(xs:List Int):Prop:=W.ownsRow n₀ 2 1 v xs.length (xs.map iv)
theorem OI.slice {W:World}{n₀:Nat}{v:Value}{xs:List Int}(h:OI W n₀ v xs):∃a cap,v= .slice a xs.length cap/\IL W a xs.length xs:=by rcases h.2 with⟨rfl,h0⟩|⟨g,cap,cur,rfl,hb,hc,hn,hm,hs,ht⟩;{exact⟨none,0,by rw[h0],rfl,by rw[h0];exact Nat.zero_le _, .inl h0⟩};refine⟨_,cap,rfl,rfl,Nat.le_trans hn hm, .inr ⟨g,0,rfl,(h.lt g rfl).2,fun j hj=>?_⟩⟩;have:=h.cellAt j (by omega);rw[Nat.zero_add,this,List.getElem?_map,ai hj,ah,ai hj];rfl
theorem OI.kept {W W':World}{n₀:Nat}{v:Value}{xs:List Int}(h:OI W n₀ v xs)(hB:Below W.heap.size W W'):OI W' n₀ v xs:=by refine World.ownsRow.kept (row:=none) h ⟨hB.os,hB.tape,hB.output,hB.size,fun k hk _=>hB.block k hk⟩ ?_;rcases hv:v.ownBlock with _|b;{exact .inl rfl};exact .inr (by simp)
theorem OI.dB {W W':World}{n₀ b:Nat}{v:Value}{xs:List Int}(h:OI W n₀ v xs)(hg:W.grownBy W' (some b))(hne:∀g,v.ownBlock=some g->g≠b):OI W' n₀ v xs:=by refine World.ownsRow.kept h hg ?_;rcases hv:v.ownBlock with _|b';{exact .inl rfl};refine .inr ?_;have:=hne b' hv;simp only[ne_eq,af];omega
theorem OI.mono {W:World}{n₀ n₁:Nat}{v:Value}{xs:List Int}(h:OI W n₁ v xs)(hn:n₀<=n₁):OI W n₀ v xs:=by refine⟨h.1,?_⟩;rcases h.2 with h'|⟨g',cap',cur,h',hb,r⟩;{exact .inl h'};exact .inr ⟨g',cap',cur,h',Nat.le_trans hn hb,r⟩
theorem OI.nil (W:World)(n₀:Nat):OI W n₀ (.slice none 0 0) []:=⟨rfl, .inl ⟨rfl,rfl⟩⟩
theorem OI.empty (W:World):OI (W.alloc (.cells #[] 2)) W.heap.size (.slice (some ⟨W.heap.size,0,none⟩) 0 0) []:=
 ⟨rfl, .inr ⟨W.heap.size,0,#[],rfl,Nat.le_refl _,World.alloc_heap_new W _,Nat.le_refl _,Nat.zero_le _,rfl,rfl⟩⟩
theorem bN:(Tryz.prog.info? 2).map (fun i=>(i.zero,i.size,i.bytes))=some (some (.int .i64 0),1,8):=by kernel_rfl
theorem eY (xs:List Int)(k:Nat)(x:Int):(xs.set k x).map iv=(xs.map iv).set k (.int .i64 x):=by rw[List.map_set];rfl
section
open Go.RowKit
theorem St.A7 (op:Int):(op==8||op==9||op==10)=St.opens op:=by unfold St.opens;by_cases h8:op=8;{subst h8;rfl};by_cases h9:op=9;{subst h9;rfl};by_cases h10:op=10;{subst h10;rfl};simp[h8,h9,h10]
def St.tJ (op a:Int):Bool:=St.ok op a&&St.opens op
theorem oO (op a:Int)(w:World):Calls Tryz.prog 97 #[.agg #[.int .i64 op, .int .i64 a]] w fun e w'=>e= .returned (.bool (St.tJ op a))/\Below w.heap.size w w':=by rcases h:St.ok op a with _|_;{go_enter Tryz.func97,Tryz.ntmps97;go_wp2_with fail;refine(gU _ _ _).mono ?_;rintro e w1 ⟨rfl,hB⟩;obtain⟨hc0,hc1,hlt⟩:=oQ w _ _ _ hB;have hB1:=(aA w _).trans (hB.mono (by simp));go_wp2;go_ret;exact⟨by rw[St.tJ,h];rfl,hB1⟩};go_enter Tryz.func97,Tryz.ntmps97;go_wp2_with fail;refine(gU _ _ _).mono ?_;rintro e w1 ⟨rfl,hB⟩;obtain⟨hc0,hc1,hlt⟩:=oQ w _ _ _ hB;have hB1:=(aA w _).trans (hB.mono (by simp));go_wp2;all_goals(go_ret;exact⟨bn (by rw[St.tJ,h,Bool.true_and,←St.A7];try simp_all),hB1⟩)
end
theorem fG (W:World)(a:Value)(t:TypeId)(H:Nat)(hH:W.heap.size=H):∀j u,[a][j]?=some u->(W.alloc (.cells #[a] t)).cell? ((⟨H,0,none⟩:Addr).add j)=some u:=by
 subst hH
 intro j u hu
 match j,hu with
 |0,hu=>simp at hu;subst hu;simp[Addr.add]
theorem aH {W W':World}{n₀ e k n:Nat}{v:Value}{xs:List Value}(h:W.ownsRow n₀ e k v n xs)(hB:Below W.heap.size W W'):W'.ownsRow n₀ e k v n xs:=by refine h.kept (row:=none) ⟨hB.os,hB.tape,hB.output,hB.size,fun k hk _=>hB.block k hk⟩ ?_;rcases hv:v.ownBlock with _|b;{exact .inl rfl};exact .inr (by simp)
theorem dF {W w1 w:World}{B:Nat}{e:TypeId}{size:Nat}{v:Value}{k:Nat}{xs:List Value}(hrow:W.ownsRow B e size v k xs)(hB:Below B w W)(hs:B<=W.heap.size)(hgrow:W.grownBy w1 v.ownBlock):Below B w w1:=
 hB.grown hgrow hs fun j ej=>(hrow.lt j ej).1
theorem mM (n:Nat)(hn:n<=2000000)(w:World):Calls Tryz.prog 95 #[.int .i64 n] w fun e w'=>∃g c,e= .returned (.slice (some ⟨g,0,none⟩) n c)/\OI w' w.heap.size (.slice (some ⟨g,0,none⟩) n c) (aG.dP n)/\Below w.heap.size w w':=by obtain⟨i0,hi,hz0,hz1,hz2⟩:=info_parts bN;have hr0:=OI.empty w;have hB0:=(Below.refl w.heap.size w).alloc (Nat.le_refl _) (.cells #[] 2);go_enter Tryz.func95,Tryz.ntmps95;go_wp2;go_loopw [0,3] (fun m v wr=>∃(k j g c:Nat),m= .int .i64 k/\v= .slice (some ⟨g,0,none⟩) j c/\j+k=n/\wr.ownsRow w.heap.size 2 1 (.slice (some ⟨g,0,none⟩) j c) j ((aG.dP j).map iv)/\Below w.heap.size w wr) (fun m _ _=>(intOf m).toNat);(case atStart=>exact⟨n,0,_,_,rfl,rfl,by omega,hr0,hB0⟩);case round=>obtain⟨k,j,g,c,rfl,rfl,hjk,hrow,hB⟩:=hrel;clear hr0 hB0;by_cases hk:0<k;{have hBx:=hB.alloc hB.size (.cells #[.int .i64 (-1)] 2);have HRW:=ae (hrow.alloc (.cells #[.int .i64 (-1)] 2));have hsz:=hB.size;clear hrow;go_wp2_with(at_builtin;refine wpList_append_own _ rfl _ _ 35 rfl w.heap.size 2 i0 (.int .i64 0) 1 8 Tryz.underlying35 hi hz0 hz1 hz2 rfl (by decide) _ _ _ rfl HRW.out ⟨wr.heap.size,0,none⟩ 1 1 [.int .i64 (-1)] rfl rfl (fG _ _ _ _ rfl) (by simp[Value.oneCell']) (by simp only[maxLen];omega) (by omega) (by simp;omega) ?_;intro v' wA hown' hgrow _;have hB4:=dF HRW.out hBx (by simp;omega) hgrow;obtain⟨g',cap',rfl⟩:=ownsRow_succ hown');go_roundw;(case rel=>refine⟨k-1,j+1,g',cap',by congr 1;omega,rfl,by omega,?_,hB4⟩;have e:(aG.dP (j+1)).map iv=(aG.dP j).map iv++[.int .i64 (-1)]:=by{simp[aG.dP,List.replicate_succ',iv]};rw[e];exact hown');case measure=>simp[intOf];omega};have hk0:k=0:=by{omega};subst hk0;have hj:j=n:=by{omega};subst hj;clear hk hjk;go_wp2;go_ret;refine⟨g,c,rfl,?_,hB⟩;unfold OI;have e:(aG.dP j).length=j:=by{simp[aG.dP]};rw[e];exact hrow
theorem Eb {W:World}{n₀ e g n c:Nat}{xs:List Value}(h:W.ownsRow n₀ e 1 (.slice (some ⟨g,0,none⟩) n c) n xs)(m:Nat)(hm:m<=n):W.ownsRow n₀ e 1 (.slice (some ⟨g,0,none⟩) m c) m (xs.take m):=by obtain⟨h1,h2⟩:=h;refine⟨by rw[List.length_take,h1];omega,?_⟩;rcases h2 with⟨h',_⟩|⟨g',cap',cur,h',hb,hc,hn,hx,hs,ht⟩;{cases h'};cases h';refine .inr ⟨g,c,cur,rfl,hb,hc,by omega,hx,hs,?_⟩;rw[←ht,List.take_take];congr 1;omega
theorem gQ {W:World}{n₀ g n c:Nat}{xs:List Int}(h:W.ownsRow n₀ 2 1 (.slice (some ⟨g,0,none⟩) n c) n (xs.map iv)){k:Nat}(hk:k<n)(d:Int):W.cell? ⟨g,k,none⟩=some (.int .i64 (xs.getD k d)):=by have hl:xs.length=n:=by{have:=h.1;simpa using this};rw[h.cellAt k (by omega),List.getElem?_map,ai (by omega),ah,ai (by omega)];rfl
def ig (S:List Nat):List Int:=S.map fun(x:Nat)=>(x:Int)
theorem gV {W W':World}{n₀ e k n b:Nat}{g c:Nat}{xs:List Value}(h:W.ownsRow n₀ e k (.slice (some ⟨g,0,none⟩) n c) n xs)(hg:W.grownBy W' (some b))(hb:g≠b):W'.ownsRow n₀ e k (.slice (some ⟨g,0,none⟩) n c) n xs:=
 h.kept hg (.inr (by simp only[Value.ownBlock,ne_eq,af];omega))
structure NI (xs:List (Int×Int))(len:Nat)(w w1 w2 wr:World)(gE cE gO cO gS cS:Nat)(k:Nat)(E O:List Int)(S:List Nat):Prop where
 rE:wr.ownsRow w.heap.size 2 1 (.slice (some ⟨gE,0,none⟩) len cE) len (E.map iv)
 rO:wr.ownsRow w1.heap.size 2 1 (.slice (some ⟨gO,0,none⟩) len cO) len (O.map iv)
 rS:wr.ownsRow w2.heap.size 2 1 (.slice (some ⟨gS,0,none⟩) S.length cS) S.length ((ig S.reverse).map iv)
 eq:aG.all xs=aG.go xs (len+1-k) k E O S
 sl:S.length<=k
 st:∀t∈S,t<k
 so:∀t∈S,-1<=O.getD t (-1)/\O.getD t (-1)<k
 oz:∀t,k<=t->O.getD t (-1)=-1
 dS:Below w.heap.size w wr
 sz:w2.heap.size<=wr.heap.size
 eE:gE<w1.heap.size
 eO:w1.heap.size<=gO/\gO<w2.heap.size
theorem NI.kept {xs:List (Int×Int)}{len:Nat}{w w1 w2 wr wx:World}{gE cE gO cO gS cS k:Nat}{E O:List Int}{S:List Nat}(h:NI xs len w w1 w2 wr gE cE gO cO gS cS k E O S)(hB:Below wr.heap.size wr wx):NI xs len w w1 w2 wx gE cE gO cO gS cS k E O S:=
 {h with rE:=aH h.rE hB,rO:=aH h.rO hB,rS:=aH h.rS hB,dS:=h.dS.trans (hB.mono h.dS.size),sz:=Nat.le_trans h.sz hB.size}
theorem NI.push {xs:List (Int×Int)}{len:Nat}{w w1 w2 wr wA:World}{gE cE gO cO gS cS k gS' WI:Nat}{E O:List Int}{S:List Nat}(h:NI xs len w w1 w2 wr gE cE gO cO gS cS k E O S)(hk:k<xs.length)(hl:xs.length=len)(ho:St.opens (aG.op xs k)=true)(hown:wA.ownsRow w2.heap.size 2 1 (.slice (some ⟨gS',0,none⟩) (S.length+1) WI) (S.length+1) ((ig S.reverse).map iv++[.int .i64 (k:Int)]))(hg:wr.grownBy wA (Value.slice (some ⟨gS,0,none⟩) S.length cS).ownBlock):NI xs len w w1 w2 wA gE cE gO cO gS' WI (k+1) E O (k::S):=by have hgs:=(h.rS.lt gS rfl).1;have hg':wr.grownBy wA (some gS):=hg;have hE:=h.eE;have Zb:=h.eO;refine⟨gV h.rE hg' (by omega),gV h.rO hg' (by omega),?_,?_,by simp;exact h.sl,?_,?_,fun t ht=>h.oz t (by omega),?_,Nat.le_trans h.sz hg.size,hE,Zb⟩;{have e:(ig (k::S).reverse).map iv=(ig S.reverse).map iv++[.int .i64 (k:Int)]:=by{simp[ig,iv]};rw[e,List.length_cons];exact hown};{rw[h.eq,show len+1-k=(len+1-(k+1))+1 by omega,aG.iQ hk ho]};{intro t ht;rcases List.mem_cons.1 ht with rfl|ht;{omega};have:=h.st t ht;omega};{intro t ht;rcases List.mem_cons.1 ht with rfl|ht;{have:=h.oz t (Nat.le_refl _);omega};have:=h.so t ht;omega};exact h.dS.grown hg h.dS.size fun j ej=>by have:j=gS:=by{simpa[Value.ownBlock]using ej.symm};have:=h.dS.size;have h1:w.heap.size<=w1.heap.size:=by{have:=(h.rE.lt gE rfl).1;omega};omega
theorem NI.step {xs:List (Int×Int)}{len:Nat}{w w1 w2 wr:World}{gE cE gO cO gS cS k:Nat}{E O:List Int}{S:List Nat}(h:NI xs len w w1 w2 wr gE cE gO cO gS cS k E O S)(hk:k<xs.length)(hl:xs.length=len)(ho:St.opens (aG.op xs k)=false)(h1:aG.op xs k≠11)(h2:aG.op xs k≠12):
   NI xs len w w1 w2 wr gE cE gO cO gS cS (k+1) E O S:=
 { h with
   eq:=by rw[h.eq,show len+1-k=(len+1-(k+1))+1 by omega,aG.iH hk ho h1 h2]
   sl:=Nat.le_succ_of_le h.sl
   st:=fun t ht=>by have:=h.st t ht;omega
   so:=fun t ht=>by have:=h.so t ht;omega
   oz:=fun t ht=>h.oz t (by omega)}
theorem eZ {l:List Int}{k j:Nat}{x d:Int}:(l.set k x).getD j d=if j=k/\k<l.length then x else l.getD j d:=by by_cases h:j=k;{subst h;by_cases hk:j<l.length;{rw[ay ⟨rfl,hk⟩,ah,List.getElem?_set_self hk];rfl};rw[ax (fun e=>hk e.2),List.set_eq_of_length_le (by omega)]};rw[ax (fun e=>h e.1),ah,List.getElem?_set_ne (by omega),←ah]
theorem NI.I6 {xs:List (Int×Int)}{len:Nat}{w w1 w2 wr:World}{gE cE gO cO gS cS k:Nat}{E O:List Int}{S:List Nat}(h:NI xs len w w1 w2 wr gE cE gO cO gS cS k E O S):E.length=len/\O.length=len:=by have h1:=h.rE.1;have h2:=h.rO.1;simp at h1 h2;exact⟨h1,h2⟩
theorem NI.F5 {xs:List (Int×Int)}{len:Nat}{w w1 w2 wr:World}{gE cE gO cO gS cS k t:Nat}{E O:List Int}{S:List Nat}(h:NI xs len w w1 w2 wr gE cE gO cO gS cS k E O (t::S))(hk:k<xs.length)(hl:xs.length=len)(ho:St.opens (aG.op xs k)=false)(h1:aG.op xs k=11)(h2:aG.op xs t=10/\O.getD t (-1)<0):NI xs len w w1 w2 (wr.setCell ⟨gO,t,none⟩ (.int .i64 (k:Int))) gE cE gO cO gS cS (k+1) E (O.set t (k:Int)) (t::S):=by have hst:=h.rO.stored t (.int .i64 (k:Int));rw[←eY]at hst;have hg:=aL wr ⟨gO,t,none⟩ (.int .i64 (k:Int));have hE:=h.eE;have hO:=h.eO;have hgs:=(h.rS.lt gS rfl).1;have WJ:w.heap.size<=w1.heap.size:=by{have:=(h.rE.lt gE rfl).1;omega};refine⟨gV h.rE hg (by simp;omega),hst.1,gV h.rS hg (by simp;omega),?_,Nat.le_succ_of_le h.sl,?_,?_,?_,h.dS.setCell (p:=⟨gO,t,none⟩) (by simp;omega) _,by simpa[World.setCell]using h.sz,hE,hO⟩;{rw[h.eq,show len+1-k=(len+1-(k+1))+1 by omega,aG.iw hk ho h1 h2]};{intro x hx;have:=h.st x hx;omega};{intro x hx;have:=h.so x hx;rw[eZ];split<;>omega};intro x hx;have:=h.st t (by simp);rw[eZ,ax (by omega)];exact h.oz x (by omega)
theorem NI.Ij {xs:List (Int×Int)}{len:Nat}{w w1 w2 wr wA:World}{gE cE gO cO gS cS k t:Nat}{E O:List Int}{S:List Nat}(h:NI xs len w w1 w2 wr gE cE gO cO gS cS k E O (t::S))(hk:k<xs.length)(hl:xs.length=len)(ho:St.opens (aG.op xs k)=false)(h1:aG.op xs k≠11)(h2:aG.op xs k=12)(hA:wA=if 0<=O.getD t (-1)then(wr.setCell ⟨gE,t,none⟩ (.int .i64 (k:Int))).setCell ⟨gE,(O.getD t (-1)).toNat,none⟩ (.int .i64 (k:Int))else wr.setCell ⟨gE,t,none⟩ (.int .i64 (k:Int))):NI xs len w w1 w2 wA gE cE gO cO gS cS (k+1) (aG.close E O t k) O S:=by have hst:=h.rE.stored t (.int .i64 (k:Int));rw[←eY]at hst;have Ab:=hst.1.stored (O.getD t (-1)).toNat (.int .i64 (k:Int));rw[←eY]at Ab;have hE:=h.eE;have hO:=h.eO;have hge:=(h.rE.lt gE rfl).1;have hgs:=(h.rS.lt gS rfl).1;have hrow:wA.ownsRow w.heap.size 2 1 (.slice (some ⟨gE,0,none⟩) len cE) len ((aG.close E O t k).map iv)/\wr.grownBy wA (some gE)/\Below w.heap.size w wA/\wr.heap.size=wA.heap.size:=by{unfold aG.close;by_cases hc:0<=O.getD t (-1);{rw[ay hc]at hA ⊢;subst hA;exact⟨Ab.1,di hst.2 Ab.2,(h.dS.setCell (p:=⟨gE,t,none⟩) hge _).setCell (p:=⟨gE,(O.getD t (-1)).toNat,none⟩) hge _,by simp[World.setCell]⟩};rw[ax hc]at hA ⊢;subst hA;exact⟨hst.1,hst.2,h.dS.setCell (p:=⟨gE,t,none⟩) hge _,by simp[World.setCell]⟩};obtain⟨r1,r2,r3,r4⟩:=hrow;have hS:=gV (Eb h.rS S.length (by simp)) r2 (by omega);refine⟨r1,gV h.rO r2 (by omega),?_,?_,?_,?_,?_,fun t ht=>h.oz t (by omega),r3,by have:=h.sz;omega,hE,hO⟩;{have e:((ig (t::S).reverse).map iv).take S.length=(ig S.reverse).map iv:=by{simp[ig]};rw[e]at hS;exact hS};{rw[h.eq,show len+1-k=(len+1-(k+1))+1 by omega,aG.iF hk ho h1 h2]};{have:=h.sl;simp at this;omega};{intro x hx;have:=h.st x (List.mem_cons_of_mem _ hx);omega};intro x hx;have:=h.so x (List.mem_cons_of_mem _ hx);omega
theorem NI.qC {xs:List (Int×Int)}{len:Nat}{w w1 w2 wr:World}{gE cE gO cO gS cS k t:Nat}{E O:List Int}{S:List Nat}(h:NI xs len w w1 w2 wr gE cE gO cO gS cS k E O (t::S)):wr.cell? ⟨gS,S.length,none⟩=some (.int .i64 (t:Int)):=by have:=gQ (xs:=ig (t::S).reverse) h.rS (k:=S.length) (by simp) 0;rw[this];simp[ig]
theorem zA {W:World}{b0 b1 e0 e1 k0 k1 g0 g1 n0 n1 c0 c1:Nat}{xs ys:List Value}(h0:W.ownsRow b0 e0 k0 (.slice (some ⟨g0,0,none⟩) n0 c0) n0 xs)(h1:W.ownsRow b1 e1 k1 (.slice (some ⟨g1,0,none⟩) n1 c1) n1 ys)(he:e0≠e1):g0≠g1:=by rintro rfl;rcases h0.2 with⟨h',_⟩|⟨g,c,cur,h',_,hb,_⟩;{cases h'};cases h';rcases h1.2 with⟨h',_⟩|⟨g,c,cur',h',_,hb',_⟩;{cases h'};cases h';rw[hb]at hb';simp only[af,Obj.cells.injEq]at hb';exact he hb'.2.1
theorem bF {W W':World}{b0 b1 e0 e1 k0 k1 g0 g1 n0 n1 c0 c1:Nat}{xs ys:List Value}(h1:W.ownsRow b1 e1 k1 (.slice (some ⟨g1,0,none⟩) n1 c1) n1 ys)(h0:W.ownsRow b0 e0 k0 (.slice (some ⟨g0,0,none⟩) n0 c0) n0 xs)(he:e0≠e1)(hg:W.grownBy W' (Value.slice (some ⟨g0,0,none⟩) n0 c0).ownBlock):W'.ownsRow b1 e1 k1 (.slice (some ⟨g1,0,none⟩) n1 c1) n1 ys:=
 gV h1 (b:=g0) hg (Ne.symm (zA h0 h1 he))
theorem Ay {W:World}{n₀ e k g n c:Nat}{xs:List Value}(h:W.ownsRow n₀ e k (.slice (some ⟨g,0,none⟩) n c) n xs)(m:Nat)(hm:m<=n):W.ownsRow n₀ e k (.slice (some ⟨g,0,none⟩) m c) m (xs.take (m*k)):=by obtain⟨h1,h2⟩:=h;have hmk:m*k<=n*k:=Nat.mul_le_mul_right k hm;refine⟨by rw[List.length_take,h1];omega,?_⟩;rcases h2 with⟨h',_⟩|⟨g',cap',cur,h',hb,hc,hn,hx,hs,ht⟩;{cases h'};cases h';refine .inr ⟨g,c,cur,rfl,hb,hc,by omega,hx,hs,?_⟩;rw[←ht,List.take_take];congr 1;omega
theorem lg {W:World}{n₀ e k g n c:Nat}{xs:List Value}(h:W.ownsRow n₀ e k (.slice (some ⟨g,0,none⟩) n c) n xs):n<=c:=by rcases h.2 with⟨h',_⟩|⟨g',cap',cur,h',_,_,hc,_⟩;{cases h'};cases h';exact hc
def aU (W:World)(b:Nat)(vs:List Value):Prop:=b<W.heap.size/\∀i x,vs[i]?=some x->W.cell? ⟨b,i,none⟩=some x/\W.frozen? ⟨b,i,none⟩=false
theorem aU.dB {W W':World}{b:Nat}{row:Option Nat}{vs:List Value}(h:aU W b vs)(hg:W.grownBy W' row)(hne:row≠some b):aU W' b vs:=by have hb:=hg.block b h.1 (fun e=>hne e.symm);refine⟨aj h.1 hg.size,fun i x hx=>?_⟩;obtain⟨h1,h2⟩:=h.2 i x hx;exact⟨(World.cell?_of_block hb).trans h1,by unfold World.frozen?;rw[hb];exact h2⟩
theorem aU.kept {W W':World}{b:Nat}{vs:List Value}(h:aU W b vs)(hB:Below W.heap.size W W'):aU W' b vs:=h.dB (row:=none) ⟨hB.os,hB.tape,hB.output,hB.size,fun k hk _=>hB.block k hk⟩ (by simp)
theorem aU.new (W:World)(vs:List Value)(t:TypeId):aU (W.alloc (.cells vs.toArray t)) W.heap.size vs:=by refine⟨by simp,fun i x hx=>⟨?_,by simp⟩⟩;rw[World.cell?_alloc_at _ _ _ _ rfl];simpa using hx
theorem aU.set {W:World}{b:Nat}{vs:List Value}(h:aU W b vs)(i:Nat)(x:Value):aU (W.setCell ⟨b,i,none⟩ x) b (vs.set i x):=by refine⟨by simpa[World.setCell]using h.1,fun j y hy=>?_⟩;by_cases e:i=j;{subst e;have hi:i<vs.length:=by{rcases Nat.lt_or_ge i vs.length with h'|h';{exact h'};rw[List.getElem?_eq_none (by simpa using h')]at hy;cases hy};rw[List.getElem?_set_self hi]at hy;cases hy;obtain⟨h1,h2⟩:=h.2 i vs[i] (ai hi);exact⟨World.cell?_setCell_same _ _ _ h1,by simpa using h2⟩};rw[List.getElem?_set_ne e]at hy;obtain⟨h1,h2⟩:=h.2 j y hy;exact⟨(World.cell?_setCell_other _ _ _ _ (fun q=>e (by cases q;rfl))).trans h1,by simpa using h2⟩
end Go.Proofs.YtlbkdlnalgkjeaaGreat
