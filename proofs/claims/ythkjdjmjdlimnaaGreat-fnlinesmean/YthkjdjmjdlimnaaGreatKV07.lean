/- Own text. -/
import Derived.Test.YthkjdjmjdlimnaaGreatKV06
import Derived.Deep.RegionWith
namespace Go.Proofs.YthkjdjmjdlimnaaGreat
open Go.RowKit Go.Shelf
set_option linter.all false
set_option maxRecDepth 100000
set_option maxHeartbeats 16000000
variable {W1 w' x x':World}{k n:Nat}{v' y:Value}
def back (s:ByteArray)(a n count:Int)(sh:ByteArray):Int×Int×Bool:=
 if count=0 then(0,0,false)else if((s.extract a.toNat (a+count).toNat).toList==sh.toList)=true then(n,a+count,true)else(0,0,false)
def afV (s:ByteArray)(a:Int):Int×Int×Bool:=match Lb.gth 5 (Lb.rest s a)with
 |none=>(0,0,false)
 |some t=>back s a (Lb.val t) t.length (Zr (Lb.val t))
def RG (s:ByteArray)(a:Int):Int×Int×Bool:=match Lb.gth 5 (Lb.rest s a)with
 |none=>(0,0,false)
 |some t=>back s a (Lb.sgn t) t.length (ZG (Lb.sgn t))
section
open Go.RowKit
namespace Lb
end Lb
def up (x:UInt8):UInt8:=UInt8.ofNat (x.toNat+128)
end
namespace St
def rA (s:ByteArray)(op a:Int):Int×Int×Bool:=
 if op=1 then((RG s a).1%4294967296,(RG s a).2.1,(RG s a).2.2)else if Zo op=true then afV s a else(0,a,true)
def byt (s:ByteArray)(k:Nat):Int:=((s.data.toList.getD k 0).toNat:Int)
def r1 (s:ByteArray)(k:Nat):Int×Int×Bool:=rA s (byt s k) ((k:Int)+1)
def pr (s:ByteArray):Nat->Nat->Option (List (Int×Int))
 |0,a=>if s.size<=a then some []else none
 | k+1,a=>if s.size<=a then some []else
   if(r1 s a).2.2=true/\ok (byt s a) (r1 s a).1=true then(pr s k (r1 s a).2.1.toNat).map ((byt s a,(r1 s a).1)::·)else none
def rd (s:ByteArray):List (Int×Int):=(pr s 80 0).getD []
end St
theorem Xh (W:World)(a b:Value)(t:TypeId)(H:Nat)(hH:W.heap.size=H):∀j u,[a,b][j]?=some u->(W.alloc (.cells #[a,b] t)).cell? ((⟨H,0,none⟩:Addr).add j)=some u:=by
 subst hH
 intro j u hu
 match j,hu with
 |0,hu=>simp at hu;subst hu;simp[Addr.add]
 |1,hu=>simp at hu;subst hu;simp[Addr.add]
theorem Jk (W:World):(W.alloc (.cells #[] 95)).ownsRow W.heap.size 95 2 (.slice (some ⟨W.heap.size,0,none⟩) 0 0) 0 (encS []):=
 ⟨rfl, .inr ⟨W.heap.size,0,#[],rfl,bI _,QC W _,bI _,jT _,rfl,rfl⟩⟩
namespace St
end St
section
variable {c : GC} {n nl : Nat} {v u : Value} {W W' : World}
theorem GS.cells (h:GS c n v nl u W):W.cell? ⟨c.G,0,none⟩=some (.pointer (some ⟨c.B,0,none⟩))/\W.cell? ⟨c.G,1,none⟩=some v/\W.cell? ⟨c.G,2,none⟩=some (.int .i64 c.L)/\
   W.cell? ⟨c.G,3,none⟩=some (.slice (some ⟨c.F,0,none⟩) c.nf c.fc)/\W.cell? ⟨c.G,4,none⟩=some u/\c.G<W.heap.size:=
 ⟨(h.box.2 0 _ rfl).1,(h.box.2 1 _ rfl).1,(h.box.2 2 _ rfl).1,(h.box.2 3 _ rfl).1,(h.box.2 4 _ rfl).1,h.box.1⟩
theorem GS.Xq(h:GS c n v nl u W)(hg:W.grownBy W1 v.ownBlock):aX W1 c.G (c.dY v u):=by obtain⟨l,hl⟩:=h.row;refine h.box.dZ hg (fun e=>?_);rcases hl.2 with⟨rfl,_⟩|⟨g',c',cur,rfl,_,hb,_⟩;{cases e};simp only[Value.ownBlock,af]at e;subst e;exact(Ty.ne ⟨_,_,hb⟩ h.ty (by decide)) rfl
def GP (c:GC)(n k nl:Nat)(W:World)(e:Ending)(w':World):Prop:=
 e= .returned (.tuple #[])/\∃n' v' u',n<=n'/\n'<=n+k/\GS c n' v' nl u' w'/\KB c.N c.B W w'
theorem bF (op x:Int)(h:GS c n v nl u W)(hn:n+1<=8796093022208):Calls Tryz.prog 79 #[.pointer (some ⟨c.G,0,none⟩), .int .i64 op, .int .i64 x] W fun e w'=>e= .returned (.tuple #[])/\∃v',GS c (n+1) v' nl u w'/\KB c.N c.B W w':=by obtain⟨i0,hi,hz0,hz1,hz2⟩:=lT BV;obtain⟨ad,cv,rfl⟩:=h.slice;have hB1:=aB W (.cells #[.int .i64 op, .int .i64 x] 95);have hB2:=hB1.trans ((eG _ (W.alloc (.cells #[.int .i64 op, .int .i64 x] 95))).drew.mono hB1.size);have h1:=h.kept hB1;have kb:=KB.below (N:=c.N) (B:=c.B) hB1 h.size;obtain⟨l,hl⟩:=h1.row;obtain⟨-,c1,-,-,-,c5⟩:=h.cells;obtain⟨-,d1,-,-,-,d5⟩:=h1.cells;have f1:=(h1.box.2 1 _ rfl).2;have hN:=h.size;have HG:=ae h1;have HK:=ae kb;have HR:=ae hl;clear h h1 hB1 hB2 kb hl;go_enter Tryz.func79,Tryz.ntmps79;go_wp2_with(at_builtin;refine nz _ rfl _ _ 91 rfl c.N 95 i0 (.agg #[.int .i64 0, .int .i64 0]) 2 16 Tryz.underlying91 hi hz0 hz1 hz2 rfl (by decide) _ _ _ rfl HR.out ⟨W.heap.size,0,none⟩ 1 1 [.int .i64 op, .int .i64 x] rfl rfl (Xh _ _ _ _ _ rfl) (by simp[Value.oneCell']) (by simp only[maxLen];omega) (by omega) (by simp;omega) ?_;intro v' wA hown' hgrow _;obtain⟨g',cap',rfl⟩:=qF hown';have pO:=ae (ak hown' hgrow);have pQ:aX wA c.G (c.dY (.slice ad n cv) u):=HG.out.Xq hgrow;have a1:=(pQ.2 1 _ rfl).1;have af1:=(pQ.2 1 _ rfl).2;clear hown' hgrow pQ);(try simp only[Exit.inBlock,Exit.then]);refine fG (fE rfl _ _ _) rfl ⟨rfl, .slice (some ⟨g',0,none⟩) (n+1) cap',?_⟩;have hrow:wA.ownsRow c.N 95 2 (.slice (some ⟨g',0,none⟩) (n+1) cap') (n+1) (encS (l++[(op,x)])):=by{rw[Ib];exact pO.out.1};obtain⟨k1,k2⟩:=HG.out.app pO.out.2 hrow;exact⟨k1,HK.out.trans k2⟩
end
section
variable {c : GC} {n nl : Nat} {v u : Value} {W W' : World}
def VS (c:GC)(d:Int)(k:Nat):Prop:=∀(n:Nat)(v:Value)(nl:Nat)(u:Value)(W:World),GS c n v nl u W->n+k<=8796093022208->(nl:Int)+d<=9->Calls Tryz.prog 111 #[.pointer (some ⟨c.G,0,none⟩), .int .i64 d] W (GP c n k nl W)
def DS (c:GC)(d:Int)(k:Nat):Prop:=∀(n:Nat)(v:Value)(nl:Nat)(u:Value)(W:World),GS c n v nl u W->n+k<=8796093022208->(nl:Int)+d<=9->Calls Tryz.prog 110 #[.pointer (some ⟨c.G,0,none⟩), .int .i64 d] W (GP c n k nl W)
def QS (c:GC)(d:Int)(k:Nat):Prop:=∀(n:Nat)(v:Value)(nl:Nat)(u:Value)(W:World)(wd:Int),GS c n v nl u W->n+k<=8796093022208->(nl:Int)+d<=9->Calls Tryz.prog 78 #[.pointer (some ⟨c.G,0,none⟩), .int .i64 wd, .int .i64 d] W (GP c n k nl W)
def XS (c:GC)(d:Int)(k:Nat):Prop:=∀(n:Nat)(v:Value)(nl:Nat)(u:Value)(W:World)(op wd:Int),GS c n v nl u W->n+k<=8796093022208->(nl:Int)+d<=9->Calls Tryz.prog 130 #[.pointer (some ⟨c.G,0,none⟩), .int .i64 op, .int .i64 wd, .int .i64 d] W (GP c n k nl W)
def CS (c:GC)(d:Int)(k:Nat):Prop:=∀(n:Nat)(v:Value)(nl:Nat)(u:Value)(W:World)(gv:Int),GS c n v nl u W->n+k<=8796093022208->(nl:Int)+d<=9->Calls Tryz.prog 131 #[.pointer (some ⟨c.G,0,none⟩), .int .i64 d, .int .i64 gv] W fun e w'=>∃b:Bool,e= .returned (.bool b)/\∃n' v' u',n<=n'/\n'<=n+k/\(b=false->n'=n)/\GS c n' v' nl u' w'/\KB c.N c.B W w'
def AS (c:GC)(k:Nat):Prop:=∀(n:Nat)(v:Value)(nl:Nat)(u:Value)(W:World),GS c n v nl u W->n+k<=8796093022208->(nl:Int)+1<=9->Calls Tryz.prog 129 #[.pointer (some ⟨c.G,0,none⟩)] W (GP c n k nl W)
theorem GP.mk{n':Nat}{u':Value}(h0:n<=n')(h1:n'<=n+k)(h:GS c n' v' nl u' w')(hk:KB c.N c.B W w'):GP c n k nl W (.returned (.tuple #[])) w':=⟨rfl,n',v',u',h0,h1,h,hk⟩
theorem abP (d:Int)(hd:d<=0):VS c d 1:=by intro n v nl u W h hn hnl;have K0:=KB.refl c.N c.B W;have h0:=h;clear h;obtain⟨c0,c1,c2,c3,c4,c5⟩:=h0.cells;go_enter Tryz.func111,Tryz.ntmps111;go_wp2_with fail;refine(gQ h0 10).mono ?_;rintro e w1⟨k,rfl,k0,km,k1,h1,k1⟩;have K1:=K0.trans k1;clear h0 K0 k1 c0 c1 c2 c3 c4 c5;obtain⟨c0,c1,c2,c3,c4,c5⟩:=h1.cells;have k2:k<10:=by{omega};clear k1;by_cases hL:0<c.L;{go_wp2_with fail;refine(kC h1 2).mono ?_;rintro e w2⟨o,rfl,h2,k2⟩;have K2:=K1.trans k2;clear h1 K1 k2 c0 c1 c2 c3 c4 c5;obtain⟨c0,c1,c2,c3,c4,c5⟩:=h2.cells;cases o;{go_wp2_with fail;refine(vH h2).mono ?_;rintro e w3⟨y,rfl,h3,k3⟩;have K3:=K2.trans k3;clear h2 K2 k3 c0 c1 c2 c3 c4 c5;obtain⟨c0,c1,c2,c3,c4,c5⟩:=h3.cells;go_wp2_with fail;refine(bF 1 y h3 (by omega)).mono ?_;rintro e w4⟨rfl,v4,h4,k4⟩;have K4:=K3.trans k4;clear h3 K3 k4 c0 c1 c2 c3 c4 c5;obtain⟨c0,c1,c2,c3,c4,c5⟩:=h4.cells;go_wp2;(try simp only[Exit.inBlock,Exit.then]);refine fG (fE rfl _ _ _) rfl (GP.mk (by omega) (by omega) h4 K4)};go_wp2_with fail;refine(gQ h2 c.L).mono ?_;rintro e w3⟨y,rfl,y0,ym,y1,h3,k3⟩;have K3:=K2.trans k3;clear h2 K2 k3 c0 c1 c2 c3 c4 c5;obtain⟨c0,c1,c2,c3,c4,c5⟩:=h3.cells;clear y1;go_wp2_with fail;refine(bF 2 y h3 (by omega)).mono ?_;rintro e w4⟨rfl,v4,h4,k4⟩;have K4:=K3.trans k4;clear h3 K3 k4 c0 c1 c2 c3 c4 c5;obtain⟨c0,c1,c2,c3,c4,c5⟩:=h4.cells;go_wp2;(try simp only[Exit.inBlock,Exit.then]);refine fG (fE rfl _ _ _) rfl (GP.mk (by omega) (by omega) h4 K4)};go_wp2_with fail;refine(vH h1).mono ?_;rintro e w2⟨y,rfl,h2,k2⟩;have K2:=K1.trans k2;clear h1 K1 k2 c0 c1 c2 c3 c4 c5;obtain⟨c0,c1,c2,c3,c4,c5⟩:=h2.cells;go_wp2_with fail;refine(bF 1 y h2 (by omega)).mono ?_;rintro e w3⟨rfl,v3,h3,k3⟩;have K3:=K2.trans k3;clear h2 K2 k3 c0 c1 c2 c3 c4 c5;obtain⟨c0,c1,c2,c3,c4,c5⟩:=h3.cells;go_wp2;(try simp only[Exit.inBlock,Exit.then]);refine fG (fE rfl _ _ _) rfl (GP.mk (by omega) (by omega) h3 K3)
end
section
variable {c : GC} {n nl : Nat} {v u : Value} {W W' : World}
theorem GS.last(h:GS c (n+1) v nl u W):∃g cv op x,v= .slice (some ⟨g,0,none⟩) (n+1) cv/\W.cell? ⟨g,n*2,none⟩=some (.int .i64 op)/\W.cell? ⟨g,n*2+1,none⟩=some (.int .i64 x)/\n+1<=cv/\g<W.heap.size:=by obtain⟨l,hl⟩:=h.row;obtain⟨g,cv,rfl⟩:=qF hl;have hll:l.length=n+1:=by{have:=hl.1;rw[jD]at this;omega};have:=kI l n (by omega);exact⟨g,cv,_,_,rfl,(hl.cellAt (n*2) (by omega)).trans this.1,(hl.cellAt (n*2+1) (by omega)).trans this.2,dX hl,(hl.lt g rfl).2⟩
theorem agU (X:World)(H:Nat)(hH:X.heap.size=H)(t:TypeId)(j:Nat)(hj:j<3):(X.alloc (.cells #[.int .i64 3, .int .i64 3, .int .i64 4] t)).cell? ⟨H,j,none⟩=some (.int .i64 ([3,3,4].getD j 0)):=by
 subst hH
 match j,hj with
 |0,_=>simp
 |1,_=>simp
 |2,_=>simp
def Zq (c:GC):Nat->Value->World->Prop
 |0,y,_=>y= .pointer (some ⟨c.G,0,none⟩)
 |1,y,x=>∃tb,c.B<tb/\tb<x.heap.size/\y= .slice (some ⟨tb,0,none⟩) 3 3/\∀j:Nat,j<3->x.cell? ⟨tb,j,none⟩=some (.int .i64 ([3,3,4].getD j 0))
 |2,y,_=>y= .pointer (some ⟨c.B,0,none⟩)
 |3,y,_=>∃j:Nat,j<3/\y= .int .i64 j
 |4,y,x=>∃tb j:Nat,∃t:Int,c.B<tb/\tb<x.heap.size/\y= .pointer (some ⟨tb,j,none⟩)/\x.cell? ⟨tb,j,none⟩=some (.int .i64 t)
 |5,y,_=>∃t:Int,y= .int .i64 t
 |6,y,_=>y= .pointer (some ⟨c.B,0,none⟩)
 |7,y,_=>y= .pointer (some ⟨c.G,0,none⟩)
 |8,y,_=>y= .pointer (some ⟨c.G,0,none⟩)
 |9,y,_=>y= .pointer (some ⟨c.G,2,none⟩)
 |10,y,_=>y= .int .i64 c.L
 |11,y,_=>∃t:Int,y= .int .i64 t
 |_,_,_=>True
theorem Zq.gT(hr:x.grownBy x' (some c.B))(hf:Zq c k y x):Zq c k y x':=by
 have dZ:∀tb j:Nat,c.B<tb->tb<x.heap.size->x'.cell? ⟨tb,j,none⟩=x.cell? ⟨tb,j,none⟩:=fun tb j h1 h2=>KG hr ⟨tb,j,none⟩ h2 (by simp only[ne_eq,af];omega)
 have hs:=hr.size
 unfold Zq at hf ⊢
 split at hf
 all_goals first
   |exact hf
   |(obtain⟨tb,h1,h2,h3,h4⟩:=hf;exact⟨tb,h1,by omega,h3,fun j hj=>(dZ tb j h1 h2).trans (h4 j hj)⟩)
   |(obtain⟨tb,j,t,h1,h2,h3,h4⟩:=hf;exact⟨tb,j,t,h1,by omega,h3,(dZ tb j h1 h2).trans h4⟩)
set_option linter.unusedSimpArgs false in
theorem abW (d:Int)(hd:d<=0)(kv:Nat)(hV:VS c d kv):DS c d (kv+2):=by intro n v nl u W h hn hnl;have K0:=KB.refl c.N c.B W;have h0:=h;clear h;obtain⟨c0,c1,c2,c3,c4,c5⟩:=h0.cells;go_enter Tryz.func110,Tryz.ntmps110;go_wp2_with fail;refine(gQ h0 12).mono ?_;rintro e w1⟨k,rfl,k0,km,k1,h1,k1⟩;have K1:=K0.trans k1;clear h0 K0 k1 c0 c1 c2 c3 c4 c5;obtain⟨c0,c1,c2,c3,c4,c5⟩:=h1.cells;have k2:k<12:=by{omega};clear k1;go_wp2_with fail;refine(hV _ _ _ _ _ h1 (by omega) (by omega)).mono ?_;rintro e w2⟨rfl,n2,v2,u2,lo2,hi2,h2,k2⟩;have K2:=K1.trans k2;clear h1 K1 k2 c0 c1 c2 c3 c4 c5;obtain⟨c0,c1,c2,c3,c4,c5⟩:=h2.cells;by_cases hL:0<c.L;{have ix:=h2.ix;have hbt:=fun X:World=>aB X (.cells #[.int .i64 3, .int .i64 3, .int .i64 4] 2);go_wp2;refine iA 12 [33,34,35,36,37,38,39,40,41,42,43,44] (fun x=>GS c n2 v2 nl u2 x/\KB c.N c.B w2 x) (fun x x'=>x.grownBy x' (some c.B)) (Zq c) (by kernel_rfl) (by kernel_rfl) (by simp) ⟨h2.kept (eG _ _).drew,KB.below (eG _ _).drew h2.size⟩ (fun k y x x' hr hf=>Zq.gT hr hf) ?_ ?_;{simp only[lV,jV];refine⟨?_,?_,?_,?_,?_,?_,?_,?_,?_,?_,?_,?_,trivial⟩;(all_goals intro b x hA hfr aP;unfold Oper.wp;generalize hK:(fun(b':Act) (x':World)=>∃y,_/\_)=K);have e0:b.tmps[0]?.getD undef=_:=aL (hfr 0 (by decide));rotate_left;{simp only[execOp];go_simp;rw[←hK];exact⟨_,rfl,⟨hA.1.kept (hbt x),hA.2.trans (KB.below (hbt x) hA.1.size)⟩,⟨x.heap.size,by have:=hA.1.size;omega,by simp,rfl,fun j hj=>agU x _ rfl _ j hj⟩,World.grownBy_alloc x _ _⟩};have e4:b.tmps[4]?.getD undef=_:=aL (hfr 4 (by decide));rotate_left;{have e35:b.tmps[35]?.getD undef=_:=aL (aP 2 (by kernel_rfl));simp only[execOp];go_simp;refine(aV c.B c.a c.len c.cap c.zs 3 x hA.1.cur).mono ?_;rintro e w'⟨y,rfl,y0,ym,y1,hd⟩;rw[←hK];exact⟨_,rfl,⟨(hA.1.drawn hd).1,hA.2.trans (hA.1.drawn hd).2⟩,⟨y.toNat,by omega,by congr 1;omega⟩,hd.2⟩};{obtain⟨tb,t1,t2,t3,t4⟩:=aP 1 (by kernel_rfl);obtain⟨j,hj,t5⟩:=aP 3 (by kernel_rfl);have e34:b.tmps[34]?.getD undef= .slice (some ⟨tb,0,none⟩) 3 3:=by{simpa[Act.eval]using t3};have e36:b.tmps[36]?.getD undef= .int .i64 j:=by{simpa[Act.eval]using t5};have hj3:(j:Int)<3:=by{omega};simp only[execOp];go_simp;rw[←hK];exact⟨_,rfl,hA,⟨tb,j,_,t1,t2,rfl,t4 j hj⟩,vM _ _⟩};{obtain⟨tb,j,tv,t1,t2,t3,t4⟩:=aP 4 (by kernel_rfl);have e37:b.tmps[37]?.getD undef= .pointer (some ⟨tb,j,none⟩):=by{simpa[Act.eval]using t3};simp only[execOp];go_simp;rw[←hK];exact⟨_,rfl,hA,⟨tv,rfl⟩,vM _ _⟩};have e4:b.tmps[4]?.getD undef=_:=aL (hfr 4 (by decide));rotate_left;have e0:b.tmps[0]?.getD undef=_:=aL (hfr 0 (by decide));rotate_left;have e40:b.tmps[40]?.getD undef=_:=aL (aP 7 (by kernel_rfl));rotate_left;have e41:b.tmps[41]?.getD undef=_:=aL (aP 8 (by kernel_rfl));rotate_left;have e42:b.tmps[42]?.getD undef=_:=aL (aP 9 (by kernel_rfl));have c2x:=hA.1.cells.2.2.1;rotate_left;{have e39:b.tmps[39]?.getD undef=_:=aL (aP 6 (by kernel_rfl));have e43:b.tmps[43]?.getD undef=_:=aL (aP 10 (by kernel_rfl));simp only[execOp];go_simp;refine(aV c.B c.a c.len c.cap c.zs c.L x hA.1.cur).mono ?_;rintro e w'⟨y,rfl,y0,ym,y1,hd⟩;rw[←hK];exact⟨_,rfl,⟨(hA.1.drawn hd).1,hA.2.trans (hA.1.drawn hd).2⟩,⟨y,rfl⟩,hd.2⟩};all_goals simp only[execOp];go_simp;rw[←hK];exact⟨_,rfl,hA,rfl,vM _ _⟩};intro b x hA hF hb;have e33:b.eval (.tmp 33)= .pointer (some ⟨c.G,0,none⟩):=hF 0 (by decide);obtain⟨t5,e38⟩:∃t:Int,b.eval (.tmp 38)= .int .i64 t:=hF 5 (by decide);obtain⟨t11,e44⟩:∃t:Int,b.eval (.tmp 44)= .int .i64 t:=hF 11 (by decide);obtain⟨z34,e34⟩:∃z,b.eval (.tmp 34)=z:=⟨_,rfl⟩;obtain⟨z35,e35⟩:∃z,b.eval (.tmp 35)=z:=⟨_,rfl⟩;obtain⟨z36,e36⟩:∃z,b.eval (.tmp 36)=z:=⟨_,rfl⟩;obtain⟨z37,e37⟩:∃z,b.eval (.tmp 37)=z:=⟨_,rfl⟩;obtain⟨z39,e39⟩:∃z,b.eval (.tmp 39)=z:=⟨_,rfl⟩;obtain⟨z40,e40⟩:∃z,b.eval (.tmp 40)=z:=⟨_,rfl⟩;obtain⟨z41,e41⟩:∃z,b.eval (.tmp 41)=z:=⟨_,rfl⟩;obtain⟨z42,e42⟩:∃z,b.eval (.tmp 42)=z:=⟨_,rfl⟩;obtain⟨z43,e43⟩:∃z,b.eval (.tmp 43)=z:=⟨_,rfl⟩;simp only[List.foldl,e33,e34,e35,e36,e37,e38,e39,e40,e41,e42,e43,e44]at hb;clear hF e33 e34 e35 e36 e37 e38 e39 e40 e41 e42 e43 e44;subst hb;simp only[nJ,nK];obtain⟨h8,k8⟩:=hA;have K8:=K2.trans k8;clear k8 h2 K2 c0 c1 c2 c3 c4 c5;obtain⟨c0,c1,c2,c3,c4,c5⟩:=h8.cells;go_wp2_with fail;refine(bF t5 t11 h8 (by omega)).mono ?_;rintro e w9⟨rfl,v9,h9,k9⟩;have K9:=K8.trans k9;clear h8 K8 k9 c0 c1 c2 c3 c4 c5;obtain⟨c0,c1,c2,c3,c4,c5⟩:=h9.cells;obtain⟨gl,cl,opl,xl,hv,l1,l2,l3,l4⟩:=h9.last;subst hv;have l3Z:((n2+1:Nat):Int)<=(cl:Int):=by{omega};by_cases ho:opl=4;{subst ho;go_wp2;have b1:=fun p:bK w9=>(h9.kept p.h).cells.2.1;have b2:=fun p:bK w9=>(p.h.cell (p:=⟨gl,n2*2,none⟩) l4).trans l1;have hne:=bK.any w9;clear l1 l2 c0 c1 c2 c3 c4 c5;refine bV (by kernel_rfl) (by kernel_rfl) ?_;(repeat(go_big_quiet_step (fail)));refine nD ?_;rintro _⟨pw,rfl⟩;have h10:=h9.kept pw.h;have Mj:=K9.trans (KB.below pw.h h9.size);obtain⟨ZQ,sM⟩:∃x,pw.to=x:=⟨_,rfl⟩;rw[sM]at h10 Mj ⊢;clear sM hne h9 K9 b1 b2;obtain⟨c0,c1,c2,c3,c4,c5⟩:=h10.cells;go_wp2_with fail;refine(bF 7 0 h10 (by omega)).mono ?_;rintro e Mk⟨rfl,v11,h11,k11⟩;have K11:=Mj.trans k11;clear h10 Mj k11 c0 c1 c2 c3 c4 c5;obtain⟨c0,c1,c2,c3,c4,c5⟩:=h11.cells;go_wp2;(try simp only[Exit.inBlock,Exit.then]);refine fG (fE rfl _ _ _) rfl (GP.mk (by omega) (by omega) h11 K11)};skip;go_wp2;have b1:=fun p:bK w9=>(h9.kept p.h).cells.2.1;have b2:=fun p:bK w9=>(p.h.cell (p:=⟨gl,n2*2,none⟩) l4).trans l1;have hne:=bK.any w9;clear l1 l2 c0 c1 c2 c3 c4 c5;refine bV (by kernel_rfl) (by kernel_rfl) ?_;(repeat(go_big_quiet_step (fail)));refine nD ?_;rintro _⟨pw,rfl⟩;have h10:=h9.kept pw.h;have Mj:=K9.trans (KB.below pw.h h9.size);obtain⟨ZQ,sM⟩:∃x,pw.to=x:=⟨_,rfl⟩;rw[sM]at h10 Mj ⊢;clear sM hne h9 K9 b1 b2;obtain⟨c0,c1,c2,c3,c4,c5⟩:=h10.cells;go_wp2;(try simp only[Exit.inBlock,Exit.then]);refine fG (fE rfl _ _ _) rfl (GP.mk (by omega) (by omega) h10 Mj)};go_wp2_with fail;refine(bF 7 0 h2 (by omega)).mono ?_;rintro e w3⟨rfl,v3,h3,k3⟩;have K3:=K2.trans k3;clear h2 K2 k3 c0 c1 c2 c3 c4 c5;obtain⟨c0,c1,c2,c3,c4,c5⟩:=h3.cells;go_wp2;(try simp only[Exit.inBlock,Exit.then]);refine fG (fE rfl _ _ _) rfl (GP.mk (by omega) (by omega) h3 K3)
end
section
variable {c : GC} {n nl : Nat} {v u : Value} {W W' : World}
theorem CZ (d:Int)(hd0:0<=d)(hd1:d<=3)(kv:Nat)(hV:VS c (d-1) kv):CS c d (3*kv+1):=by intro n v nl u W gv h hn hnl;have K0:=KB.refl c.N c.B W;have h0:=h;clear h;obtain⟨c0,c1,c2,c3,c4,c5⟩:=h0.cells;go_enter Tryz.func131,Tryz.ntmps131;go_wp2;have b0:=fun p:bK W=>(h0.kept p.h).cells.1;have b3:=fun p:bK W=>(h0.kept p.h).cells.2.2.2.1;have hne:=bK.any W;clear c0 c1 c2 c3 c4 c5;refine aT 9 (by kernel_rfl) (by kernel_rfl) ?_;simp only[lV,jV,nJ,nK];(repeat(go_big_quiet_step (fail)));refine nD ?_;rintro _⟨pw,rfl⟩;have h1:=h0.kept pw.h;have K1:=K0.trans (KB.below pw.h h0.size);obtain⟨w1,hw1⟩:∃x,pw.to=x:=⟨_,rfl⟩;rw[hw1]at h1 K1 ⊢;clear hw1 hne h0 K0 b0 b3;obtain⟨c0,c1,c2,c3,c4,c5⟩:=h1.cells;go_wp2_with fail;refine(gQ h1 c.nf).mono ?_;rintro e w2⟨y,rfl,y0,ym,y1,h2,k2⟩;have K2:=K1.trans k2;clear h1 K1 k2 c0 c1 c2 c3 c4 c5;obtain⟨c0,c1,c2,c3,c4,c5⟩:=h2.cells;obtain⟨j,rfl⟩:∃j:Nat,y=j:=⟨y.toNat,by omega⟩;have hj:j<c.nf:=by{have:=h2.nf;omega};have PT:(j:Int)<(c.nf:Int):=by{omega};clear y1 y0 ym;obtain⟨p,q,p0,p3,hp,hq⟩:=h2.fn j hj;have nf:=h2.nf;have ix:=h2.ix;have hsz:=h2.size;by_cases hg:q=gv;{subst hg;go_wp2;clear c0 c1 c2 c3 c4 c5 hp hq;go_loopw [8] (fun i wr=>∃(r n1:Nat)(v1 u1:Value),i= .int .i64 r/\n<=n1/\Hid ((r=0/\n1<=n+3*kv)\/(r=1/\n1<=n+2*kv)\/(r=2/\n1<=n+kv)\/(r=3/\n1<=n))/\GS c n1 v1 nl u1 wr/\KB c.N c.B W wr) (fun i _=>(intOf i).toNat);(case atStart=>obtain⟨r,rfl⟩:∃r:Nat,p=r:=⟨p.toNat,by omega⟩;exact⟨r,n,_,_,rfl,bI _,(by unfold Hid;omega),h2,K2⟩);case round=>obtain⟨r,n3,v3,u3,rfl,lo3,HR,h3,K3⟩:=hrel;clear h2 K2 p0 p3 ix hsz;obtain⟨c0,c1,c2,c3,c4,c5⟩:=h3.cells;by_cases hr:0<r;{have hb:n3+kv<=n+3*kv:=by{have:=HR.out;omega};have hr3:r<=3:=by{have:=HR.out;omega};go_wp2_with fail;refine(hV _ _ _ _ _ h3 (by omega) (by omega)).mono ?_;rintro e w4⟨rfl,n4,v4,u4,lo4,hi4,h4,k4⟩;have K4:=K3.trans k4;clear h3 K3 k4 c0 c1 c2 c3 c4 c5;obtain⟨c0,c1,c2,c3,c4,c5⟩:=h4.cells;go_wp2_with fail;go_roundw;(case rel=>exact⟨r-1,n4,_,_,by congr 1;omega,by omega,(by have:=HR.out;unfold Hid;omega),h4,K4⟩);case measure=>simp[intOf];omega};have hb:n3<=n+3*kv:=by{have:=HR.out;omega};have hr0:r=0:=by{omega};subst hr0;go_wp2_with fail;refine(bF 16 j h3 (by omega)).mono ?_;rintro e w4⟨rfl,v4,h4,k4⟩;have K4:=K3.trans k4;clear h3 K3 k4 c0 c1 c2 c3 c4 c5;obtain⟨c0,c1,c2,c3,c4,c5⟩:=h4.cells;go_wp2;go_ret;exact⟨true,rfl,n3+1,_,_,by omega,by omega,by simp,h4,K4⟩};go_wp2;go_ret;exact⟨false,rfl,n,_,_,bI _,by omega,fun _=>rfl,h2,K2⟩
end
end Go.Proofs.YthkjdjmjdlimnaaGreat
