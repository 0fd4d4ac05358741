/-
  Own texts for a law: LinE2 Mod1 Hgt0 Mod2 Mod3 Hgt1 Mod7 Hgt2 HgtI HgtF HgtN Nest8
-/
import Derived.Test.YtpipjiinmhopmaaGreatMA08
import Derived.Lib.SmallJoins
import Derived.ChangeOld
import Derived.Deep.DeepCutAuto
namespace Go.Proofs.YtpipjiinmhopmaaGreat
open Go.RowKit Go.Shelf
set_option linter.all false
set_option maxRecDepth 100000
set_option maxHeartbeats 16000000
section
open Go.ChangeShapes Go.WideShapes Go.ChangeAt Go.RowKit Go.Shelf Go.Deep
def yh (k:Nat)(fs:List Ln):Prop:=∀j,j<k->(fs.getD j .z).l.length<=1048576
theorem Di (a:Option Addr)(len cap:Nat)(fs:List Ln)(w:World)(hs:LL w a len fs):Calls Tryz.prog 21 #[.slice a len cap, .int .i64 1048576] w fun e w'=>∃r:Int,e= .returned (.int .i64 r)/\(r=-1\/0<=r/\r<=1048576/\len<=1048576/\yh len fs)/\Below w.heap.size w w':=by obtain⟨hl,hm,hrow⟩:=hs;unfold maxLen at hm;by_cases hbig:1048576<len;{go_enter Tryz.func21,Tryz.ntmps21;go_wp2;go_ret;exact⟨-1,rfl, .inl rfl,Below.refl _ _⟩};have hnn:¬((1048576:Int)-(len:Int)<0):=by{omega};go_enter Tryz.func21,Tryz.ntmps21;go_wp2;go_loopw [1,5] (fun n i wr=>∃(k:Nat)(m:Int),i= .int .i64 k/\k<=len/\n= .int .i64 m/\0<=m/\m<=1048576/\yh k fs/\Below w.heap.size w wr) (fun _ i _=>len-(intOf i).toNat);(case atStart=>exact⟨0,_,rfl,Nat.zero_le _,rfl,by omega,by omega,fun j hj=>by omega,Below.refl _ _⟩);case round=>obtain⟨k,m,rfl,hk,rfl,hm0,hm1,hsm,hB⟩:=hrel;have HS:=ae hsm;clear hsm;by_cases hlt:k<len;{rcases hrow with h0|⟨b,off,rfl,hb,hx⟩;{omega};obtain⟨x0,x1,x2,x3,x4,ba,bl,bc,x5,hsl⟩:=hx k hlt;have hx0:=(hB.cell (p:=⟨b,off+k*6,none⟩) hb).trans x0;have hx1:=(hB.cell (p:=⟨b,off+k*6+1,none⟩) hb).trans x1;have hx2:=(hB.cell (p:=⟨b,off+k*6+2,none⟩) hb).trans x2;have hx3:=(hB.cell (p:=⟨b,off+k*6+3,none⟩) hb).trans x3;have hx4:=(hB.cell (p:=⟨b,off+k*6+4,none⟩) hb).trans x4;have hx5:=(hB.cell (p:=⟨b,off+k*6+5,none⟩) hb).trans x5;obtain⟨⟨p,d,aa,bb,n,bd⟩,hpq⟩:∃x,fs.getD k .z=x:=⟨_,rfl⟩;rw[hpq]at hx0 hx1 hx2 hx3 hx4 hsl;simp only at hx0 hx1 hx2 hx3 hx4 hsl;have HP:Hid (fs.getD k .z=⟨p,d,aa,bb,n,bd⟩):=hpq;have RU:Hid (bd.length=bl):=hsl.1;have hcon:=Gb p d aa bb n ba bl bc m hsl.2.1 hm0 hm1 wr;clear hx hpq x0 x1 x2 x3 x4 x5 hsl;by_cases hmb:m<bl;{rw[ay hmb]at hcon;go_wp2_with fail;refine hcon.mono ?_;rintro e w1 ⟨rfl,hB1⟩;have hB2:=hB.trans (hB1.mono hB.size);clear hcon;go_wp2;go_ret;exact⟨-1,rfl, .inl rfl,hB2⟩};rw[ax hmb]at hcon;have hnn:¬(m-(bl:Int)<0):=by{omega};go_wp2_with fail;refine hcon.mono ?_;rintro e w1 ⟨rfl,hB1⟩;have hB2:=hB.trans (hB1.mono hB.size);clear hcon;go_wp2;go_roundw;(case rel=>refine⟨k+1,_,by simp,by omega,rfl,by omega,by omega,fun j hj=>?_,hB2⟩;by_cases e:j=k;{subst e;rw[HP.out];have:=RU.out;simp only;omega};exact HS.out j (by omega));case measure=>simp[intOf];omega};have hke:k=len:=by{omega};subst hke;clear hrow;go_wp2;go_ret;exact⟨m,rfl, .inr ⟨hm0,hm1,by omega,HS.out⟩,hB⟩
theorem Dl (a:Option Addr)(len cap:Nat)(fs:List Ln)(h20:len<=1048576)(hsm:yh len fs)(w:World)(hs:LL w a len fs):Calls Tryz.prog 22 #[.slice a len cap] w fun e w'=>∃v,e= .returned v/\nE w' w.heap.size v fs/\Below w.heap.size w w':=by obtain⟨hl,hm,hrow⟩:=hs;have HL:Hid (fs.length=len):=hl;have KE:=ae hsm;clear hm hl hsm;obtain⟨i0,hi,hz0,hz1,hz2⟩:=info_parts mP;obtain⟨wm,hmk,hown,hgrow⟩:=run_make_full (P:=Tryz.prog) w w.heap.size 24 67 i0 _ 6 Tryz.underlying24 hi hz0 hz1 .i64 .i64 len (by rw[hz2];omega) (by simp only[maxLen];omega) (Nat.le_refl _);have hBm:Below w.heap.size w wm:=⟨hgrow.os,hgrow.tape,hgrow.output,hgrow.size,fun k hk=>hgrow.block k hk (by simp)⟩;have hown0:wm.ownsRow w.heap.size 67 6 (.slice (some ⟨w.heap.size,0,none⟩) len len) len (bV (List.replicate len dQ)):=by{rw[←ug];exact hown};clear hown hgrow;go_enter Tryz.func22,Tryz.ntmps22;go_wp2;go_loopw [4] (fun i wr=>∃(k:Nat)(vs:List Lv),i= .int .i64 k/\k<=len/\vs.length=len/\gy wr (w.heap.size+1) k vs fs/\wr.ownsRow w.heap.size 67 6 (.slice (some ⟨w.heap.size,0,none⟩) len len) len (bV vs)/\Below w.heap.size w wr) (fun i _=>len-(intOf i).toNat);(case atStart=>exact⟨0,_,rfl,Nat.zero_le _,by simp,fun j hj=>by omega,hown0,hBm⟩);case round=>obtain⟨k,vs,rfl,hk,hvl,hvs,hown,hB⟩:=hrel;have HY:=ae (ak hvl hvs);clear hvl hvs hown0 hBm;by_cases hlt:k<len;{rcases hrow with h0|⟨b,off,rfl,hb,hx⟩;{omega};obtain⟨x0,x1,x2,x3,x4,ba,bl,bc,x5,hsl⟩:=hx k hlt;have hx0:=(hB.cell (p:=⟨b,off+k*6,none⟩) hb).trans x0;have hx1:=(hB.cell (p:=⟨b,off+k*6+1,none⟩) hb).trans x1;have hx2:=(hB.cell (p:=⟨b,off+k*6+2,none⟩) hb).trans x2;have hx3:=(hB.cell (p:=⟨b,off+k*6+3,none⟩) hb).trans x3;have hx4:=(hB.cell (p:=⟨b,off+k*6+4,none⟩) hb).trans x4;have hx5:=(hB.cell (p:=⟨b,off+k*6+5,none⟩) hb).trans x5;have DX:=KE.out k hlt;obtain⟨⟨p,d,aa,bb,n,bd⟩,hpq⟩:∃x,fs.getD k .z=x:=⟨_,rfl⟩;rw[hpq]at hx0 hx1 hx2 hx3 hx4 hsl DX;simp only at hx0 hx1 hx2 hx3 hx4 hsl DX;have HP:Hid (fs.getD k .z=⟨p,d,aa,bb,n,bd⟩):=hpq;have hcon:=wX p d aa bb n bd ba bl bc (by have:=hsl.1;omega) _ (hsl.kept hB);have abH:w.heap.size<wr.heap.size:=(World.ownsRow.lt hown _ rfl).2;clear hx hpq x0 x1 x2 x3 x4 x5 hsl DX;go_wp2_with fail;refine hcon.mono ?_;rintro e w1 ⟨gb,cb,rfl,hos,hB1⟩;dsimp only;clear hcon;have hB2:=hB.trans (hB1.mono hB.size);have hown1:=aI hown hB1;have DY:=hos.mono (n₀:=w.heap.size+1) (by omega);obtain⟨hvl,hvs⟩:=HY.out;have J2:=hvs.kept hB1;obtain⟨g0,g1,g2,g3,g4,g5⟩:=eQ vs k (by omega);have hc0:=(World.ownsRow.cellAt hown1 (k*6) (by omega)).trans g0;have hc1:=(World.ownsRow.cellAt hown1 (k*6+1) (by omega)).trans g1;have hc2:=(World.ownsRow.cellAt hown1 (k*6+2) (by omega)).trans g2;have hc3:=(World.ownsRow.cellAt hown1 (k*6+3) (by omega)).trans g3;have hc4:=(World.ownsRow.cellAt hown1 (k*6+4) (by omega)).trans g4;have R7:=(World.ownsRow.cellAt hown1 (k*6+5) (by omega)).trans g5;obtain⟨⟨p',d',a',b',n',v'⟩,J3⟩:∃x,vs.getD k dQ=x:=⟨_,rfl⟩;rw[J3]at hc0 hc1 hc2 hc3 hc4 R7;simp only at hc0 hc1 hc2 hc3 hc4 R7;have hf0:=hown1.frozenAt (k*6);have hf1:=hown1.frozenAt (k*6+1);have hf2:=hown1.frozenAt (k*6+2);have hf3:=hown1.frozenAt (k*6+3);have hf4:=hown1.frozenAt (k*6+4);have hf5:=hown1.frozenAt (k*6+5);have iC:=hown1.stored (k*6) (.int .i64 p);have pF:=iC.1.stored (k*6+1) (.int .i64 d);have wN:=pF.1.stored (k*6+2) (.int .i64 aa);have wO:=wN.1.stored (k*6+3) (.int .i64 bb);have wP:=wO.1.stored (k*6+4) (.int .i64 n);have qN:=wP.1.stored (k*6+5) (.slice (some ⟨gb,0,none⟩) bl cb);have hgr:=(aO (aO (aO (aO (aO iC.2 pF.2) wN.2) wO.2) wP.2) qN.2);have UO:=J2.other hgr (by omega);have nN:OI _ (w.heap.size+1) (.slice (some ⟨gb,0,none⟩) bl cb) bd:=DY.bT hgr (fun g hgg=>by have:=(World.ownsRow.lt DY g hgg).1;omega);rw[←jN vs k (p,d,aa,bb,n,(.slice (some ⟨gb,0,none⟩) bl cb))]at qN;have HST:=ae (ak qN.1 (ak UO nN));clear hvl hvs J2 g0 g1 g2 g3 g4 g5 J3 iC pF wN wO wP qN hgr UO nN DY hos;have hB3:=((((((hB2.setCell (p:=⟨w.heap.size,k*6,none⟩) (Nat.le_refl _) (.int .i64 p)).setCell (p:=⟨w.heap.size,k*6+1,none⟩) (Nat.le_refl _) (.int .i64 d)).setCell (p:=⟨w.heap.size,k*6+2,none⟩) (Nat.le_refl _) (.int .i64 aa)).setCell (p:=⟨w.heap.size,k*6+3,none⟩) (Nat.le_refl _) (.int .i64 bb)).setCell (p:=⟨w.heap.size,k*6+4,none⟩) (Nat.le_refl _) (.int .i64 n)).setCell (p:=⟨w.heap.size,k*6+5,none⟩) (Nat.le_refl _) (.slice (some ⟨gb,0,none⟩) bl cb));go_wp2;go_roundw;(case rel=>obtain⟨hvl,hvs⟩:=HY.out;obtain⟨s1,s2,s3⟩:=HST.out;refine⟨k+1,vs.set k (p,d,aa,bb,n,(.slice (some ⟨gb,0,none⟩) bl cb)),by simp,by omega,by simp[hvl],fun j hj=>?_,s1,hB3⟩;by_cases e:j=k;{subst e;have e1:(vs.set j (p,d,aa,bb,n,(.slice (some ⟨gb,0,none⟩) bl cb))).getD j dQ=(p,d,aa,bb,n,(.slice (some ⟨gb,0,none⟩) bl cb)):=by{rw[ah,List.getElem?_set_self (by omega)];rfl};rw[e1,HP.out];exact⟨rfl,rfl,rfl,rfl,rfl,s3⟩};have e1:(vs.set k (p,d,aa,bb,n,(.slice (some ⟨gb,0,none⟩) bl cb))).getD j dQ=vs.getD j dQ:=by{rw[ah,List.getElem?_set_ne (by omega),←ah]};rw[e1];exact s2 j (by omega));case measure=>simp[intOf];omega};have hke:k=len:=by{omega};subst hke;clear hrow;go_wp2;go_ret;obtain⟨hvl,hvs⟩:=HY.out;rw[←HL.out]at hown hvs;exact⟨_,by rw[←HL.out];rfl,⟨_,_,vs,rfl,hown,hvs.mono (by omega)⟩,hB⟩
theorem yL (a b:Option Addr)(len cap cap':Nat)(fs:List Ln)(w:World)(hs:LL w a len fs)(hs':LL w b len fs):Calls Tryz.prog 24 #[.slice a len cap, .slice b len cap'] w fun e w'=>e= .returned (.bool true)/\Below w.heap.size w w':=by obtain⟨hl,hm,hrow⟩:=hs;obtain⟨-,-,hrow'⟩:=hs';clear hl;unfold maxLen at hm;go_enter Tryz.func24,Tryz.ntmps24;go_wp2;go_loopw [5] (fun i wr=>∃k:Nat,i= .int .i64 k/\k<=len/\Below w.heap.size w wr) (fun i _=>len-(intOf i).toNat);(case atStart=>exact⟨0,rfl,Nat.zero_le _,Below.refl _ _⟩);case round=>obtain⟨k,rfl,hk,hB⟩:=hrel;by_cases hlt:k<len;{rcases hrow with h0|⟨b1,lh,rfl,hb1,hx1⟩;{omega};rcases hrow' with h0|⟨b2,fQ,rfl,hb2,hx2⟩;{omega};obtain⟨x0,x1,x2,x3,x4,ba,bl,bc,x5,hsl⟩:=hx1 k hlt;obtain⟨y0,y1,y2,y3,y4,ba',R8,bc',y5,J4⟩:=hx2 k hlt;obtain⟨⟨p,d,aa,bb,n,bd⟩,hpq⟩:∃x,fs.getD k .z=x:=⟨_,rfl⟩;rw[hpq]at x0 x1 x2 x3 x4 y0 y1 y2 y3 y4 hsl J4;simp only at x0 x1 x2 x3 x4 y0 y1 y2 y3 y4 hsl J4;obtain rfl:bl=R8:=hsl.1.symm.trans J4.1;have hs1:=hsl.kept hB;have hs2:=J4.kept hB;have hc0:∀wx:bW wr,wx.to.cell? ⟨b1,lh+k*6,none⟩=some (.int .i64 p):=fun wx=>((hB.trans (wx.h.mono hB.size)).cell (p:=⟨b1,lh+k*6,none⟩) hb1).trans x0;have hc1:∀wx:bW wr,wx.to.cell? ⟨b1,lh+k*6+1,none⟩=some (.int .i64 d):=fun wx=>((hB.trans (wx.h.mono hB.size)).cell (p:=⟨b1,lh+k*6+1,none⟩) hb1).trans x1;have hc2:∀wx:bW wr,wx.to.cell? ⟨b1,lh+k*6+2,none⟩=some (.int .i64 aa):=fun wx=>((hB.trans (wx.h.mono hB.size)).cell (p:=⟨b1,lh+k*6+2,none⟩) hb1).trans x2;have hc3:∀wx:bW wr,wx.to.cell? ⟨b1,lh+k*6+3,none⟩=some (.int .i64 bb):=fun wx=>((hB.trans (wx.h.mono hB.size)).cell (p:=⟨b1,lh+k*6+3,none⟩) hb1).trans x3;have hc4:∀wx:bW wr,wx.to.cell? ⟨b1,lh+k*6+4,none⟩=some (.int .i64 n):=fun wx=>((hB.trans (wx.h.mono hB.size)).cell (p:=⟨b1,lh+k*6+4,none⟩) hb1).trans x4;have R7:∀wx:bW wr,wx.to.cell? ⟨b1,lh+k*6+5,none⟩=some (.slice ba bl bc):=fun wx=>((hB.trans (wx.h.mono hB.size)).cell (p:=⟨b1,lh+k*6+5,none⟩) hb1).trans x5;have hd0:∀wx:bW wr,wx.to.cell? ⟨b2,fQ+k*6,none⟩=some (.int .i64 p):=fun wx=>((hB.trans (wx.h.mono hB.size)).cell (p:=⟨b2,fQ+k*6,none⟩) hb2).trans y0;have hd1:∀wx:bW wr,wx.to.cell? ⟨b2,fQ+k*6+1,none⟩=some (.int .i64 d):=fun wx=>((hB.trans (wx.h.mono hB.size)).cell (p:=⟨b2,fQ+k*6+1,none⟩) hb2).trans y1;have hd2:∀wx:bW wr,wx.to.cell? ⟨b2,fQ+k*6+2,none⟩=some (.int .i64 aa):=fun wx=>((hB.trans (wx.h.mono hB.size)).cell (p:=⟨b2,fQ+k*6+2,none⟩) hb2).trans y2;have hd3:∀wx:bW wr,wx.to.cell? ⟨b2,fQ+k*6+3,none⟩=some (.int .i64 bb):=fun wx=>((hB.trans (wx.h.mono hB.size)).cell (p:=⟨b2,fQ+k*6+3,none⟩) hb2).trans y3;have hd4:∀wx:bW wr,wx.to.cell? ⟨b2,fQ+k*6+4,none⟩=some (.int .i64 n):=fun wx=>((hB.trans (wx.h.mono hB.size)).cell (p:=⟨b2,fQ+k*6+4,none⟩) hb2).trans y4;have hd5:∀wx:bW wr,wx.to.cell? ⟨b2,fQ+k*6+5,none⟩=some (.slice ba' bl bc'):=fun wx=>((hB.trans (wx.h.mono hB.size)).cell (p:=⟨b2,fQ+k*6+5,none⟩) hb2).trans y5;have hne:=bW.any wr;clear hx1 hx2 x0 x1 x2 x3 x4 x5 y0 y1 y2 y3 y4 y5 hpq hsl J4;go_wp2;refine aS (by kernel_rfl) (by kernel_rfl) ?_;(repeat(go_big_quiet_step (first|(go_at_call 53;refine eP (Bb _ _ _ _ _ bd _ _ _ _ _ _ (hs1.kept (bW.h _)) (hs2.kept (bW.h _)))))));refine wpQuiet_nil ?_;rintro _ ⟨pw,rfl⟩;have bA:=hB.trans (pw.h.mono hB.size);generalize pw.to=w7 at*;go_wp2;go_roundw;(case rel=>exact⟨k+1,by simp,by omega,bA⟩);case measure=>simp[intOf];omega};clear hrow hrow';go_wp2;go_ret;exact⟨rfl,hB⟩
theorem JD {H:Type}{jF:TypeId×Value->H}{W:World}{v:Value}{m:Nat}{y:DataW H×List MemPlace}(h:DataW.trod jF Tryz.prog W 0 (fun _=>true) true m 26 [v]=some y):∃a len cap xs,v= .slice a len cap/\IL W a len xs:=by rcases open_ints Tryz.underlying26 Tryz.underlying2 (by kernel_rfl) h with⟨hcs,_⟩|⟨x,l,c,zs,hcs,_⟩;{simp only[List.cons.injEq,and_true]at hcs;subst hcs;exact⟨none,0,0,[],rfl,rfl,Nat.zero_le _, .inl rfl⟩};simp only[List.cons.injEq,and_true]at hcs;subst hcs;obtain⟨xs,hx⟩:=SN (cap:=c) (a:=some x) (len:=l) (d:=y.1) (ps:=y.2) ⟨m,by simpa[Value.cells]using h⟩;exact⟨_,_,_,xs,rfl,hx⟩
theorem Gt {H:Type}{jF:TypeId×Value->H}{W:World}{v0 v1 v2 v3 v4 v5:Value}{m:Nat}{y:DataW H×List MemPlace}(h:DataW.trod jF Tryz.prog W 0 (fun _=>true) true m 70 [v0,v1,v2,v3,v4,v5]=some y):∃k d a b n la ln lc xs,v0= .int .i64 k/\v1= .int .i64 d/\v2= .int .i64 a/\v3= .int .i64 b/\v4= .int .i64 n/\v5= .slice la ln lc/\IL W la ln xs:=by
 obtain⟨xs,f,-,-,-,hlen,hf⟩:=DataW.trod_struct Tryz.underlying70 h
 match xs,hlen with
 |[y0,y1,y2,y3,y4,y5],_=>
  have c1:Tryz.prog.cellsOf 2=1:=by kernel_rfl
  have c2:Tryz.prog.cellsOf 26=1:=by kernel_rfl
  have t0:=hf 0 _ rfl
  have t1:=hf 1 _ rfl
  have t2:=hf 2 _ rfl
  have t3:=hf 3 _ rfl
  have t4:=hf 4 _ rfl
  have t5:=hf 5 _ rfl
  simp[c1,c2]at t0 t1 t2 t3 t4 t5
  obtain⟨k,e0,_⟩:=DataW.trod_int Tryz.underlying2 t0
  obtain⟨d,e1,_⟩:=DataW.trod_int Tryz.underlying2 t1
  obtain⟨a,e2,_⟩:=DataW.trod_int Tryz.underlying2 t2
  obtain⟨b,e3,_⟩:=DataW.trod_int Tryz.underlying2 t3
  obtain⟨n,e4,_⟩:=DataW.trod_int Tryz.underlying2 t4
  obtain⟨la,ln,lc,zs,e5,hs⟩:=JD t5
  exact⟨k,d,a,b,n,la,ln,lc,zs,by simpa using e0,by simpa using e1,by simpa using e2,by simpa using e3,by simpa using e4,e5,hs⟩
theorem LH {H:Type}{jF:TypeId×Value->H}{W:World}{v:Value}{n:Nat}{x:DataW H×List MemPlace}(hf:DataW.trod jF Tryz.prog W 0 (fun _=>true) true n 41 [v]=some x):∃a len cap fs,v= .slice a len cap/\LL W a len fs:=by
 rcases open_slice Tryz.underlying41 hf with⟨hcs,_⟩|⟨x,l,c,m,n,D,Pl,hcs,_,hl,hm,hmm,_,hx⟩
 · simp at hcs;subst hcs;exact⟨none,0,0,[],rfl,rfl,Nat.zero_le _, .inl rfl⟩
 · simp at hcs
   subst hcs
   simp only[if_true]at hmm
   subst hmm
   have ce:Tryz.prog.cellsOf 70=6:=by kernel_rfl
   have each:∀i,i<m->∃q:Ln×Option Addr×Nat×Nat,W.cell? (x.add (i*6))=some (.int .i64 q.1.k)/\W.cell? (x.add (i*6+1))=some (.int .i64 q.1.d)/\W.cell? (x.add (i*6+2))=some (.int .i64 q.1.a)/\W.cell? (x.add (i*6+3))=some (.int .i64 q.1.b)/\W.cell? (x.add (i*6+4))=some (.int .i64 q.1.n)/\W.cell? (x.add (i*6+5))=some (.slice q.2.1 q.2.2.1 q.2.2.2)/\IL W q.2.1 q.2.2.1 q.1.l:=by
    intro i hi
    obtain⟨cs',h1,h2⟩:=hx i hi
    rw[ce]at h1
    obtain⟨_,hlen,hcell⟩:=World.cells?_some h1
    match cs',hlen with
    |[v0,v1,v2,v3,v4,v5],_=>
     obtain⟨k,d,a,b,n,la,ln,lc,xs,rfl,rfl,rfl,rfl,rfl,rfl,hs⟩:=Gt h2
     have g0:=hcell 0 (by omega)
     have g1:=hcell 1 (by omega)
     have g2:=hcell 2 (by omega)
     have g3:=hcell 3 (by omega)
     have g4:=hcell 4 (by omega)
     have g5:=hcell 5 (by omega)
     rw[add_add]at g0 g1 g2 g3 g4 g5
     exact⟨(⟨k,d,a,b,n,xs⟩,la,ln,lc),by simpa using g0,by simpa using g1,by simpa using g2,by simpa using g3,by simpa using g4,by simpa using g5,hs⟩
   haveI:Inhabited (Ln×Option Addr×Nat×Nat):=⟨(.z,none,0,0)⟩
   obtain⟨q,hq⟩:=choose_lt each
   by_cases h0:l=0
   · subst h0;exact⟨_,_,_,[],rfl,rfl,Nat.zero_le _, .inl rfl⟩
   · have hspot:x.spot=none:=by{have hc:=(hq 0 (by omega)).1;have:=World.cell?_spot hc;obtain⟨b,off,spot⟩:=x;simpa[Addr.add]using this};obtain⟨b,off,spot⟩:=x;simp only at hspot;subst hspot;(have hadd:∀i,(⟨b,off,none⟩:Addr).add i=⟨b,off+i,none⟩:=fun i=>by unfold Addr.add;split<;>simp_all);have hb:b<W.heap.size:=by{have:=World.block_lt_of_cell? _ _ (hq 0 (by omega)).1;simpa[hadd]using this};refine⟨_,_,_,(List.range l).map fun j=>(q j).1,rfl,by simp,Nat.le_trans hl hm, .inr ⟨b,off,rfl,hb,fun j hj=>?_⟩⟩;obtain⟨k0,k1,k2,k3,k4,k5,k6⟩:=hq j (by omega);rw[hadd]at k0 k1 k2 k3 k4 k5;have e:((List.range l).map fun j=>(q j).1).getD j .z=(q j).1:=by{simp[ah,hj]};rw[e];exact⟨k0,by rw[Nat.add_assoc];exact k1,by rw[Nat.add_assoc];exact k2,by rw[Nat.add_assoc];exact k3,by rw[Nat.add_assoc];exact k4,_,_,_,by rw[Nat.add_assoc];exact k5,k6⟩
end
structure Fn where
 a:Int
 l:Int
 g:Int
 b:List (Int×Int)
namespace Fn
def z:Fn:=⟨0,0,0,[]⟩
end Fn
namespace Md
def sJ (f:Fn):Bool:=Wd.cK f.a 0 3&&(Wd.cK f.l 0 3&&(Wd.cK f.g 0 1&&(decide (f.b.length<=80)&&St.bD f.b)))
def bD (fs:List Fn):Bool:=fs.all sJ
def ok (fs:List Fn)(d:ByteArray):Bool:=(Wd.cK fs.length 1 4&&decide (d.size<=64))&&bD fs
def sum:List Fn->Nat
 |[]=>0
 |f::fs=>f.b.length+sum fs
theorem aU {fs:List Fn}(h:bD fs=true){j:Nat}(hj:j<fs.length):sJ (fs.getD j .z)=true:=by rw[ah,ai hj];simp only[bD,List.all_eq_true]at h;exact h _ (List.getElem_mem hj)
theorem qx {fs:List Fn}{j:Nat}(hj:j<fs.length):fs.take (j+1)=fs.take j++[fs.getD j .z]:=by rw[List.take_add_one,ah,ai hj];rfl
theorem oh (fs:List Fn)(f:Fn):bD (fs++[f])=(bD fs&&sJ f):=by simp[bD]
theorem p9 {fs:List Fn}{j:Nat}(hj:j<fs.length)(h:sJ (fs.getD j .z)=false):bD fs=false:=by rcases e:bD fs with _|_;{rfl};rw[aU e hj]at h;cases h
theorem CR {fs:List Fn}(h:bD fs=true):sum fs<=80*fs.length:=by
 induction fs with
 |nil=>simp[sum]
 |cons x xs ih=>
  simp only[bD,List.all_cons,au]at h
  have:=ih h.2
  have h1:=h.1
  simp only[sJ,au,decide_eq_true_eq]at h1
  simp only[sum,List.length_cons]
  omega
end Md
def FL (w:World)(a:Option Addr)(len:Nat)(fs:List Fn):Prop:=
 fs.length=len/\len<=maxLen/\(len=0\/∃b off,a=some ⟨b,off,none⟩/\b<w.heap.size/\
   ∀ j,j<len->w.cell? ⟨b,off+j*4,none⟩=some (.int .i64 (fs.getD j .z).a)/\w.cell? ⟨b,off+j*4+1,none⟩=some (.int .i64 (fs.getD j .z).l)/\w.cell? ⟨b,off+j*4+2,none⟩=some (.int .i64 (fs.getD j .z).g)/\
     ∃ba bl bc,w.cell? ⟨b,off+j*4+3,none⟩=some (.slice ba bl bc)/\SL w ba bl (fs.getD j .z).b)
theorem FL.kept {w w':World}{a:Option Addr}{len:Nat}{fs:List Fn}(h:FL w a len fs)(hB:Below w.heap.size w w'):FL w' a len fs:=by obtain⟨h1,h2,h3|⟨b,off,rfl,hb,hx⟩⟩:=h;{exact⟨h1,h2, .inl h3⟩};refine⟨h1,h2, .inr ⟨b,off,rfl,aj hb hB.size,fun j hj=>?_⟩⟩;obtain⟨c0,c1,c2,ba,bl,bc,c3,hs⟩:=hx j hj;exact⟨(hB.cell (p:=⟨b,off+j*4,none⟩) hb).trans c0,(hB.cell (p:=⟨b,off+j*4+1,none⟩) hb).trans c1,(hB.cell (p:=⟨b,off+j*4+2,none⟩) hb).trans c2,ba,bl,bc,(hB.cell (p:=⟨b,off+j*4+3,none⟩) hb).trans c3,hs.kept hB⟩
theorem Fz:(Tryz.prog.info? 134).map (fun i=>(i.zero,i.size,i.bytes))=some (some (.agg #[.int .i64 0, .int .i64 0, .int .i64 0, .slice none 0 0]),4,48):=by kernel_rfl
namespace aG
def dep (xs:List (Int×Int)):Nat->Nat
 |0=>0
 |i+1=>if St.opens (op xs i)=true then dep xs i+1 else if op xs i=12 then dep xs i-1 else dep xs i
theorem mJ {xs:List (Int×Int)}{i:Nat}(h:St.opens (op xs i)=true):dep xs (i+1)=dep xs i+1:=ay h
theorem sK {xs:List (Int×Int)}{i:Nat}(h:op xs i=12):dep xs (i+1)=dep xs i-1:=by have:¬St.opens (op xs i)=true:=by{rw[h];decide};show(if _ then _ else _)=_;rw[ax this,ay h]
theorem iJ {xs:List (Int×Int)}{i:Nat}(h:St.opens (op xs i)=false)(h2:op xs i≠12):dep xs (i+1)=dep xs i:=by show(if _ then _ else _)=_;rw[ax (by simp[h]),ax h2]
theorem Jo {xs:List (Int×Int)}:∀(f k:Nat)(E O:List Int)(S:List Nat){Ef Of:List Int},go xs f k E O S=(Ef,Of,true)->S.length=dep xs k->∀i,k<=i->i<xs.length->op xs i=12->dep xs i=0->i+1=xs.length
 |0,k,E,O,S,Ef,Of,h,hd=>by simp[go]at h
 | f + 1,k,E,O,S,Ef,Of,h,hd=>by
   intro i hi hil h12 hd0
   by_cases hk:xs.length<=k
   · rw[pX hk]at h;simp at h
   have hk:k<xs.length:=by omega
   have next:∀(S':List Nat)(E' O':List Int),go xs f (k+1) E' O' S'=(Ef,Of,true)->S'.length=dep xs (k+1)->(i=k->i+1=xs.length)->i+1=xs.length:=by
     intro S' E' O' h' hd' hc
     by_cases e:i=k
     · exact hc e
     · exact Jo f (k+1) E' O' S' h' hd' i (by omega) hil h12 hd0
   rcases ho:St.opens (op xs k)with _|_
   · by_cases h11:op xs k=11
     · rcases S with _|⟨t,S'⟩
       · rw[ko hk ho h11]at h;simp at h
       · by_cases h2:op xs t=10/\O.getD t (-1)<0
         · rw[jU hk ho h11 h2]at h
           refine next _ _ _ h (by rw[iJ ho (by omega)];exact hd) (fun e=>?_)
           subst e;omega
         · rw[iT hk ho h11 h2]at h;simp at h
     · by_cases qO:op xs k=12
       · rcases S with _|⟨t,S'⟩
         · rw[mW hk ho h11 qO]at h
           simp only[Prod.mk.injEq,decide_eq_true_eq]at h
           have:=h.2.2
           omega
         · rw[jH hk ho h11 qO]at h
           refine next _ _ _ h (by rw[sK qO,←hd];simp) (fun e=>?_)
           subst e
           rw[←hd]at hd0
           simp at hd0
       · rw[jY hk ho h11 qO]at h
         refine next _ _ _ h (by rw[iJ ho qO];exact hd) (fun e=>?_)
         subst e;exact absurd h12 qO
   · rw[jP hk ho]at h
     refine next _ _ _ h (by rw[mJ ho];simp[hd]) (fun e=>?_)
     subst e
     rw[h12]at ho
     cases ho
theorem I5 {xs:List (Int×Int)}(h:isOk xs=true){i:Nat}(hi:i<xs.length)(h12:op xs i=12)(hd:dep xs i=0):i+1=xs.length:=by have h2:(all xs).2.2=true:=by{rw[isOk,au]at h;exact h.2};exact Jo (xs.length+1) 0 _ _ [] (Ef:=(all xs).1) (Of:=(all xs).2.1) (by show all xs=_;rw[←h2]) rfl i (Nat.zero_le _) hi h12 hd
end aG
theorem aG.qg (xs:List (Int×Int)):∀i,aG.dep xs i<=i
 |0=>Nat.le_refl _
 | i +1=>by
   have h:=aG.qg xs i
   rcases ho:St.opens (aG.op xs i)with _|_
   · by_cases h12:aG.op xs i=12
     · rw[aG.sK h12];omega
     · rw[aG.iJ ho h12];omega
   · rw[aG.mJ ho];omega
structure dE where
 st:Int
 wd:Int
 cm:Bool
namespace Hg
def mx (a b:Int):Int:=if a<b then b else a
def tk (fs:List Fn)(p a:Int):Int:=
 if p=3\/p=7\/p=14\/p=10 then 1 else if p=4\/p=6\/p=17 then 1 else if p=5 then 2 else if p=18 then 2 else if p=16 then(fs.getD a.toNat .z).a else 0
def pt (fs:List Fn)(p a:Int):Int:=
 if p=1\/p=2 then 1 else if p=4\/p=6\/p=17 then 1 else if p=5 then 1 else if p=16 then(fs.getD a.toNat .z).g else 0
def bad (fs:List Fn)(f:Fn)(o:Int)(n:Nat)(p a:Int):Bool:=
 decide ((p=2\/p=3\/p=4)/\f.a+f.l<=a)||decide (p=16/\(fs.length:Int)<=a)||decide ((p=13\/p=14)/\(n:Int)-1<a)||decide (p=10/\a=1/\o<0)
def eG (S:List dE)(a:Int):Int:=(S.getD a.toNat ⟨0,0,false⟩).wd
def eu (f:Fn)(p a h mo:Int)(x:dE)(S:List dE):Option (Int×Int×List dE):=
 if p=8\/p=9\/p=10 then some (h,mo,⟨h,a,decide (0<=h)⟩::x::S)
 else if p=13\/p=14 then(if 0<=h/\h-x.st<eG (x::S) a then none else some (if p=13 then -1 else h,mo,x::S))
 else if p=15 then(if 0<=h/\h-x.st<f.g then none else some (-1,mo,x::S))
 else if p=19 then some (-1,mo,x::S)
 else if p=11 then(if 0<=h/\h-x.st≠x.wd then none else some (if x.cm=true then x.st else -1,mx mo (if x.cm=true then x.st else -1),x::S))
 else if p=12 then(if 0<=h/\h-x.st≠x.wd then none else some (if x.cm=true then x.st+x.wd else -1,mx mo (if x.cm=true then x.st+x.wd else -1),S))
 else some (h,mo,x::S)
def one (fs:List Fn)(f:Fn)(o p a h mo:Int)(S:List dE):Option (Int×Int×List dE):=
 match S with
 |[]=>none
 | x::S'=>
   if bad fs f o (S'.length+1) p a=true then none
   else if 0<=h then(if h-x.st<tk fs p a then none else eu f p a (h-tk fs p a+pt fs p a) (mx mo (h-tk fs p a+pt fs p a)) x S')
   else eu f p a h mo x S'
def go (fs:List Fn)(f:Fn)(O:List Int):Nat->Nat->Int->Int->List dE->List Int->Option (List Int×Int)
 |0,_,_,mo,_,out=>some (out,mo)
 | n+1,i,h,mo,S,out=>
   match one fs f (O.getD i (-1)) (aG.op f.b i) (f.b.getD i (0,0)).2 h mo S with
   |none=>none
   |some (h',fI,S')=>go fs f O n (i+1) h' fI S' (out++[h])
def all (fs:List Fn)(f:Fn):Option (List Int×Int):=go fs f (aG.aT f.b) f.b.length 0 0 f.g [⟨0,f.g,true⟩] []
def iA (fs:List Fn)(f:Fn):Option (List Int×Int):=
 if aG.isOk f.b=true then match all fs f with
   |some (out,mo)=>if mo<=20 then some (out,mo)else none
   |none=>none
 else none
def iy (fs:List Fn)(d:ByteArray)(k:Int):Option (List Int×Int):=if Md.ok fs d=true/\0<=k/\k<fs.length then iA fs (fs.getD k.toNat .z)else none
def valid (fs:List Fn)(d:ByteArray):Bool:=Md.ok fs d&&(List.range fs.length).all fun(k:Nat)=>(iy fs d k).isSome
theorem kQ {fs:List Fn}{f:Fn}{O:List Int}{i:Nat}{h mo h' fI:Int}{S S':List dE}{out:List Int}(hi:i<f.b.length)(h1:one fs f (O.getD i (-1)) (aG.op f.b i) (f.b.getD i (0,0)).2 h mo S=some (h',fI,S')):go fs f O (f.b.length-i) i h mo S out=go fs f O (f.b.length-(i+1)) (i+1) h' fI S' (out++[h]):=by rw[show f.b.length-i=(f.b.length-(i+1))+1 by omega,go,h1]
theorem mY {fs:List Fn}{f:Fn}{O:List Int}{i:Nat}{h mo:Int}{S:List dE}{out:List Int}(hi:i<f.b.length)(h1:one fs f (O.getD i (-1)) (aG.op f.b i) (f.b.getD i (0,0)).2 h mo S=none):go fs f O (f.b.length-i) i h mo S out=none:=by rw[show f.b.length-i=(f.b.length-(i+1))+1 by omega,go,h1]
theorem Jb {fs:List Fn}{f:Fn}(h:all fs f=none):iA fs f=none:=by unfold iA;rw[h];split<;>rfl
theorem Jj {fs:List Fn}{f:Fn}{out:List Int}{mo:Int}(nk:aG.isOk f.b=true)(h:all fs f=some (out,mo)):iA fs f=if mo<=20 then some (out,mo)else none:=by unfold iA;rw[ay nk,h]
theorem ji {fs:List Fn}{f:Fn}{o p a h mo:Int}{x:dE}{S:List dE}(hb:bad fs f o (S.length+1) p a=true):one fs f o p a h mo (x::S)=none:=by exact ay hb
theorem dM {fs:List Fn}{f:Fn}{o p a h mo:Int}{x:dE}{S:List dE}(hb:bad fs f o (S.length+1) p a=false)(h0:0<=h)(h1:h-x.st<tk fs p a):one fs f o p a h mo (x::S)=none:=by show(if _ then _ else if _ then(if _ then _ else _)else _)=_;rw[ax (by simp[hb]),ay h0,ay h1]
theorem iQ {fs:List Fn}{f:Fn}{o p a h mo:Int}{x:dE}{S:List dE}(hb:bad fs f o (S.length+1) p a=false)(h0:0<=h)(h1:¬h-x.st<tk fs p a):one fs f o p a h mo (x::S)=eu f p a (h-tk fs p a+pt fs p a) (mx mo (h-tk fs p a+pt fs p a)) x S:=by show(if _ then _ else if _ then(if _ then _ else _)else _)=_;rw[ax (by simp[hb]),ay h0,ax h1]
theorem BH {fs:List Fn}{f:Fn}{o p a h mo:Int}{x:dE}{S:List dE}(hb:bad fs f o (S.length+1) p a=false)(h0:h<0):one fs f o p a h mo (x::S)=eu f p a h mo x S:=by show(if _ then _ else if _ then(if _ then _ else _)else _)=_;rw[ax (by simp[hb]),ax (by omega)]
theorem Ht {a b c:Int}(h1:a<=c)(h2:b<=c):mx a b<=c:=by unfold mx;split<;>omega
theorem Ae {a b c:Int}(h:c<=a):c<=mx a b:=by unfold mx;split<;>omega
structure Bd (i:Nat)(h mo:Int)(S:List dE):Prop where
 hb:-1<=h/\h<=i
 mb:0<=mo/\mo<=i+1
 sb:∀x∈S,-1<=x.st/\x.st+x.wd<=i+1/\0<=x.wd/\x.wd<=1
theorem I8 {f:Fn}{p a h mo h' fI:Int}{x:dE}{S S':List dE}{i:Nat}(ha:p=8\/p=9\/p=10->0<=a/\a<=1)(hb:-1<=h/\h<=i+1)(ho:p=8\/p=9\/p=10->h<=i)(mb:0<=mo/\mo<=i+2)(sb:∀x'∈x::S,-1<=x'.st/\x'.st+x'.wd<=i+1/\0<=x'.wd/\x'.wd<=1)(h1:eu f p a h mo x S=some (h',fI,S')):Bd (i+1) h' fI S':=by have sx:=sb x (by simp);have sb':∀x'∈x::S,-1<=x'.st/\x'.st+x'.wd<=((i+1:Nat):Int)+1/\0<=x'.wd/\x'.wd<=1:=fun x' hx=>by{have:=sb x' hx;omega};have sbt:∀x'∈S,-1<=x'.st/\x'.st+x'.wd<=((i+1:Nat):Int)+1/\0<=x'.wd/\x'.wd<=1:=fun x' hx=>sb' x' (List.mem_cons_of_mem _ hx);unfold eu at h1;split at h1;{rename_i hp;have:=ha hp;have:=ho hp;simp only[af,Prod.mk.injEq]at h1;obtain⟨rfl,rfl,rfl⟩:=h1;refine⟨by omega,by omega,fun x' hx=>?_⟩;rcases List.mem_cons.1 hx with rfl|hx;{simp only;omega};exact sb' x' hx};split at h1;{split at h1;{cases h1};simp only[af,Prod.mk.injEq]at h1;obtain⟨rfl,rfl,rfl⟩:=h1;exact⟨by split<;>omega,by omega,sb'⟩};split at h1;{split at h1;{cases h1};simp only[af,Prod.mk.injEq]at h1;obtain⟨rfl,rfl,rfl⟩:=h1;exact⟨by omega,by omega,sb'⟩};split at h1;{simp only[af,Prod.mk.injEq]at h1;obtain⟨rfl,rfl,rfl⟩:=h1;exact⟨by omega,by omega,sb'⟩};split at h1;{split at h1;{cases h1};simp only[af,Prod.mk.injEq]at h1;obtain⟨rfl,rfl,rfl⟩:=h1;refine⟨by split<;>omega,⟨Ae mb.1,Ht (by omega) (by split<;>omega)⟩,sb'⟩};split at h1;{split at h1;{cases h1};simp only[af,Prod.mk.injEq]at h1;obtain⟨rfl,rfl,rfl⟩:=h1;refine⟨by split<;>omega,⟨Ae mb.1,Ht (by omega) (by split<;>omega)⟩,sbt⟩};simp only[af,Prod.mk.injEq]at h1;obtain⟨rfl,rfl,rfl⟩:=h1;exact⟨by omega,by omega,sb'⟩
theorem L6 {f:Fn}{p a h mo h' fI:Int}{x:dE}{S S':List dE}(h1:eu f p a h mo x S=some (h',fI,S')):S'.length=if St.opens p=true then S.length+2 else if p=12 then S.length else S.length+1:=by unfold eu at h1;have ho:St.opens p=true↔(p=8\/p=9\/p=10):=by{unfold St.opens;exact decide_eq_true_iff};split at h1;{rename_i hp;rw[ay (ho.2 hp)];simp only[af,Prod.mk.injEq]at h1;obtain⟨-,-,rfl⟩:=h1;rfl};rename_i hp;rw[ax (fun q=>hp (ho.1 q))];split at h1;{rename_i hp;rw[ax (by omega)];split at h1;{cases h1};simp only[af,Prod.mk.injEq]at h1;obtain⟨-,-,rfl⟩:=h1;rfl};split at h1;{rename_i hp;rw[ax (by omega)];split at h1;{cases h1};simp only[af,Prod.mk.injEq]at h1;obtain⟨-,-,rfl⟩:=h1;rfl};split at h1;{rename_i hp;rw[ax (by omega)];simp only[af,Prod.mk.injEq]at h1;obtain⟨-,-,rfl⟩:=h1;rfl};split at h1;{rename_i hp;rw[ax (by omega)];split at h1;{cases h1};simp only[af,Prod.mk.injEq]at h1;obtain⟨-,-,rfl⟩:=h1;rfl};split at h1;{rename_i hp;rw[ay hp];split at h1;{cases h1};simp only[af,Prod.mk.injEq]at h1;obtain⟨-,-,rfl⟩:=h1;rfl};rename_i hp;rw[ax hp];simp only[af,Prod.mk.injEq]at h1;obtain⟨-,-,rfl⟩:=h1;rfl
theorem y7 {xs:List (Int×Int)}{f:Fn}{a h mo h' fI:Int}{x:dE}{S S':List dE}{i:Nat}(hok:aG.isOk xs=true)(hi:i+1<xs.length)(hd:S.length=aG.dep xs i)(h1:eu f (aG.op xs i) a h mo x S=some (h',fI,S')):S'.length=aG.dep xs (i+1)+1:=by have hl:=L6 h1;rcases ho:St.opens (aG.op xs i)with _|_;{rw[ho,ax (by simp)]at hl;by_cases h12:aG.op xs i=12;{rw[ay h12]at hl;have:aG.dep xs i≠0:=fun e=>by{have:=aG.I5 hok (i:=i) (by omega) h12 e;omega};rw[aG.sK h12];omega};rw[ax h12]at hl;rw[aG.iJ ho h12];omega};rw[ho,ay rfl]at hl;rw[aG.mJ ho];omega
end Hg
theorem AQ (p l g:Int)(body:List (Int×Int))(ba:Option Addr)(bl bc:Nat)(w:World)(hs:SL w ba bl body):Calls Tryz.prog 130 #[.agg #[.int .i64 p, .int .i64 l, .int .i64 g, .slice ba bl bc]] w fun e w'=>e= .returned (.bool (Md.sJ ⟨p,l,g,body⟩))/\Below w.heap.size w w':=by have hl:=hs.1;have hcon:=fun wx (h:Below w.heap.size w wx)=>xA ba bl bc body wx (hs.kept h);have hB1:=aA w (.cells #[.int .i64 p, .int .i64 l, .int .i64 g, .slice ba bl bc] 134);rcases h1:Wd.cK p 0 3 with _|_;{rw[Md.sJ,h1,Bool.false_and];go_enter Tryz.func130,Tryz.ntmps130;go_wp2_with(go_at_call 75;refine(bI _ _ _ _).mono ?_;rintro e w' ⟨rfl,bq⟩;subst w');go_ret;exact⟨rfl,hB1⟩};rcases h2:Wd.cK l 0 3 with _|_;{rw[Md.sJ,h1,h2,Bool.false_and,Bool.and_false];go_enter Tryz.func130,Tryz.ntmps130;go_wp2_with(go_at_call 75;refine(bI _ _ _ _).mono ?_;rintro e w' ⟨rfl,bq⟩;subst w');go_ret;exact⟨rfl,hB1⟩};rcases h3:Wd.cK g 0 1 with _|_;{rw[Md.sJ,h1,h2,h3,Bool.false_and,Bool.and_false,Bool.and_false];go_enter Tryz.func130,Tryz.ntmps130;go_wp2_with(go_at_call 75;refine(bI _ _ _ _).mono ?_;rintro e w' ⟨rfl,bq⟩;subst w');go_ret;exact⟨rfl,hB1⟩};rw[Md.sJ,h1,h2,h3,Bool.true_and,Bool.true_and,Bool.true_and,hl];go_enter Tryz.func130,Tryz.ntmps130;go_wp2_with(go_at_call 75;refine(bI _ _ _ _).mono ?_;rintro e w' ⟨rfl,bq⟩;subst w');refine(hcon _ hB1).mono ?_;rintro e w2 ⟨rfl,hB2⟩;have hB3:=hB1.trans (hB2.mono hB1.size);go_wp2;go_ret;exact⟨rfl,hB3⟩
theorem zG {w w1:World}{a b:Value}{t:TypeId}(hB:Below (w.alloc (.cells #[a,b] t)).heap.size (w.alloc (.cells #[a,b] t)) w1):w1.cell? ⟨w.heap.size,0,none⟩=some a/\w1.cell? ⟨w.heap.size,1,none⟩=some b/\w.heap.size<w1.heap.size:=by have hs:=hB.size;simp only[World.size_alloc]at hs;refine⟨(hB.cell (by simp)).trans ?_,(hB.cell (by simp)).trans ?_,by omega⟩<;>go_simp
theorem nD (a:Option Addr)(len cap:Nat)(fs:List Fn)(d:ByteArray)(hd:d.size<=maxLen)(w:World)(hs:FL w a len fs):Calls Tryz.prog 116 #[.agg #[.slice a len cap, .string d]] w fun e w'=>e= .returned (.bool (Md.ok fs d))/\Below w.heap.size w w':=by obtain⟨hl,hm,hrow⟩:=hs;unfold maxLen at hm hd;have hB1:=aA w (.cells #[.slice a len cap, .string d] 97);have hB0:=Below.refl (w.alloc (.cells #[.slice a len cap, .string d] 97)).heap.size (w.alloc (.cells #[.slice a len cap, .string d] 97));go_enter Tryz.func116,Tryz.ntmps116;go_wp2;go_loopw [3] (fun i wr=>∃k:Nat,i= .int .i64 k/\k<=len/\Md.bD (fs.take k)=true/\Below (w.alloc (.cells #[.slice a len cap, .string d] 97)).heap.size (w.alloc (.cells #[.slice a len cap, .string d] 97)) wr) (fun i _=>len-(intOf i).toNat);(case atStart=>exact⟨0,rfl,Nat.zero_le _,rfl,hB0⟩);case round=>obtain⟨k,rfl,hk,hok,hBr⟩:=hrel;obtain⟨c0,c1,abJ⟩:=zG hBr;have hB:=hB1.trans (hBr.mono hB1.size);have HO:Hid (Md.bD (fs.take k)=true):=hok;have HL:Hid (fs.length=len):=hl;have HB:=ae hBr;clear hok hl hB1 hB0 hBr;by_cases hlt:k<len;{rcases hrow with h0|⟨b,off,rfl,hb,hx⟩;{omega};obtain⟨x0,x1,x2,ba,bl,bc,x3,hsl⟩:=hx k hlt;have hx0:=(hB.cell (p:=⟨b,off+k*4,none⟩) hb).trans x0;have hx1:=(hB.cell (p:=⟨b,off+k*4+1,none⟩) hb).trans x1;have hx2:=(hB.cell (p:=⟨b,off+k*4+2,none⟩) hb).trans x2;have hx3:=(hB.cell (p:=⟨b,off+k*4+3,none⟩) hb).trans x3;obtain⟨⟨p,l,g,bd⟩,hpq⟩:∃x,fs.getD k .z=x:=⟨_,rfl⟩;rw[hpq]at hx0 hx1 hx2 hsl;simp only at hx0 hx1 hx2 hsl;have HP:Hid (fs.getD k .z=⟨p,l,g,bd⟩):=hpq;have hcon:=AQ p l g bd ba bl bc _ (hsl.kept hB);clear hx hpq x0 x1 x2 x3 hsl;rcases ho:Md.sJ ⟨p,l,g,bd⟩with _|_;{rw[ho]at hcon;go_wp2_with fail;refine hcon.mono ?_;rintro e w1 ⟨rfl,hB1⟩;have hB2:=hB.trans (hB1.mono hB.size);clear hcon;go_wp2;go_ret;refine⟨?_,hB2⟩;rw[Md.ok,Md.p9 (j:=k) (by rw[HL.out];exact hlt) (by rw[HP.out];exact ho),Bool.and_false];rfl};rw[ho]at hcon;go_wp2_with fail;refine hcon.mono ?_;rintro e w1 ⟨rfl,hB1⟩;clear hcon;go_wp2;go_roundw;(case rel=>exact⟨k+1,by simp,by omega,by rw[Md.qx (by rw[HL.out];exact hlt),Md.oh,HO.out,HP.out,ho];rfl,HB.out.trans (hB1.mono HB.out.size)⟩);case measure=>simp[intOf];omega};have hke:k=len:=by{omega};subst hke;clear hrow;have e:Md.bD fs=true:=by{have:=HO.out;rwa [List.take_of_length_le (by rw[HL.out];exact Nat.le_refl _)]at this};have eok:Md.ok fs d=(Wd.cK k 1 4&&decide (d.size<=64)):=by{rw[Md.ok,e,Bool.and_true,HL.out]};clear e;have EOK:=ae eok;clear eok;rcases h1:Wd.cK k 1 4 with _|_;{go_wp2_with(go_at_call 75;refine(bI _ _ _ _).mono ?_;rintro e w' ⟨rfl,bq⟩;subst w');go_ret;exact⟨by rw[EOK.out,h1];rfl,hB⟩};go_wp2_with(go_at_call 75;refine(bI _ _ _ _).mono ?_;rintro e w' ⟨rfl,bq⟩;subst w');go_ret;exact⟨bK (by rw[EOK.out,h1];simp;omega),hB⟩
theorem zm (W:World)(n:Nat):Below W.heap.size W (W.drewN n):=⟨rfl,rfl,rfl,Nat.le_refl _,fun _ _=>rfl⟩
theorem aR (a b:Int)(w:World):Calls Tryz.prog 50 #[.int .i64 a, .int .i64 b] w fun e w'=>e= .returned (.int .i64 (Hg.mx a b))/\w'=w:=by by_cases h:b<a;{have e:Hg.mx a b=a:=by{unfold Hg.mx;rw[ax (by omega)]};rw[e];go_enter Tryz.func50,Tryz.ntmps50;go_wp2;go_ret;exact⟨rfl,rfl⟩};have e:Hg.mx a b=b:=by{unfold Hg.mx;split;{rfl};omega};rw[e];go_enter Tryz.func50,Tryz.ntmps50;go_wp2;go_ret;exact⟨rfl,rfl⟩
theorem bf (a:Option Addr)(len cap:Nat)(fs:List Fn)(d:ByteArray)(p q:Int)(hp:1<=p/\p<=20)(hq:p=16->0<=q/\q<len)(w:World)(hs:FL w a len fs):Calls Tryz.prog 131 #[.agg #[.slice a len cap, .string d], .agg #[.int .i64 p, .int .i64 q]] w fun e w'=>e= .returned (.tuple #[.int .i64 (Hg.tk fs p q), .int .i64 (Hg.pt fs p q)])/\Below w.heap.size w w':=by obtain⟨hl,hm,hrow⟩:=hs;have hB2:=wW w (.cells #[.slice a len cap, .string d] 97) (.cells #[.int .i64 p, .int .i64 q] 141);by_cases h16:p=16;{subst h16;obtain⟨hq0,hq1⟩:=hq rfl;obtain⟨j,rfl⟩:∃j:Nat,q=j:=⟨q.toNat,by omega⟩;rcases hrow with h0|⟨b,off,rfl,hb,hx⟩;{omega};have hj:j<len:=by{omega};obtain⟨x0,x1,x2,-⟩:=hx j hj;have y0:=(hB2.cell (p:=⟨b,off+j*4,none⟩) hb).trans x0;have y2:=(hB2.cell (p:=⟨b,off+j*4+2,none⟩) hb).trans x2;have e1:Hg.tk fs 16 j=(fs.getD j .z).a:=by{unfold Hg.tk;simp};have e2:Hg.pt fs 16 j=(fs.getD j .z).g:=by{unfold Hg.pt;simp};rw[e1,e2];obtain⟨⟨fa,fl,fg,fb⟩,hf⟩:∃x,fs.getD j .z=x:=⟨_,rfl⟩;rw[hf]at y0 y2 ⊢;simp only at y0 y2 ⊢;clear hx x0 x1 x2 hf e1 e2 hl;go_enter Tryz.func131,Tryz.ntmps131;go_wp2;go_quiet (fail);go_wp2;go_ret2;exact⟨rfl,hB2.trans ((zm _ _).mono hB2.size)⟩};have hp':p=1\/p=2\/p=3\/p=4\/p=5\/p=6\/p=7\/p=8\/p=9\/p=10\/p=11\/p=12\/p=13\/p=14\/p=15\/p=17\/p=18\/p=19\/p=20:=by{omega};clear hq hp h16 hrow hm hl;rcases hp' with rfl|rfl|rfl|rfl|rfl|rfl|rfl|rfl|rfl|rfl|rfl|rfl|rfl|rfl|rfl|rfl|rfl|rfl|rfl;all_goals go_enter Tryz.func131,Tryz.ntmps131;go_wp2;go_ret2;exact⟨rfl,hB2⟩
abbrev Fv:=Int×Int×Int×Value
def Ll:Fv:=(0,0,0, .slice none 0 0)
def qw (xs:List Fv):List Value:=xs.flatMap fun x=>[.int .i64 x.1, .int .i64 x.2.1, .int .i64 x.2.2.1,x.2.2.2]
theorem Ga (x:Fv)(xs:List Fv):qw (x::xs)= .int .i64 x.1:: .int .i64 x.2.1:: .int .i64 x.2.2.1::x.2.2.2::qw xs:=rfl
theorem Bl (xs ys:List Fv):qw (xs++ys)=qw xs++qw ys:=by simp[qw]
theorem Bn:∀(xs:List Fv)(j:Nat),j<xs.length->(qw xs)[j*4]?=some (.int .i64 (xs.getD j Ll).1)/\(qw xs)[j*4+1]?=some (.int .i64 (xs.getD j Ll).2.1)/\(qw xs)[j*4+2]?=some (.int .i64 (xs.getD j Ll).2.2.1)/\(qw xs)[j*4+3]?=some (xs.getD j Ll).2.2.2
 |[],j,h=>by simp at h
 |x::xs,0,_=>⟨rfl,rfl,rfl,rfl⟩
 | x::xs,j+1,h=>by
   have ih:=Bn xs j (by simp at h;omega)
   rw[Ga,show(j+1)*4=j*4+1+1+1+1 by omega]
   refine⟨by simpa using ih.1,?_,?_,?_⟩
   · rw[show j*4+1+1+1+1+1=(j*4+1)+1+1+1+1 by omega];simpa using ih.2.1
   · rw[show j*4+1+1+1+1+2=(j*4+2)+1+1+1+1 by omega];simpa using ih.2.2.1
   · rw[show j*4+1+1+1+1+3=(j*4+3)+1+1+1+1 by omega];simpa using ih.2.2.2
def wR (W:World)(n₀ k:Nat)(vs:List Fv)(fs:List Fn):Prop:=
 ∀j,j<k->(vs.getD j Ll).1=(fs.getD j .z).a/\(vs.getD j Ll).2.1=(fs.getD j .z).l/\(vs.getD j Ll).2.2.1=(fs.getD j .z).g/\OS W n₀ (vs.getD j Ll).2.2.2 (fs.getD j .z).b
theorem wR.kept {W W':World}{n₀ k:Nat}{vs:List Fv}{fs:List Fn}(h:wR W n₀ k vs fs)(hB:Below W.heap.size W W'):wR W' n₀ k vs fs:=
 fun j hj=>⟨(h j hj).1,(h j hj).2.1,(h j hj).2.2.1,(h j hj).2.2.2.kept hB⟩
theorem OS.other {W W':World}{n₀ k:Nat}{v:Value}{xs:List (Int×Int)}(h:OS W n₀ v xs)(hg:W.grownBy W' (some k))(hne:k<n₀):OS W' n₀ v xs:=by obtain⟨g,cap,rfl,h0,hlt,hm,hrow⟩:=h;exact⟨g,cap,rfl,h0,aj hlt hg.size,hm,hrow.kept hg (.inr (by simp only[Value.ownBlock,ne_eq,af];omega))⟩
theorem wR.other {W W':World}{n₀ k b:Nat}{vs:List Fv}{fs:List Fn}(h:wR W n₀ k vs fs)(hg:W.grownBy W' (some b))(hne:b<n₀):wR W' n₀ k vs fs:=
 fun j hj=>⟨(h j hj).1,(h j hj).2.1,(h j hj).2.2.1,(h j hj).2.2.2.other hg hne⟩
def FQ (W:World)(b:Nat)(v0 v1 v2 v3:Value):Prop:=
 b<W.heap.size/\W.cell? ⟨b,0,none⟩=some v0/\W.cell? ⟨b,1,none⟩=some v1/\W.cell? ⟨b,2,none⟩=some v2/\W.cell? ⟨b,3,none⟩=some v3/\W.frozen? ⟨b,0,none⟩=false/\W.frozen? ⟨b,1,none⟩=false/\W.frozen? ⟨b,2,none⟩=false/\W.frozen? ⟨b,3,none⟩=false
theorem FQ.kept {W W':World}{b:Nat}{v0 v1 v2 v3:Value}(h:FQ W b v0 v1 v2 v3)(hB:Below W.heap.size W W'):FQ W' b v0 v1 v2 v3:=by obtain⟨h0,h1,h2,h3,h4,h5,h6,h7,h8⟩:=h;exact⟨aj h0 hB.size,(hB.cell h0).trans h1,(hB.cell h0).trans h2,(hB.cell h0).trans h3,(hB.cell h0).trans h4,(hB.frozen h0).trans h5,(hB.frozen h0).trans h6,(hB.frozen h0).trans h7,(hB.frozen h0).trans h8⟩
theorem FQ.new (W:World)(v0 v1 v2 v3:Value)(t:TypeId):FQ (W.alloc (.cells #[v0,v1,v2,v3] t)) W.heap.size v0 v1 v2 v3:=by refine⟨by simp,?_,?_,?_,?_,?_,?_,?_,?_⟩<;>go_simp
def FJ (W:World)(b:Nat)(v0 v1:Value):Prop:=
 b<W.heap.size/\W.cell? ⟨b,0,none⟩=some v0/\W.cell? ⟨b,1,none⟩=some v1/\W.frozen? ⟨b,0,none⟩=false/\W.frozen? ⟨b,1,none⟩=false
theorem FJ.kept {W W':World}{b:Nat}{v0 v1:Value}(h:FJ W b v0 v1)(hB:Below W.heap.size W W'):FJ W' b v0 v1:=by obtain⟨h0,h1,h2,h5,h6⟩:=h;exact⟨aj h0 hB.size,(hB.cell h0).trans h1,(hB.cell h0).trans h2,(hB.frozen h0).trans h5,(hB.frozen h0).trans h6⟩
theorem FJ.new (W:World)(v0 v1:Value)(t:TypeId):FJ (W.alloc (.cells #[v0,v1] t)) W.heap.size v0 v1:=by refine⟨by simp,?_,?_,?_,?_⟩<;>go_simp
theorem OS.set {W:World}{n₀:Nat}{v:Value}{xs:List (Int×Int)}(h:OS W n₀ v xs)(p:Addr)(hp:p.block<n₀)(x:Value):OS (W.setCell p x) n₀ v xs:=h.other (aB W p x) hp
namespace Hg
def Lv:Int->List dE->Prop
 |_,[]=>True
 |h,x::S=>(0<=h->0<=x.st)/\x.cm=decide (0<=x.st)/\Lv x.st S
theorem Lv.mono {h h':Int}{S:List dE}(H:Lv h S)(hh:0<=h'->0<=h):Lv h' S:=by
 cases S with
 |nil=>trivial
 |cons x S=>exact⟨fun e=>H.1 (hh e),H.2⟩
theorem zC {f:Fn}{p a h mo h' fI:Int}{x:dE}{S S':List dE}(H:Lv h (x::S))(h1:eu f p a h mo x S=some (h',fI,S')):Lv h' S':=by have hcm:=H.2.1;have hc:x.cm=true->0<=x.st:=fun e=>by{rw[hcm]at e;simpa using e};unfold eu at h1;split at h1;{simp only[af,Prod.mk.injEq]at h1;obtain⟨rfl,rfl,rfl⟩:=h1;exact⟨id,rfl,H⟩};split at h1;{split at h1;{cases h1};simp only[af,Prod.mk.injEq]at h1;obtain⟨rfl,rfl,rfl⟩:=h1;refine H.mono fun e=>?_;split at e<;>omega};split at h1;{split at h1;{cases h1};simp only[af,Prod.mk.injEq]at h1;obtain⟨rfl,rfl,rfl⟩:=h1;exact H.mono fun e=>by omega};split at h1;{simp only[af,Prod.mk.injEq]at h1;obtain⟨rfl,rfl,rfl⟩:=h1;exact H.mono fun e=>by omega};split at h1;{split at h1;{cases h1};simp only[af,Prod.mk.injEq]at h1;obtain⟨rfl,rfl,rfl⟩:=h1;refine⟨fun e=>?_,H.2⟩;split at e;{exact e};omega};split at h1;{split at h1;{cases h1};simp only[af,Prod.mk.injEq]at h1;obtain⟨rfl,rfl,rfl⟩:=h1;refine H.2.2.mono fun e=>?_;split at e;{rename_i hh;exact hc hh};omega};simp only[af,Prod.mk.injEq]at h1;obtain⟨rfl,rfl,rfl⟩:=h1;exact H
end Hg
def fP (S:List dE):List Value:=S.flatMap fun x=>[.int .i64 x.st, .int .i64 x.wd, .int .i64 x.wd, .bool x.cm, .bool false]
theorem lJ (S T:List dE):fP (S++T)=fP S++fP T:=by simp[fP]
theorem qY (S:List dE):(fP S).length=S.length*5:=by
 induction S with
 |nil=>rfl
 |cons x S ih=>simp only[fP,List.flatMap_cons,List.length_append,List.length_cons]at ih ⊢;simp only[List.length_nil];omega
theorem bQ {W:World}{n₀ g c:Nat}{x:dE}{S:List dE}(h:W.ownsRow n₀ 195 5 (.slice (some ⟨g,0,none⟩) (x::S).length c) (x::S).length (fP (x::S).reverse)):W.cell? ⟨g,S.length*5,none⟩=some (.int .i64 x.st)/\W.cell? ⟨g,S.length*5+1,none⟩=some (.int .i64 x.wd)/\W.cell? ⟨g,S.length*5+2,none⟩=some (.int .i64 x.wd)/\W.cell? ⟨g,S.length*5+3,none⟩=some (.bool x.cm)/\W.cell? ⟨g,S.length*5+4,none⟩=some (.bool false):=by have e:fP (x::S).reverse=fP S.reverse++[.int .i64 x.st, .int .i64 x.wd, .int .i64 x.wd, .bool x.cm, .bool false]:=by{rw[List.reverse_cons,lJ];rfl};have hl:(fP S.reverse).length=S.length*5:=by{rw[qY,List.length_reverse]};have hc:∀j,j<5->W.cell? ⟨g,S.length*5+j,none⟩=[Value.int .i64 x.st, .int .i64 x.wd, .int .i64 x.wd, .bool x.cm, .bool false][j]?:=fun j hj=>by{rw[h.cellAt (S.length*5+j) (by simp only[List.length_cons];omega),e,List.getElem?_append_right (by omega),hl];congr 1;omega};exact⟨hc 0 (by omega),hc 1 (by omega),hc 2 (by omega),hc 3 (by omega),hc 4 (by omega)⟩
theorem iH:(Tryz.prog.info? 195).map (fun i=>(i.zero,i.size,i.bytes))=some (some (.agg #[.int .i64 0, .int .i64 0, .int .i64 0, .bool false, .bool false]),5,32):=by kernel_rfl
structure HI (fs:List Fn)(f:Fn)(O:List Int)(w3:World)(i:Nat)(h mo:Int)(S:List dE)(out:List Int)(g1 c1 g2 c2:Nat)(wr:World):Prop where
 rl:wr.ownsRow w3.heap.size 2 1 (.slice (some ⟨g1,0,none⟩) i c1) i (out.map iv)
 rp:wr.ownsRow w3.heap.size 195 5 (.slice (some ⟨g2,0,none⟩) S.length c2) S.length (fP S.reverse)
 eZ:Below w3.heap.size w3 wr
 eq:Hg.all fs f=Hg.go fs f O (f.b.length-i) i h mo S out
 dep:i<f.b.length->S.length=aG.dep f.b i+1
 hb:-1<=h/\h<=i
 mb:0<=mo/\mo<=i+1
 sb:∀x∈S,-1<=x.st/\x.st+x.wd<=i+1/\0<=x.wd/\x.wd<=1
 lv:Hg.Lv h S
theorem HI.dead {fs:List Fn}{f:Fn}{O:List Int}{w3 wr wF:World}{i:Nat}{h mo h' fI:Int}{x:dE}{S S2:List dE}{out:List Int}{g1 c1 g2 c2 g1' c1' g2' c2':Nat}(H:HI fs f O w3 i h mo (x::S) out g1 c1 g2 c2 wr)(hok:aG.isOk f.b=true)(hi:i<f.b.length){p a:Int}(hpq:f.b.getD i (0,0)=(p,a))(hb:Hg.bad fs f (O.getD i (-1)) (S.length+1) p a=false)(h0:h<0)(ha:p=8\/p=9\/p=10->0<=a/\a<=1)(hc:Hg.eu f p a h mo x S=some (h',fI,S2))(rl:wF.ownsRow w3.heap.size 2 1 (.slice (some ⟨g1',0,none⟩) (i+1) c1') (i+1) ((out++[h]).map iv))(rp:wF.ownsRow w3.heap.size 195 5 (.slice (some ⟨g2',0,none⟩) S2.length c2') S2.length (fP S2.reverse))(eZ:Below w3.heap.size w3 wF):HI fs f O w3 (i+1) h' fI S2 (out++[h]) g1' c1' g2' c2' wF:=by have hop:aG.op f.b i=p:=by{rw[aG.op,hpq]};have bd:=Hg.I8 (i:=i) ha (by have:=H.hb;omega) (fun _=>by have:=H.hb;omega) (by have:=H.mb;omega) H.sb hc;have hd:=H.dep hi;refine⟨rl,rp,eZ,?_,fun hi'=>?_,bd.hb,bd.mb,bd.sb,Hg.zC H.lv hc⟩;{rw[H.eq,Hg.kQ hi (by rw[hop,hpq];exact(Hg.BH hb h0).trans hc)]};exact Hg.y7 hok hi' (by simpa using hd) (by rw[hop];exact hc)
theorem HI.nV {fs:List Fn}{f:Fn}{O:List Int}{w3 wr wF:World}{i:Nat}{h mo h' fI:Int}{x:dE}{S S2:List dE}{out:List Int}{g1 c1 g2 c2 g1' c1' g2' c2':Nat}(H:HI fs f O w3 i h mo (x::S) out g1 c1 g2 c2 wr)(hok:aG.isOk f.b=true)(hi:i<f.b.length){p a:Int}(hpq:f.b.getD i (0,0)=(p,a))(hb:Hg.bad fs f (O.getD i (-1)) (S.length+1) p a=false)(h0:0<=h)(hge:¬h-x.st<Hg.tk fs p a)(htk:0<=Hg.tk fs p a)(hpt:0<=Hg.pt fs p a/\Hg.pt fs p a<=1)(ha:p=8\/p=9\/p=10->(0<=a/\a<=1)/\Hg.pt fs p a=0)(hc:Hg.eu f p a (h-Hg.tk fs p a+Hg.pt fs p a) (Hg.mx mo (h-Hg.tk fs p a+Hg.pt fs p a)) x S=some (h',fI,S2))(rl:wF.ownsRow w3.heap.size 2 1 (.slice (some ⟨g1',0,none⟩) (i+1) c1') (i+1) ((out++[h]).map iv))(rp:wF.ownsRow w3.heap.size 195 5 (.slice (some ⟨g2',0,none⟩) S2.length c2') S2.length (fP S2.reverse))(eZ:Below w3.heap.size w3 wF):HI fs f O w3 (i+1) h' fI S2 (out++[h]) g1' c1' g2' c2' wF:=by have hop:aG.op f.b i=p:=by{rw[aG.op,hpq]};have hh:=H.hb;have hm:=H.mb;have hx:=H.sb x (by simp);have bd:=Hg.I8 (i:=i) (fun e=>(ha e).1) (by omega) (fun e=>by have:=(ha e).2;omega) ⟨Hg.Ae hm.1,Hg.Ht (by omega) (by omega)⟩ H.sb hc;have hd:=H.dep hi;refine⟨rl,rp,eZ,?_,fun hi'=>?_,bd.hb,bd.mb,bd.sb,Hg.zC (H.lv.mono fun _=>h0) hc⟩;{rw[H.eq,Hg.kQ hi (by rw[hop,hpq];exact(Hg.iQ hb h0 hge).trans hc)]};exact Hg.y7 hok hi' (by simpa using hd) (by rw[hop];exact hc)
theorem HI.no {fs:List Fn}{f:Fn}{O:List Int}{w3 wr:World}{i:Nat}{h mo:Int}{S:List dE}{out:List Int}{g1 c1 g2 c2:Nat}(H:HI fs f O w3 i h mo S out g1 c1 g2 c2 wr)(hi:i<f.b.length){p a:Int}(hpq:f.b.getD i (0,0)=(p,a))(h1:Hg.one fs f (O.getD i (-1)) p a h mo S=none):Hg.iA fs f=none:=by have hop:aG.op f.b i=p:=by{rw[aG.op,hpq]};exact Hg.Jb (by rw[H.eq,Hg.mY hi (by rw[hop,hpq];exact h1)])
theorem Gl (W:World)(v0 v1 v2 v3 v4:Value)(t:TypeId):(W.alloc (.cells #[v0,v1,v2,v3,v4] t)).ownsRow W.heap.size t 5 (.slice (some ⟨W.heap.size,0,none⟩) 1 1) 1 [v0,v1,v2,v3,v4]:=
 ⟨rfl, .inr ⟨W.heap.size,1,_,rfl,Nat.le_refl _,World.alloc_heap_new W _,Nat.le_refl _,by simp only[maxLen];omega,rfl,rfl⟩⟩
theorem EF {W:World}{n₀ g c:Nat}{S:List dE}(h:W.ownsRow n₀ 195 5 (.slice (some ⟨g,0,none⟩) S.length c) S.length (fP S.reverse)){j:Nat}(hj:j<S.length):W.cell? ⟨g,(S.length-1-j)*5+2,none⟩=some (.int .i64 (S.getD j ⟨0,0,false⟩).wd):=by
 have key:∀(T:List dE)(k:Nat),k<T.length->(fP T)[k*5+2]?=some (.int .i64 (T.getD k ⟨0,0,false⟩).wd):=by
  intro T
  induction T with
  |nil=>intro k hk;simp at hk
  |cons y T ih=>
   intro k hk
   rcases k with _|k
   · rfl
   · have e:fP (y::T)=[.int .i64 y.st, .int .i64 y.wd, .int .i64 y.wd, .bool y.cm, .bool false]++fP T:=rfl;rw[e,List.getElem?_append_right (by simp;omega)];have e2:(k+1)*5+2-[Value.int .i64 y.st, .int .i64 y.wd, .int .i64 y.wd, .bool y.cm, .bool false].length=k*5+2:=by{simp;omega};rw[e2,ih k (by simpa using hk)];rfl
 rw[h.cellAt _ (by omega),key _ _ (by simp;omega)]
 congr 2
 rw[ah,List.getElem?_reverse (by omega),ah]
 congr 4
 omega
theorem tO {W:World}{n₀ g c:Nat}{x:dE}{S:List dE}(h:W.ownsRow n₀ 195 5 (.slice (some ⟨g,0,none⟩) (S.length+1) c) (S.length+1) (fP (x::S).reverse)):W.ownsRow n₀ 195 5 (.slice (some ⟨g,0,none⟩) S.length c) S.length (fP S.reverse):=by have hc:=Ag h S.length (by omega);have e:(fP (x::S).reverse).take (S.length*5)=fP S.reverse:=by{rw[List.reverse_cons,lJ,List.take_left' (by rw[qY,List.length_reverse])]};rw[e]at hc;exact hc
theorem fE (W:World)(v0 v1 v2 v3 v4:Value)(t:TypeId)(H:Nat)(hH:W.heap.size=H):∀j u,[v0,v1,v2,v3,v4][j]?=some u->(W.alloc (.cells #[v0,v1,v2,v3,v4] t)).cell? ((⟨H,0,none⟩:Addr).add j)=some u:=by
 subst hH
 intro j u hu
 match j,hu with
 |0,hu=>simp at hu;subst hu;simp[Addr.add]
 |1,hu=>simp at hu;subst hu;simp[Addr.add]
 |2,hu=>simp at hu;subst hu;simp[Addr.add]
 |3,hu=>simp at hu;subst hu;simp[Addr.add]
 |4,hu=>simp at hu;subst hu;simp[Addr.add]
theorem fF (x:dE)(S:List dE):fP (x::S).reverse=fP S.reverse++[.int .i64 x.st, .int .i64 x.wd, .int .i64 x.wd, .bool x.cm, .bool false]:=by rw[List.reverse_cons,lJ];rfl
def fU:Code->Option Code
 | .loop c=>some c
 | .seq a b=>match fU a with
   |some c=>some c
   |none=>fU b
 | .block _ c=>fU c
 | .scope c=>fU c
 | .cond _ a b=>match fU a with
   |some c=>some c
   |none=>fU b
 |_=>none
theorem tT {f:Fn}(h:Md.sJ f=true):(0<=f.a/\f.a<=3)/\(0<=f.l/\f.l<=3)/\0<=f.g/\f.g<=1:=by simp only[Md.sJ,au]at h;exact⟨Wd.bJ.1 h.1,Wd.bJ.1 h.2.1,Wd.bJ.1 h.2.2.1⟩
def sS (fs:List Fn)(fa fl fg:Int)(fb:List (Int×Int))(w w3 wr:World)(bl cO gO i g1 zT g2 c2:Nat)(h mo:Int)(x:dE)(S':List dE)(out:List Int):Prop:=
 ∀ (K K1:Act->World->Prop) (c0 c1 c3 c8 c10 c25 c26 c27 c28 c29 c30 c31 c32 c33 c34 c35 c36 c37 c38 c39 c40 c41 c42 c43 c44 c45 c46 c47 c48 UQ UR UT UU UW UX UY UZ U0 u4 u5 u6 u16 u17 u18 u19 u20 u21 u22 u23 u24 u49 u50 u51 u52 u53 u54 u55 u56 u57 u58 u59 u60 u61 u62 u63 u64 u65 u66 u67 u68 u69 u70 u71 u72 u73 u74 u75 u76 u77 u78 u79 u80 u81 u82 u83 u84 u85 u86 u87 u88 u89 u90 u91 u92 u93 u94 u95 u96 u97 u98 u99 abK abL abM abN abO u105 abP abQ abR abS abT abU abV abW abX abY abZ ab0 ab1 u119 ab2 ab3 ab4 ab5 u124 ab6 ab7 u127 ab8 ab9 aca u131 acb acd ace acf acg ach u138 u139 aci acj ack acm acn aco acp acr acs acu acv acw u152 acx u154 acy acz acA acB acC acD acE u162 acF u164 acG acH acI acJ acK acL acM acN acO acP acQ acR acS acT acU acV acW acX acY acZ ac0 ac1 ac2 ac3 ac4 ac5 ac6 ac7 u193 u194 ac8 u196 ac9 u198 ada adb u201 ade adf adg adh u206 adi u208 adj u210 adk adl adm adn ado adp adq adr ads adt adu adv adw adx ady adz adA adB adC adD adE adF adG u234 adH u236 adI adJ adK adL adM adN adO adP adQ adR adS adT adU adV adW adX adY adZ ad1 ad2 ad3 ad4 ad5 ad6 ad7 ad8 ad9 aea aeb aec aed aee aef aeg aeh aei aej aek ael aem aen aeo aep aeq aer aes:Value),Hid (∀(h' fI:Int)(S2:List dE)(g1' c1' g2' c2':Nat)(v4 v5 v6 v16 v17 v18 v19 v20 v21 v22 v23 v24 v49 v50 v51 v52 v53 v54 v55 v56 v57 v58 v59 v60 v61 v62 v63 v64 v65 v66 v67 v68 v69 v70 v71 v72 v73 v74 v75 v76 v77 v78 v79 v80 v81 v82 v83 v84 v85 v86 v87 v88 v89 v90 v91 v92 v93 v94 v95 v96 v97 v98 v99 U1 U2 U3 U4 U5 v105 U6 v107 U7 v109 U8 U9 Va Vb Vd Ve Vf v117 Vg Vh Vi Vj Vk Vl v124 Vm Vn v127 Vo Vp v130 v131 Vq Vr Vt Vu Vv Vw v138 v139 Vx v141 Vy v143 Vz v145 v146 VA v148 VB VC VD v152 VE v154 VF VG v157 VH v159 v160 VI v162 VJ v164 VK VL v167 v168 VM VN v171 VO v173 VP v175 VQ VR VT VU VV VW v182 v183 VX VY VZ V3 V4 V5 V6 V7 V8 v193 v194 V9 v196 We v198 Wh Wi v201 Wj v203 Wl Wm v206 Wn v208 Wo v210 Wp v212 Wq Ws Wt Wu Ww v218 Wx Wy Wz v222 WA WB WE v226 v227 v228 v229 WG WI v232 v233 v234 WJ v236 WL WM WN WO WQ WR WS WU WV WW WX WY WZ W9 Xa Xb Xc Xd Xe Xf Xg Xh Xi Xj Xk Xl Xm Xn Xo Xp Xq Xr Xt Xu Xv Xw Xx Xy Xz XA XB XC XD XE XG XH:Value)(wF:World),HI fs ⟨fa,fl,fg,fb⟩ (aG.aT fb) w3 (i+1) h' fI S2 (out++[h]) g1' c1' g2' c2' wF->K ⟨#[c0,c1, .pointer (some ⟨w.heap.size,0,none⟩),c3,v4,v5,v6, .pointer (some ⟨w.heap.size+1,0,none⟩),c8, .slice (some ⟨gO,0,none⟩) bl cO,c10, .slice (some ⟨g1',0,none⟩) (i+1) c1',(.slice (some ⟨g2',0,none⟩) S2.length c2'), .int .i64 h', .int .i64 fI, .int .i64 ((i:Int)+1),v16,v17,v18,v19,v20,v21,v22,v23,v24,c25,c26,c27,c28,c29,c30,c31,c32,c33,c34,c35,c36,c37,c38,c39,c40,c41,c42,c43,c44,c45,c46,c47,c48,v49,v50,v51,v52,v53,v54,v55,v56,v57,v58,v59,v60,v61,v62,v63,v64,v65,v66,v67,v68,v69,v70,v71,v72,v73,v74,v75,v76,v77,v78,v79,v80,v81,v82,v83,v84,v85,v86,v87,v88,v89,v90,v91,v92,v93,v94,v95,v96,v97,v98,v99,U1,U2,U3,U4,U5,v105,U6,v107,U7,v109,U8,U9,Va,Vb,Vd,Ve,Vf,v117,Vg,Vh,Vi,Vj,Vk,Vl,v124,Vm,Vn,v127,Vo,Vp,v130,v131,Vq,Vr,Vt,Vu,Vv,Vw,v138,v139,Vx,v141,Vy,v143,Vz,v145,v146,VA,v148,VB,VC,VD,v152,VE,v154,VF,VG,v157,VH,v159,v160,VI,v162,VJ,v164,VK,VL,v167,v168,VM,VN,v171,VO,v173,VP,v175,VQ,VR,VT,VU,VV,VW,v182,v183,VX,VY,VZ,V3,V4,V5,V6,V7,V8,v193,v194,V9,v196,We,v198,Wh,Wi,v201,Wj,v203,Wl,Wm,v206,Wn,v208,Wo,v210,Wp,v212,Wq,Ws,Wt,Wu,Ww,v218,Wx,Wy,Wz,v222,WA,WB,WE,v226,v227,v228,v229,WG,WI,v232,v233,v234,WJ,v236,WL,WM,WN,WO,WQ,WR,WS,WU,WV,WW,WX,WY,WZ,W9,Xa,Xb,Xc,Xd,Xe,Xf,Xg,Xh,Xi,Xj,Xk,Xl,Xm,Xn,Xo,Xp,Xq,Xr,Xt,Xu,Xv,Xw,Xx,Xy,Xz,XA,XB,XC,XD,XE,XG,XH,UQ,UR,UT,UU,UW,UX,UY,UZ,U0],[]⟩ wF)->
   Code.wp Tryz.prog ((Tryz.f117.body.bind fU).getD .skip) (Exit.then K (Exit.inBlock 0 (Exit.then K1 (bodyPost Tryz.prog Tryz.f117 (fun e w'=>∃v mo,e= .returned (.tuple #[v, .int .i64 mo, .bool (Hg.iA fs ⟨fa,fl,fg,fb⟩).isSome])/\(∀out m',Hg.iA fs ⟨fa,fl,fg,fb⟩=some (out,m')->OI w' w.heap.size v out/\mo=m')/\Below w.heap.size w w'))))) ⟨#[c0,c1, .pointer (some ⟨w.heap.size,0,none⟩),c3,u4,u5,u6, .pointer (some ⟨w.heap.size+1,0,none⟩),c8, .slice (some ⟨gO,0,none⟩) bl cO,c10, .slice (some ⟨g1,0,none⟩) i zT,(.slice (some ⟨g2,0,none⟩) (x::S').length c2), .int .i64 h, .int .i64 mo, .int .i64 (i:Int),u16,u17,u18,u19,u20,u21,u22,u23,u24,c25,c26,c27,c28,c29,c30,c31,c32,c33,c34,c35,c36,c37,c38,c39,c40,c41,c42,c43,c44,c45,c46,c47,c48,u49,u50,u51,u52,u53,u54,u55,u56,u57,u58,u59,u60,u61,u62,u63,u64,u65,u66,u67,u68,u69,u70,u71,u72,u73,u74,u75,u76,u77,u78,u79,u80,u81,u82,u83,u84,u85,u86,u87,u88,u89,u90,u91,u92,u93,u94,u95,u96,u97,u98,u99,abK,abL,abM,abN,abO,u105,abP,abQ,abR,abS,abT,abU,abV,abW,abX,abY,abZ,ab0,ab1,u119,ab2,ab3,ab4,ab5,u124,ab6,ab7,u127,ab8,ab9,aca,u131,acb,acd,ace,acf,acg,ach,u138,u139,aci,acj,ack,acm,acn,aco,acp,acr,acs,acu,acv,acw,u152,acx,u154,acy,acz,acA,acB,acC,acD,acE,u162,acF,u164,acG,acH,acI,acJ,acK,acL,acM,acN,acO,acP,acQ,acR,acS,acT,acU,acV,acW,acX,acY,acZ,ac0,ac1,ac2,ac3,ac4,ac5,ac6,ac7,u193,u194,ac8,u196,ac9,u198,ada,adb,u201,ade,adf,adg,adh,u206,adi,u208,adj,u210,adk,adl,adm,adn,ado,adp,adq,adr,ads,adt,adu,adv,adw,adx,ady,adz,adA,adB,adC,adD,adE,adF,adG,u234,adH,u236,adI,adJ,adK,adL,adM,adN,adO,adP,adQ,adR,adS,adT,adU,adV,adW,adX,adY,adZ,ad1,ad2,ad3,ad4,ad5,ad6,ad7,ad8,ad9,aea,aeb,aec,aed,aee,aef,aeg,aeh,aei,aej,aek,ael,aem,aen,aeo,aep,aeq,aer,aes,UQ,UR,UT,UU,UW,UX,UY,UZ,U0],[]⟩ wr
theorem aG.uB {xs:List (Int×Int)}:∀(f k:Nat)(E O:List Int)(S:List Nat){Ef Of:List Int},go xs f k E O S=(Ef,Of,true)->S.length=dep xs k->∃i,i+1=xs.length/\op xs i=12/\dep xs i=0
 |0,k,E,O,S,Ef,Of,h,hd=>by simp[go]at h
 | f + 1,k,E,O,S,Ef,Of,h,hd=>by
   by_cases hk:xs.length<=k
   · rw[pX hk]at h;simp at h
   have hk:k<xs.length:=by omega
   rcases ho:St.opens (op xs k)with _|_
   · by_cases h11:op xs k=11
     · rcases S with _|⟨t,S'⟩
       · rw[ko hk ho h11]at h;simp at h
       · by_cases h2:op xs t=10/\O.getD t (-1)<0
         · rw[jU hk ho h11 h2]at h
           exact uB f (k+1) _ _ _ h (by rw[iJ ho (by omega)];exact hd)
         · rw[iT hk ho h11 h2]at h;simp at h
     · by_cases qO:op xs k=12
       · rcases S with _|⟨t,S'⟩
         · rw[mW hk ho h11 qO]at h
           simp only[Prod.mk.injEq,decide_eq_true_eq]at h
           exact⟨k,h.2.2,qO,by rw[←hd];rfl⟩
         · rw[jH hk ho h11 qO]at h
           exact uB f (k+1) _ _ _ h (by rw[sK qO,←hd];simp)
       · rw[jY hk ho h11 qO]at h
         exact uB f (k+1) _ _ _ h (by rw[iJ ho qO];exact hd)
   · rw[jP hk ho]at h
     exact uB f (k+1) _ _ _ h (by rw[mJ ho];simp[hd])
theorem aG.El {xs:List (Int×Int)}(h:isOk xs=true):∃i,i+1=xs.length/\op xs i=12/\dep xs i=0:=by have h2:(all xs).2.2=true:=by{rw[isOk,au]at h;exact h.2};exact uB (xs.length+1) 0 _ _ [] (Ef:=(all xs).1) (Of:=(all xs).2.1) (by show all xs=_;rw[←h2]) rfl
namespace Hg
theorem eD {a b:Int}(h:b<=a):mx a b=a:=by unfold mx;rw[ax (by omega)]
theorem Hw {f:Fn}{p a h mo h' fI:Int}{x:dE}{S S':List dE}(h0:0<=mo)(hp:p=13\/p=15\/p=19\/p=11\/p=12->h<=mo)(h1:eu f p a h (mx mo h) x S=some (h',fI,S')):fI=mx mo h':=by unfold eu at h1;split at h1;{simp only[af,Prod.mk.injEq]at h1;obtain⟨rfl,rfl,rfl⟩:=h1;rfl};split at h1;{rename_i hpp;split at h1;{cases h1};simp only[af,Prod.mk.injEq]at h1;obtain⟨rfl,rfl,rfl⟩:=h1;split;{rename_i e;rw[eD (hp (.inl e)),eD (by omega)]};rfl};split at h1;{rename_i e;split at h1;{cases h1};simp only[af,Prod.mk.injEq]at h1;obtain⟨rfl,rfl,rfl⟩:=h1;rw[eD (hp (by omega)),eD (by omega)]};split at h1;{rename_i e;simp only[af,Prod.mk.injEq]at h1;obtain⟨rfl,rfl,rfl⟩:=h1;rw[eD (hp (by omega)),eD (by omega)]};split at h1;{rename_i e;split at h1;{cases h1};simp only[af,Prod.mk.injEq]at h1;obtain⟨rfl,rfl,rfl⟩:=h1;rw[eD (hp (by omega))]};split at h1;{rename_i e;split at h1;{cases h1};simp only[af,Prod.mk.injEq]at h1;obtain⟨rfl,rfl,rfl⟩:=h1;rw[eD (hp (by omega))]};simp only[af,Prod.mk.injEq]at h1;obtain⟨rfl,rfl,rfl⟩:=h1;rfl
theorem uL {fs:List Fn}{p a:Int}(h:p=13\/p=15\/p=19\/p=11\/p=12):tk fs p a=0/\pt fs p a=0:=by rcases h with rfl|rfl|rfl|rfl|rfl<;>exact⟨by simp[tk],by simp[pt]⟩
theorem JI {fs:List Fn}{f:Fn}{o p a h mo h' fI:Int}{S S':List dE}(h0:0<=mo)(hm:h<=mo)(h1:one fs f o p a h mo S=some (h',fI,S')):fI=mx mo h':=by unfold one at h1;split at h1;{cases h1};split at h1;{cases h1};split at h1;{split at h1;{cases h1};refine Hw h0 (fun e=>?_) h1;have:=uL (fs:=fs) (a:=a) e;rw[this.1,this.2];omega};rw[←eD hm]at h1;exact Hw h0 (fun _=>hm) h1
end Hg
namespace Hg
theorem EZ {fs:List Fn}{f:Fn}{o p a h mo:Int}{x:dE}{S:List dE}{r:Int×Int×List dE}(h1:one fs f o p a h mo (x::S)=some r):∃hh mm,eu f p a hh mm x S=some r:=by unfold one at h1;simp only at h1;split at h1;{cases h1};split at h1;{split at h1;{cases h1};exact⟨_,_,h1⟩};exact⟨_,_,h1⟩
def Bt (f:Fn)(S:List dE):Prop:=∃T,S=T++[⟨0,f.g,true⟩]
theorem O4 {f:Fn}{p a h mo h' fI:Int}{x:dE}{S S':List dE}(H:Bt f (x::S))(h1:eu f p a h mo x S=some (h',fI,S'))(hne:S'≠[]):Bt f S':=by have tl:S≠[]->Bt f S:=fun hS=>by{obtain⟨T,hT⟩:=H;rcases T with _|⟨y,T⟩;{simp at hT;exact absurd hT.2 hS};exact⟨T,by simp at hT;exact hT.2⟩};unfold eu at h1;split at h1;{simp only[af,Prod.mk.injEq]at h1;obtain⟨-,-,rfl⟩:=h1;obtain⟨T,hT⟩:=H;exact⟨_::T,by rw[hT];rfl⟩};split at h1;{split at h1;{cases h1};simp only[af,Prod.mk.injEq]at h1;obtain⟨-,-,rfl⟩:=h1;exact H};split at h1;{split at h1;{cases h1};simp only[af,Prod.mk.injEq]at h1;obtain⟨-,-,rfl⟩:=h1;exact H};split at h1;{simp only[af,Prod.mk.injEq]at h1;obtain⟨-,-,rfl⟩:=h1;exact H};split at h1;{split at h1;{cases h1};simp only[af,Prod.mk.injEq]at h1;obtain⟨-,-,rfl⟩:=h1;exact H};split at h1;{split at h1;{cases h1};simp only[af,Prod.mk.injEq]at h1;obtain⟨-,-,rfl⟩:=h1;exact tl hne};simp only[af,Prod.mk.injEq]at h1;obtain⟨-,-,rfl⟩:=h1;exact H
theorem BB (g:Int):∀l:List Int,g<=l.foldl mx g/\(∀x∈l,x<=l.foldl mx g)/\(l.foldl mx g=g\/l.foldl mx g∈l):=by
 intro l
 induction l generalizing g with
 |nil=>exact⟨Int.le_refl _,fun x hx=>absurd hx List.not_mem_nil, .inl rfl⟩
 |cons y l ih=>
  obtain⟨h1,h2,h3⟩:=ih (mx g y)
  have hg:g<=mx g y:=Ae (Int.le_refl _)
  have hy:y<=mx g y:=by unfold mx;split<;>omega
  refine⟨Int.le_trans hg h1,fun x hx=>?_,?_⟩
  · rcases List.mem_cons.1 hx with rfl|hx;{exact Int.le_trans hy h1};exact h2 x hx
  · rcases h3 with h3|h3;{by_cases hgy:g<y;{have e:mx g y=y:=ay hgy;right;show l.foldl mx (mx g y)∈y::l;rw[h3,e];simp};have e:mx g y=g:=ax hgy;left;show l.foldl mx (mx g y)=g;rw[h3,e]};exact .inr (List.mem_cons_of_mem _ h3)
theorem y9 {fs:List Fn}{f:Fn}{O:List Int}(nk:aG.isOk f.b=true):∀(n i:Nat)(h mo:Int)(S:List dE)(out:List Int){out':List Int}{fI:Int},i+(n+1)=f.b.length->S.length=aG.dep f.b i+1->Bt f S->0<=mo->mo=(out++[h]).foldl mx f.g->go fs f O (n+1) i h mo S out=some (out',fI)->fI=out'.foldl mx f.g:=by
 intro n
 induction n with
 |zero=>
  intro i h mo S out out' fI hi hd hbt h0 hm e
  rw[go]at e
  split at e
  · cases e
  · rename_i h2 m2 S2 h1;simp only[go,af,Prod.mk.injEq]at e;obtain⟨rfl,rfl⟩:=e;obtain⟨j,hj,h12,hdj⟩:=aG.El nk;have hji:j=i:=by{omega};subst hji;rw[hdj]at hd;rcases S with _|⟨x,S⟩;{simp at hd};have hS:S=[]:=List.eq_nil_of_length_eq_zero (by simpa using hd);subst hS;obtain⟨T,hT⟩:=hbt;have hx:x=⟨0,f.g,true⟩:=by{rcases T with _|⟨y,T⟩;{simpa using hT};simp at hT};subst hx;have hle:h<=mo:=by{rw[hm,List.foldl_append];show h<=mx _ h;unfold mx;split<;>omega};have hmo:=JI h0 hle h1;obtain⟨hh,mm,hc⟩:=EZ h1;rw[h12]at hc;have hh2:h2=f.g:=by{have e12:eu f 12 (f.b.getD j (0,0)).2 hh mm ⟨0,f.g,true⟩ []=if 0<=hh/\hh-0≠f.g then none else some (0+f.g,mx mm (0+f.g),[]):=rfl;rw[e12]at hc;split at hc;{cases hc};simp only[af,Prod.mk.injEq]at hc;omega};rw[hmo,hh2,hm];exact eD (BB f.g _).1
 |succ n ih=>
  intro i h mo S out out' fI hi hd hbt h0 hm e
  rw[go]at e
  split at e
  · cases e
  · rename_i h2 m2 S2 h1;rcases S with _|⟨x,S⟩;{simp at hd};have hle:h<=mo:=by{rw[hm,List.foldl_append];show h<=mx _ h;unfold mx;split<;>omega};have hmo:=JI h0 hle h1;obtain⟨hh,mm,hc⟩:=EZ h1;have hd2:=y7 (xs:=f.b) nk (i:=i) (by omega) (by simpa using hd) hc;refine ih (i+1) h2 m2 S2 (out++[h]) (by omega) hd2 (O4 hbt hc (fun e=>by rw[e]at hd2;simp at hd2)) (by rw[hmo];exact Ae h0) ?_ e;rw[hmo,hm,List.foldl_append (l:=out++[h])];rfl
theorem KO {fs:List Fn} {f:Fn} (hg:0<=f.g) {out:List Int} {mo:Int} (h:iA fs f=some (out,mo)):mo=out.foldl mx f.g/\out.length=f.b.length/\0<f.b.length:=by
 unfold iA at h
 split at h
 · rename_i nk
   obtain⟨j,hj,-,-⟩:=aG.El nk
   split at h
   · rename_i o m ha
     split at h
     · simp only[af,Prod.mk.injEq]at h
       obtain⟨rfl,rfl⟩:=h
       have ha':go fs f (aG.aT f.b) (j+1) 0 0 f.g [⟨0,f.g,true⟩] []=some (o,m):=by rw[hj];exact ha
       refine⟨y9 nk j 0 0 f.g [⟨0,f.g,true⟩] [] (by omega) rfl ⟨[],rfl⟩ hg (by
        show f.g=mx f.g 0
        rw[eD hg]) ha',?_,by omega⟩
       have len:∀(n i:Nat)(h mo:Int)(S:List dE)(out:List Int){out':List Int}{fI:Int},go fs f (aG.aT f.b) n i h mo S out=some (out',fI)->out'.length=out.length+n:=by
        intro n
        induction n with
        |zero=>intro i h mo S out out' fI e;simp only[go,af,Prod.mk.injEq]at e;rw[e.1];rfl
        |succ n ih=>
         intro i h mo S out out' fI e
         rw[go]at e
         split at e
         · cases e
         · have:=ih _ _ _ _ _ e;simp at this;omega
       have:=len _ _ _ _ _ _ ha'
       simp at this
       omega
     · cases h
   · cases h
 · cases h
end Hg
namespace Hg
def nd (fs:List Fn)(f:Fn)(p a:Int):Int:=
 if p=3\/p=7\/p=14\/p=10\/p=4\/p=6\/p=17 then 1 else if p=5\/p=18 then 2 else if p=16 then(fs.getD a.toNat .z).a else if p=15 then f.g else 0
theorem Tj {fs:List Fn}{f:Fn}{p a:Int}(h:p≠15):nd fs f p a=tk fs p a:=by unfold nd tk;by_cases h1:p=3\/p=7\/p=14\/p=10;{rw[ay (by omega),ay h1]};rw[ax h1];by_cases h2:p=4\/p=6\/p=17;{rw[ay (by omega),ay h2]};rw[ax (by omega),ax h2];by_cases h3:p=5;{rw[ay (by omega),ay h3]};rw[ax h3];by_cases h4:p=18;{rw[ay (by omega),ay h4]};rw[ax (by omega),ax h4];by_cases h5:p=16;{rw[ay h5,ay h5]};rw[ax h5,ax h5,ax h]
theorem Pk {fs:List Fn}{f:Fn}{o p a h mo:Int}{x:dE}{S:List dE}{r:Int×Int×List dE}(h1:one fs f o p a h mo (x::S)=some r)(hx:0<=h->0<=x.st)(h0:0<=h):nd fs f p a<=h:=by unfold one at h1;simp only at h1;split at h1;{cases h1};(try rw[ay h0]at h1);split at h1;{cases h1};rename_i hlt;have hxs:=hx h0;by_cases hp:p=15;{subst hp;have t0:tk fs 15 a=0:=by{unfold tk;simp};have p0:pt fs 15 a=0:=by{unfold pt;simp};rw[t0,p0]at h1;have n0:nd fs f 15 a=f.g:=by{unfold nd;simp};rw[n0];unfold eu at h1;simp only[show¬((15:Int)=8\/(15:Int)=9\/(15:Int)=10)by decide,show¬((15:Int)=13\/(15:Int)=14)by decide,if_false,if_true]at h1;split at h1;{cases h1};rename_i hc;omega};rw[Tj hp];omega
theorem Qe {fs:List Fn}{f:Fn}{o p a h mo h' fI:Int}{x:dE}{S S':List dE}(h1:one fs f o p a h mo (x::S)=some (h',fI,S'))(H:Lv h (x::S)):Lv h' S':=by unfold one at h1;simp only at h1;split at h1;{cases h1};split at h1;{rename_i h0;split at h1;{cases h1};exact zC (H.mono (fun _=>h0)) h1};exact zC H h1
theorem Ey {fs:List Fn}{f:Fn}{O:List Int}:∀(n i:Nat)(h mo:Int)(S:List dE)(out:List Int){out':List Int}{fI:Int},Lv h S->go fs f O n i h mo S out=some (out',fI)->
   ∃hs:List Int,out'=out++hs/\hs.length=n/\(0<n->hs.getD 0 0=h)/\∀j,j<n->0<=hs.getD j 0->nd fs f (aG.op f.b (i+j)) (f.b.getD (i+j) (0,0)).2<=hs.getD j 0
 | 0,i,h,mo,S,out,out',fI,_,e=>by
   unfold go at e
   cases e
   exact⟨[],by simp,rfl,fun h=>by omega,fun j hj=>by omega⟩
 | n + 1,i,h,mo,S,out,out',fI,H,e=>by
   unfold go at e
   rcases e1:one fs f (O.getD i (-1)) (aG.op f.b i) (f.b.getD i (0,0)).2 h mo S with _|⟨h',J5,S'⟩
   · rw[e1]at e;cases e
   · rw[e1]at e
     cases S with
     |nil=>cases e1
     | cons x S=>
       obtain⟨hs,r1,r2,r3,r4⟩:=Ey n (i+1) h' J5 S' (out++[h]) (Qe e1 H) e
       refine⟨h::hs,by rw[r1,List.append_assoc];rfl,by simp[r2],fun _=>rfl,fun j hj h0=>?_⟩
       rcases j with _|j
       · exact Pk e1 H.1 h0
       · have:=r4 j (by omega) h0
         rw[show i+1+j=i+(j+1)by omega]at this
         exact this
theorem Jg {fs:List Fn}{f:Fn}{out:List Int}{mo:Int}(hg:0<=f.g)(h:iA fs f=some (out,mo)):out.length=f.b.length/\0<f.b.length/\out.getD 0 0=0/\mo<=20/\∀j,j<out.length->out.getD j 0<=mo/\(0<=out.getD j 0->nd fs f (aG.op f.b j) (f.b.getD j (0,0)).2<=out.getD j 0):=by obtain⟨m1,m2,m3⟩:=KO hg h;unfold iA at h;split at h;{rcases e:all fs f with _|⟨o',fI⟩;{rw[e]at h;cases h};rw[e]at h;simp only at h;split at h;{rename_i hle;cases h;unfold all at e;obtain⟨hs,r1,r2,r3,r4⟩:=Ey _ _ _ _ _ _ (show Lv 0 [⟨0,f.g,true⟩]from⟨fun h=>h,rfl,trivial⟩) e;rw[List.nil_append]at r1;subst r1;refine⟨m2,m3,r3 m3,hle,fun j hj=>⟨?_,fun h0=>?_⟩⟩;{rw[m1];refine(BB f.g out).2.1 _ ?_;rw[ah,ai hj];exact List.getElem_mem _};have:=r4 j (by omega) h0;rwa [Nat.zero_add]at this};cases h};cases h
end Hg
namespace aG
variable {xs : List (Int × Int)} {E : List Int} {aH : Int}
theorem mK (k:Nat):dA xs E aH (k+1)=if St.opens (op xs k)=true/\aH<=aW E k then(k:Int)::dA xs E aH k else dA xs E aH k:=rfl
theorem l7:∀(k:Nat)(x:Int),x∈dA xs E aH k->∃j:Nat,x=j/\j<k/\St.opens (op xs j)=true/\aH<=aW E j
 |0,x,h=>by simp[dA]at h
 | k + 1,x,h=>by
   rw[mK]at h
   split at h
   · rename_i hp
     rcases List.mem_cons.1 h with rfl|h
     · exact⟨k,rfl,by omega,hp.1,hp.2⟩
     · obtain⟨j,a,b,c⟩:=l7 k x h
       exact⟨j,a,by omega,c⟩
   · obtain⟨j,a,b,c⟩:=l7 k x h
     exact⟨j,a,by omega,c⟩
theorem tQ:∀k:Nat,(dA xs E aH k).Pairwise (fun a b=>b<a)
 |0=>List.Pairwise.nil
 | k +1=>by
   rw[mK]
   split
   · refine List.pairwise_cons.2 ⟨fun x hx=>?_,tQ k⟩
     obtain⟨j,rfl,hj,-⟩:=l7 k x hx
     omega
   · exact tQ k
def lg (xs:List (Int×Int))(E:List Int)(aH:Int)(k:Nat):Nat:=(dA xs E aH k).length
theorem LV {k:Nat}(h:St.opens (op xs k)=true/\aH<=aW E k):lg xs E aH (k+1)=lg xs E aH k+1:=by unfold lg;rw[mK,ay h];rfl
theorem PI {k:Nat}(h:¬(St.opens (op xs k)=true/\aH<=aW E k)):lg xs E aH (k+1)=lg xs E aH k:=by unfold lg;rw[mK,ax h]
theorem yD:∀k:Nat,lg xs E aH k<=k
 |0=>Nat.le_refl _
 | k+1=>by
   have:=yD k
   by_cases h:St.opens (op xs k)=true/\aH<=aW E k
   · rw[LV h];omega
   · rw[PI h];omega
theorem EH {O:List Int}(hF:Fin xs E O){n:Nat}{A:List Int}(hA:dA xs E n n=A){i:Nat}(hi:i<A.length):∃j:Nat,aW A i=j/\j<n/\(n:Int)<=aW E j/\∀i',i=i'+1->∃j':Nat,aW A i'=j'/\j'<n/\j<j'/\aW E j'<aW E j:=by subst hA;have hget:∀i,i<(dA xs E n n).length->aW (dA xs E n n) i∈dA xs E n n:=fun i hi=>by{unfold aW;rw[ah,ai hi];exact List.getElem_mem hi};obtain⟨j,e,hj,ho,hE⟩:=l7 n _ (hget i hi);refine⟨j,e,hj,hE,fun i' hi'=>?_⟩;subst hi';obtain⟨j',e',hj',ho',hE'⟩:=l7 n _ (hget i' (by omega));have hlt:aW (dA xs E n n) (i'+1)<aW (dA xs E n n) i':=by{have:=List.pairwise_iff_getElem.1 (tQ (xs:=xs) (E:=E) (aH:=n) n) i' (i'+1) (by omega) hi (by omega);unfold aW;rw[ah,ah,ai hi,ai (by omega)];exact this};have hjj:j<j':=by{omega};refine⟨j',e',hj',hjj,hF.f4 j j' ho hjj (by omega) ?_⟩;rw[dO]at ho';omega
end aG
end Go.Proofs.YtpipjiinmhopmaaGreat
