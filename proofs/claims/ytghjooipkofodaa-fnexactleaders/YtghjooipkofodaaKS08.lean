/-
  Own texts for a law: LinE2 Fs1 Fi1 Shp9 Fi8 Mod1 ExL
-/
import Derived.Test.YtghjooipkofodaaKS07
import Derived.Lib.SmallJoins
import Derived.ChangeOld
import Derived.Deep.LoopGhost
namespace Go.Proofs.Ytghjooipkofodaa
open Go.RowKit Go.Shelf
set_option linter.all false
set_option maxRecDepth 100000
set_option maxHeartbeats 16000000
section
open Go.ChangeShapes Go.WideShapes Go.ChangeAt Go.RowKit Go.Shelf Go.Deep
def jP (k:Nat)(fs:List Ln):Prop:=∀j,j<k->(fs.getD j .z).l.length<=1048576
theorem iR (a:Option Addr)(len cap:Nat)(fs:List Ln)(w:World)(hs:LL w a len fs):Calls Try.prog 15 #[.slice a len cap, .int .i64 1048576] w fun e w'=>∃r:Int,e= .returned (.int .i64 r)/\(r=-1\/0<=r/\r<=1048576/\len<=1048576/\jP len fs)/\Below w.heap.size w w':=by obtain⟨hl,hm,hrow⟩:=hs;unfold maxLen at hm;by_cases hbig:1048576<len;{go_enter Try.func15,Try.ntmps15;go_wp2;go_ret;exact⟨-1,rfl, .inl rfl,Below.refl _ _⟩};have hnn:¬((1048576:Int)-(len:Int)<0):=by{omega};go_enter Try.func15,Try.ntmps15;go_wp2;go_loopw [1,5] (fun n i wr=>∃(k:Nat)(m:Int),i= .int .i64 k/\k<=len/\n= .int .i64 m/\0<=m/\m<=1048576/\jP k fs/\Below w.heap.size w wr) (fun _ i _=>len-(intOf i).toNat);(case atStart=>exact⟨0,_,rfl,Nat.zero_le _,rfl,by omega,by omega,fun j hj=>by omega,Below.refl _ _⟩);case round=>obtain⟨k,m,rfl,hk,rfl,hm0,hm1,hsm,hB⟩:=hrel;have HS:=ae hsm;clear hsm;by_cases hlt:k<len;{rcases hrow with h0|⟨b,off,rfl,hb,hx⟩;{omega};obtain⟨x0,x1,x2,x3,x4,ba,bl,bc,x5,hsl⟩:=hx k hlt;have hx0:=(hB.cell (p:=⟨b,off+k*6,none⟩) hb).trans x0;have hx1:=(hB.cell (p:=⟨b,off+k*6+1,none⟩) hb).trans x1;have hx2:=(hB.cell (p:=⟨b,off+k*6+2,none⟩) hb).trans x2;have hx3:=(hB.cell (p:=⟨b,off+k*6+3,none⟩) hb).trans x3;have hx4:=(hB.cell (p:=⟨b,off+k*6+4,none⟩) hb).trans x4;have hx5:=(hB.cell (p:=⟨b,off+k*6+5,none⟩) hb).trans x5;obtain⟨⟨p,d,aa,bb,n,bd⟩,hpq⟩:∃x,fs.getD k .z=x:=⟨_,rfl⟩;rw[hpq]at hx0 hx1 hx2 hx3 hx4 hsl;simp only at hx0 hx1 hx2 hx3 hx4 hsl;have HP:Hid (fs.getD k .z=⟨p,d,aa,bb,n,bd⟩):=hpq;have Cv:Hid (bd.length=bl):=hsl.1;have hcon:=jK p d aa bb n ba bl bc m hsl.2.1 hm0 hm1 wr;clear hx hpq x0 x1 x2 x3 x4 x5 hsl;by_cases hmb:m<bl;{rw[av hmb]at hcon;go_wp2_with fail;refine hcon.mono ?_;rintro e w1 ⟨rfl,hB1⟩;have hB2:=hB.trans (hB1.mono hB.size);clear hcon;go_wp2;go_ret;exact⟨-1,rfl, .inl rfl,hB2⟩};rw[au hmb]at hcon;have hnn:¬(m-(bl:Int)<0):=by{omega};go_wp2_with fail;refine hcon.mono ?_;rintro e w1 ⟨rfl,hB1⟩;have hB2:=hB.trans (hB1.mono hB.size);clear hcon;go_wp2;go_roundw;(case rel=>refine⟨k+1,_,by simp,by omega,rfl,by omega,by omega,fun j hj=>?_,hB2⟩;by_cases e:j=k;{subst e;rw[HP.out];have:=Cv.out;simp only;omega};exact HS.out j (by omega));case measure=>simp[intOf];omega};have hke:k=len:=by{omega};subst hke;clear hrow;go_wp2;go_ret;exact⟨m,rfl, .inr ⟨hm0,hm1,by omega,HS.out⟩,hB⟩
theorem iy (a:Option Addr)(len cap:Nat)(fs:List Ln)(h20:len<=1048576)(hsm:jP len fs)(w:World)(hs:LL w a len fs):Calls Try.prog 17 #[.slice a len cap] w fun e w'=>∃v,e= .returned v/\vG w' w.heap.size v fs/\Below w.heap.size w w':=by obtain⟨hl,hm,hrow⟩:=hs;have HL:Hid (fs.length=len):=hl;have zM:=ae hsm;clear hm hl hsm;obtain⟨i0,hi,hz0,hz1,hz2⟩:=info_parts jC;obtain⟨wm,hmk,hown,hgrow⟩:=run_make_full (P:=Try.prog) w w.heap.size 37 27 i0 _ 6 Try.underlying37 hi hz0 hz1 .i64 .i64 len (by rw[hz2];omega) (by simp only[maxLen];omega) (Nat.le_refl _);have hBm:Below w.heap.size w wm:=⟨hgrow.os,hgrow.tape,hgrow.output,hgrow.size,fun k hk=>hgrow.block k hk (by simp)⟩;have hown0:wm.ownsRow w.heap.size 27 6 (.slice (some ⟨w.heap.size,0,none⟩) len len) len (aQ (List.replicate len cz)):=by{rw[←iL];exact hown};clear hown hgrow;go_enter Try.func17,Try.ntmps17;go_wp2;go_loopw [4] (fun i wr=>∃(k:Nat)(vs:List Lv),i= .int .i64 k/\k<=len/\vs.length=len/\bV wr (w.heap.size+1) k vs fs/\wr.ownsRow w.heap.size 27 6 (.slice (some ⟨w.heap.size,0,none⟩) len len) len (aQ vs)/\Below w.heap.size w wr) (fun i _=>len-(intOf i).toNat);(case atStart=>exact⟨0,_,rfl,Nat.zero_le _,by simp,fun j hj=>by omega,hown0,hBm⟩);case round=>obtain⟨k,vs,rfl,hk,hvl,hvs,hown,hB⟩:=hrel;have HY:=ae (aj hvl hvs);clear hvl hvs hown0 hBm;by_cases hlt:k<len;{rcases hrow with h0|⟨b,off,rfl,hb,hx⟩;{omega};obtain⟨x0,x1,x2,x3,x4,ba,bl,bc,x5,hsl⟩:=hx k hlt;have hx0:=(hB.cell (p:=⟨b,off+k*6,none⟩) hb).trans x0;have hx1:=(hB.cell (p:=⟨b,off+k*6+1,none⟩) hb).trans x1;have hx2:=(hB.cell (p:=⟨b,off+k*6+2,none⟩) hb).trans x2;have hx3:=(hB.cell (p:=⟨b,off+k*6+3,none⟩) hb).trans x3;have hx4:=(hB.cell (p:=⟨b,off+k*6+4,none⟩) hb).trans x4;have hx5:=(hB.cell (p:=⟨b,off+k*6+5,none⟩) hb).trans x5;have om:=zM.out k hlt;obtain⟨⟨p,d,aa,bb,n,bd⟩,hpq⟩:∃x,fs.getD k .z=x:=⟨_,rfl⟩;rw[hpq]at hx0 hx1 hx2 hx3 hx4 hsl om;simp only at hx0 hx1 hx2 hx3 hx4 hsl om;have HP:Hid (fs.getD k .z=⟨p,d,aa,bb,n,bd⟩):=hpq;have hcon:=bQ p d aa bb n bd ba bl bc (by have:=hsl.1;omega) _ (hsl.kept hB);have zN:w.heap.size<wr.heap.size:=(World.ownsRow.lt hown _ rfl).2;clear hx hpq x0 x1 x2 x3 x4 x5 hsl om;go_wp2_with fail;refine hcon.mono ?_;rintro e w1 ⟨gb,cb,rfl,hos,hB1⟩;dsimp only;clear hcon;have hB2:=hB.trans (hB1.mono hB.size);have hown1:=aM hown hB1;have oq:=hos.mono (n₀:=w.heap.size+1) (by omega);obtain⟨hvl,hvs⟩:=HY.out;have rG:=hvs.kept hB1;obtain⟨g0,g1,g2,g3,g4,g5⟩:=bD vs k (by omega);have hc0:=(World.ownsRow.cellAt hown1 (k*6) (by omega)).trans g0;have hc1:=(World.ownsRow.cellAt hown1 (k*6+1) (by omega)).trans g1;have hc2:=(World.ownsRow.cellAt hown1 (k*6+2) (by omega)).trans g2;have hc3:=(World.ownsRow.cellAt hown1 (k*6+3) (by omega)).trans g3;have hc4:=(World.ownsRow.cellAt hown1 (k*6+4) (by omega)).trans g4;have wE:=(World.ownsRow.cellAt hown1 (k*6+5) (by omega)).trans g5;obtain⟨⟨p',d',a',b',n',v'⟩,rH⟩:∃x,vs.getD k cz=x:=⟨_,rfl⟩;rw[rH]at hc0 hc1 hc2 hc3 hc4 wE;simp only at hc0 hc1 hc2 hc3 hc4 wE;have hf0:=hown1.frozenAt (k*6);have hf1:=hown1.frozenAt (k*6+1);have hf2:=hown1.frozenAt (k*6+2);have hf3:=hown1.frozenAt (k*6+3);have Cw:=hown1.frozenAt (k*6+4);have Cx:=hown1.frozenAt (k*6+5);have cB:=hown1.stored (k*6) (.int .i64 p);have iV:=cB.1.stored (k*6+1) (.int .i64 d);have ow:=iV.1.stored (k*6+2) (.int .i64 aa);have oC:=ow.1.stored (k*6+3) (.int .i64 bb);have oD:=oC.1.stored (k*6+4) (.int .i64 n);have lh:=oD.1.stored (k*6+5) (.slice (some ⟨gb,0,none⟩) bl cb);have hgr:=(aC (aC (aC (aC (aC cB.2 iV.2) ow.2) oC.2) oD.2) lh.2);have xZ:=rG.other hgr (by omega);have kZ:OI _ (w.heap.size+1) (.slice (some ⟨gb,0,none⟩) bl cb) bd:=oq.dK hgr (fun g hgg=>by have:=(World.ownsRow.lt oq g hgg).1;omega);rw[←dR vs k (p,d,aa,bb,n,(.slice (some ⟨gb,0,none⟩) bl cb))]at lh;have HST:=ae (aj lh.1 (aj xZ kZ));clear hvl hvs rG g0 g1 g2 g3 g4 g5 rH cB iV ow oC oD lh hgr xZ kZ oq hos;have hB3:=((((((hB2.setCell (p:=⟨w.heap.size,k*6,none⟩) (Nat.le_refl _) (.int .i64 p)).setCell (p:=⟨w.heap.size,k*6+1,none⟩) (Nat.le_refl _) (.int .i64 d)).setCell (p:=⟨w.heap.size,k*6+2,none⟩) (Nat.le_refl _) (.int .i64 aa)).setCell (p:=⟨w.heap.size,k*6+3,none⟩) (Nat.le_refl _) (.int .i64 bb)).setCell (p:=⟨w.heap.size,k*6+4,none⟩) (Nat.le_refl _) (.int .i64 n)).setCell (p:=⟨w.heap.size,k*6+5,none⟩) (Nat.le_refl _) (.slice (some ⟨gb,0,none⟩) bl cb));go_wp2;go_roundw;(case rel=>obtain⟨hvl,hvs⟩:=HY.out;obtain⟨s1,s2,s3⟩:=HST.out;refine⟨k+1,vs.set k (p,d,aa,bb,n,(.slice (some ⟨gb,0,none⟩) bl cb)),by simp,by omega,by simp[hvl],fun j hj=>?_,s1,hB3⟩;by_cases e:j=k;{subst e;have e1:(vs.set j (p,d,aa,bb,n,(.slice (some ⟨gb,0,none⟩) bl cb))).getD j cz=(p,d,aa,bb,n,(.slice (some ⟨gb,0,none⟩) bl cb)):=by{rw[ag,List.getElem?_set_self (by omega)];rfl};rw[e1,HP.out];exact⟨rfl,rfl,rfl,rfl,rfl,s3⟩};have e1:(vs.set k (p,d,aa,bb,n,(.slice (some ⟨gb,0,none⟩) bl cb))).getD j cz=vs.getD j cz:=by{rw[ag,List.getElem?_set_ne (by omega),←ag]};rw[e1];exact s2 j (by omega));case measure=>simp[intOf];omega};have hke:k=len:=by{omega};subst hke;clear hrow;go_wp2;go_ret;obtain⟨hvl,hvs⟩:=HY.out;rw[←HL.out]at hown hvs;exact⟨_,by rw[←HL.out];rfl,⟨_,_,vs,rfl,hown,hvs.mono (by omega)⟩,hB⟩
theorem fC (a b:Option Addr)(len cap cap':Nat)(fs:List Ln)(w:World)(hs:LL w a len fs)(hs':LL w b len fs):Calls Try.prog 19 #[.slice a len cap, .slice b len cap'] w fun e w'=>e= .returned (.bool true)/\Below w.heap.size w w':=by obtain⟨hl,hm,hrow⟩:=hs;obtain⟨-,-,hrow'⟩:=hs';clear hl;unfold maxLen at hm;go_enter Try.func19,Try.ntmps19;go_wp2;go_loopw [5] (fun i wr=>∃k:Nat,i= .int .i64 k/\k<=len/\Below w.heap.size w wr) (fun i _=>len-(intOf i).toNat);(case atStart=>exact⟨0,rfl,Nat.zero_le _,Below.refl _ _⟩);case round=>obtain⟨k,rfl,hk,hB⟩:=hrel;by_cases hlt:k<len;{rcases hrow with h0|⟨b1,eD,rfl,hb1,hx1⟩;{omega};rcases hrow' with h0|⟨b2,eF,rfl,hb2,hx2⟩;{omega};obtain⟨x0,x1,x2,x3,x4,ba,bl,bc,x5,hsl⟩:=hx1 k hlt;obtain⟨y0,y1,y2,y3,y4,ba',Cy,bc',y5,rJ⟩:=hx2 k hlt;obtain⟨⟨p,d,aa,bb,n,bd⟩,hpq⟩:∃x,fs.getD k .z=x:=⟨_,rfl⟩;rw[hpq]at x0 x1 x2 x3 x4 y0 y1 y2 y3 y4 hsl rJ;simp only at x0 x1 x2 x3 x4 y0 y1 y2 y3 y4 hsl rJ;obtain rfl:bl=Cy:=hsl.1.symm.trans rJ.1;have hs1:=hsl.kept hB;have hs2:=rJ.kept hB;have hc0:∀wx:dH wr,wx.to.cell? ⟨b1,eD+k*6,none⟩=some (.int .i64 p):=fun wx=>((hB.trans (wx.h.mono hB.size)).cell (p:=⟨b1,eD+k*6,none⟩) hb1).trans x0;have hc1:∀wx:dH wr,wx.to.cell? ⟨b1,eD+k*6+1,none⟩=some (.int .i64 d):=fun wx=>((hB.trans (wx.h.mono hB.size)).cell (p:=⟨b1,eD+k*6+1,none⟩) hb1).trans x1;have hc2:∀wx:dH wr,wx.to.cell? ⟨b1,eD+k*6+2,none⟩=some (.int .i64 aa):=fun wx=>((hB.trans (wx.h.mono hB.size)).cell (p:=⟨b1,eD+k*6+2,none⟩) hb1).trans x2;have hc3:∀wx:dH wr,wx.to.cell? ⟨b1,eD+k*6+3,none⟩=some (.int .i64 bb):=fun wx=>((hB.trans (wx.h.mono hB.size)).cell (p:=⟨b1,eD+k*6+3,none⟩) hb1).trans x3;have hc4:∀wx:dH wr,wx.to.cell? ⟨b1,eD+k*6+4,none⟩=some (.int .i64 n):=fun wx=>((hB.trans (wx.h.mono hB.size)).cell (p:=⟨b1,eD+k*6+4,none⟩) hb1).trans x4;have wE:∀wx:dH wr,wx.to.cell? ⟨b1,eD+k*6+5,none⟩=some (.slice ba bl bc):=fun wx=>((hB.trans (wx.h.mono hB.size)).cell (p:=⟨b1,eD+k*6+5,none⟩) hb1).trans x5;have hd0:∀wx:dH wr,wx.to.cell? ⟨b2,eF+k*6,none⟩=some (.int .i64 p):=fun wx=>((hB.trans (wx.h.mono hB.size)).cell (p:=⟨b2,eF+k*6,none⟩) hb2).trans y0;have hd1:∀wx:dH wr,wx.to.cell? ⟨b2,eF+k*6+1,none⟩=some (.int .i64 d):=fun wx=>((hB.trans (wx.h.mono hB.size)).cell (p:=⟨b2,eF+k*6+1,none⟩) hb2).trans y1;have hd2:∀wx:dH wr,wx.to.cell? ⟨b2,eF+k*6+2,none⟩=some (.int .i64 aa):=fun wx=>((hB.trans (wx.h.mono hB.size)).cell (p:=⟨b2,eF+k*6+2,none⟩) hb2).trans y2;have hd3:∀wx:dH wr,wx.to.cell? ⟨b2,eF+k*6+3,none⟩=some (.int .i64 bb):=fun wx=>((hB.trans (wx.h.mono hB.size)).cell (p:=⟨b2,eF+k*6+3,none⟩) hb2).trans y3;have hd4:∀wx:dH wr,wx.to.cell? ⟨b2,eF+k*6+4,none⟩=some (.int .i64 n):=fun wx=>((hB.trans (wx.h.mono hB.size)).cell (p:=⟨b2,eF+k*6+4,none⟩) hb2).trans y4;have hd5:∀wx:dH wr,wx.to.cell? ⟨b2,eF+k*6+5,none⟩=some (.slice ba' bl bc'):=fun wx=>((hB.trans (wx.h.mono hB.size)).cell (p:=⟨b2,eF+k*6+5,none⟩) hb2).trans y5;have hne:=dH.any wr;clear hx1 hx2 x0 x1 x2 x3 x4 x5 y0 y1 y2 y3 y4 y5 hpq hsl rJ;go_wp2;refine bG (by kernel_rfl) (by kernel_rfl) ?_;(repeat(go_big_quiet_step (first|(go_at_call 11;refine bR (gL _ _ _ _ _ bd _ _ _ _ _ _ (hs1.kept (dH.h _)) (hs2.kept (dH.h _)))))));refine wpQuiet_nil ?_;rintro _ ⟨pw,rfl⟩;have oh:=hB.trans (pw.h.mono hB.size);generalize pw.to=w7 at*;go_wp2;go_roundw;(case rel=>exact⟨k+1,by simp,by omega,oh⟩);case measure=>simp[intOf];omega};clear hrow hrow';go_wp2;go_ret;exact⟨rfl,hB⟩
theorem rf {H:Type}{enc:TypeId×Value->H}{W:World}{v:Value}{m:Nat}{y:DataW H×List MemPlace}(h:DataW.trod enc Try.prog W 0 (fun _=>true) true m 22 [v]=some y):∃a len cap xs,v= .slice a len cap/\IL W a len xs:=by rcases open_ints Try.underlying22 Try.underlying2 (by kernel_rfl) h with⟨hcs,_⟩|⟨x,l,c,zs,hcs,_⟩;{simp only[List.cons.injEq,and_true]at hcs;subst hcs;exact⟨none,0,0,[],rfl,rfl,Nat.zero_le _, .inl rfl⟩};simp only[List.cons.injEq,and_true]at hcs;subst hcs;obtain⟨xs,hx⟩:=wU (cap:=c) (a:=some x) (len:=l) (d:=y.1) (ps:=y.2) ⟨m,by simpa[Value.cells]using h⟩;exact⟨_,_,_,xs,rfl,hx⟩
theorem jH {H:Type}{enc:TypeId×Value->H}{W:World}{v0 v1 v2 v3 v4 v5:Value}{m:Nat}{y:DataW H×List MemPlace}(h:DataW.trod enc Try.prog W 0 (fun _=>true) true m 24 [v0,v1,v2,v3,v4,v5]=some y):∃k d a b n la ln lc xs,v0= .int .i64 k/\v1= .int .i64 d/\v2= .int .i64 a/\v3= .int .i64 b/\v4= .int .i64 n/\v5= .slice la ln lc/\IL W la ln xs:=by
 obtain⟨xs,f,-,-,-,hlen,hf⟩:=DataW.trod_struct Try.underlying24 h
 match xs,hlen with
 |[y0,y1,y2,y3,y4,y5],_=>
  have c1:Try.prog.cellsOf 2=1:=by kernel_rfl
  have c2:Try.prog.cellsOf 22=1:=by kernel_rfl
  have t0:=hf 0 _ rfl
  have t1:=hf 1 _ rfl
  have t2:=hf 2 _ rfl
  have t3:=hf 3 _ rfl
  have t4:=hf 4 _ rfl
  have t5:=hf 5 _ rfl
  simp[c1,c2]at t0 t1 t2 t3 t4 t5
  obtain⟨k,e0,_⟩:=DataW.trod_int Try.underlying2 t0
  obtain⟨d,e1,_⟩:=DataW.trod_int Try.underlying2 t1
  obtain⟨a,e2,_⟩:=DataW.trod_int Try.underlying2 t2
  obtain⟨b,e3,_⟩:=DataW.trod_int Try.underlying2 t3
  obtain⟨n,e4,_⟩:=DataW.trod_int Try.underlying2 t4
  obtain⟨la,ln,lc,zs,e5,hs⟩:=rf t5
  exact⟨k,d,a,b,n,la,ln,lc,zs,by simpa using e0,by simpa using e1,by simpa using e2,by simpa using e3,by simpa using e4,e5,hs⟩
theorem oV {H:Type}{enc:TypeId×Value->H}{W:World}{v:Value}{n:Nat}{x:DataW H×List MemPlace}(hf:DataW.trod enc Try.prog W 0 (fun _=>true) true n 34 [v]=some x):∃a len cap fs,v= .slice a len cap/\LL W a len fs:=by
 rcases open_slice Try.underlying34 hf with⟨hcs,_⟩|⟨x,l,c,m,n,D,Pl,hcs,_,hl,hm,hmm,_,hx⟩
 · simp at hcs;subst hcs;exact⟨none,0,0,[],rfl,rfl,Nat.zero_le _, .inl rfl⟩
 · simp at hcs
   subst hcs
   simp only[if_true]at hmm
   subst hmm
   have ce:Try.prog.cellsOf 24=6:=by kernel_rfl
   have each:∀i,i<m->∃q:Ln×Option Addr×Nat×Nat,W.cell? (x.add (i*6))=some (.int .i64 q.1.k)/\W.cell? (x.add (i*6+1))=some (.int .i64 q.1.d)/\W.cell? (x.add (i*6+2))=some (.int .i64 q.1.a)/\W.cell? (x.add (i*6+3))=some (.int .i64 q.1.b)/\W.cell? (x.add (i*6+4))=some (.int .i64 q.1.n)/\W.cell? (x.add (i*6+5))=some (.slice q.2.1 q.2.2.1 q.2.2.2)/\IL W q.2.1 q.2.2.1 q.1.l:=by
    intro i hi
    obtain⟨cs',h1,h2⟩:=hx i hi
    rw[ce]at h1
    obtain⟨_,hlen,hcell⟩:=World.cells?_some h1
    match cs',hlen with
    |[v0,v1,v2,v3,v4,v5],_=>
     obtain⟨k,d,a,b,n,la,ln,lc,xs,rfl,rfl,rfl,rfl,rfl,rfl,hs⟩:=jH h2
     have g0:=hcell 0 (by omega)
     have g1:=hcell 1 (by omega)
     have g2:=hcell 2 (by omega)
     have g3:=hcell 3 (by omega)
     have g4:=hcell 4 (by omega)
     have g5:=hcell 5 (by omega)
     rw[add_add]at g0 g1 g2 g3 g4 g5
     exact⟨(⟨k,d,a,b,n,xs⟩,la,ln,lc),by simpa using g0,by simpa using g1,by simpa using g2,by simpa using g3,by simpa using g4,by simpa using g5,hs⟩
   haveI:Inhabited (Ln×Option Addr×Nat×Nat):=⟨(.z,none,0,0)⟩
   obtain⟨q,hq⟩:=choose_lt each
   by_cases h0:l=0
   · subst h0;exact⟨_,_,_,[],rfl,rfl,Nat.zero_le _, .inl rfl⟩
   · have hspot:x.spot=none:=by{have hc:=(hq 0 (by omega)).1;have:=World.cell?_spot hc;obtain⟨b,off,spot⟩:=x;simpa[Addr.add]using this};obtain⟨b,off,spot⟩:=x;simp only at hspot;subst hspot;(have hadd:∀i,(⟨b,off,none⟩:Addr).add i=⟨b,off+i,none⟩:=fun i=>by unfold Addr.add;split<;>simp_all);have hb:b<W.heap.size:=by{have:=World.block_lt_of_cell? _ _ (hq 0 (by omega)).1;simpa[hadd]using this};refine⟨_,_,_,(List.range l).map fun j=>(q j).1,rfl,by simp,Nat.le_trans hl hm, .inr ⟨b,off,rfl,hb,fun j hj=>?_⟩⟩;obtain⟨k0,k1,k2,k3,k4,k5,k6⟩:=hq j (by omega);rw[hadd]at k0 k1 k2 k3 k4 k5;have e:((List.range l).map fun j=>(q j).1).getD j .z=(q j).1:=by{simp[ag,hj]};rw[e];exact⟨k0,by rw[Nat.add_assoc];exact k1,by rw[Nat.add_assoc];exact k2,by rw[Nat.add_assoc];exact k3,by rw[Nat.add_assoc];exact k4,_,_,_,by rw[Nat.add_assoc];exact k5,k6⟩
end
theorem LL.at {w:World}{a:Option Addr}{len:Nat}{ls:List Ln}(h:LL w a len ls){p:Nat}(hp:p<len):∃b off,a=some ⟨b,off,none⟩/\b<w.heap.size/\LC w b (off+p*6) (ls.getD p .z):=by obtain⟨-,-,h0|⟨b,off,rfl,hb,hx⟩⟩:=h;{omega};exact⟨b,off,rfl,hb,hx p hp⟩
theorem jg (a:Option Addr)(len cap:Nat)(ls:List Ln)(p:Nat)(hp:p<len)(hlen:len<=1000)(w:World)(hs:LL w a len ls):Calls Try.prog 31 #[.slice a len cap, .int .i64 (p:Int)] w fun e w'=>∃g m c,e= .returned (.slice (some ⟨g,0,none⟩) m c)/\OG w' w.heap.size g m c (Fl.nx (ls.getD p .z) p)/\Below w.heap.size w w':=by obtain⟨b,off,rfl,hb,hc⟩:=hs.at hp;clear hs;have Cz:(p:Int)<(len:Int):=by{omega};have zO:(len:Int)<=1000:=by{omega};obtain⟨x,hx⟩:∃x,ls.getD p .z=x:=⟨_,rfl⟩;rw[hx]at hc ⊢;clear hx;obtain⟨k,d,a',b',n,l⟩:=x;obtain⟨c0,c1,c2,c3,c4,-⟩:=hc;simp only at c0 c1 c2 c3 c4;clear c1 c2 c3;by_cases h5:k=5;{subst h5;have e:Fl.nx ⟨5,d,a',b',n,l⟩ p=[n]:=rfl;rw[e];have ho:=OG.one w w.heap.size (Nat.le_refl _) n;have hB:=ax w (.cells #[.int .i64 n] 2);clear e;go_enter Try.func31,Try.ntmps31;go_wp2;go_ret;exact⟨_,1,1,rfl,ho,hB⟩};by_cases h6:k=6;{subst h6;have e:Fl.nx ⟨6,d,a',b',n,l⟩ p=Ln.put [(p:Int)+1] n:=rfl;rw[e];have ho:=OG.one w w.heap.size (Nat.le_refl _) ((p:Int)+1);have hB:=ax w (.cells #[.int .i64 ((p:Int)+1)] 2);have hcon:=bz w.heap.size w.heap.size 1 1 [(p:Int)+1] n (by omega) (w.alloc (.cells #[.int .i64 ((p:Int)+1)] 2)) hB.size ho;have HB:=ae hB;clear e ho hB h5;go_enter Try.func31,Try.ntmps31;go_wp2_with(go_at_call 36;refine hcon.mono ?_;rintro e w2 ⟨g,m,c,rfl,ho2,hB2⟩;dsimp only;have HF:=ae (aj ho2 (HB.out.trans (hB2.mono HB.out.size)));clear ho2 hB2 hcon);go_ret;exact⟨g,m,c,rfl,HF.out.1,HF.out.2⟩};have k5:(k==5)=false:=by{simp;omega};have k6:(k==6)=false:=by{simp;omega};by_cases h10:k=10\/k=11;{have e:Fl.nx ⟨k,d,a',b',n,l⟩ p=[]:=by{unfold Fl.nx;rw[au h5,au h6,av h10]};rw[e];have ho:=OG.empty w w.heap.size (Nat.le_refl _);have hB:=ax w (.cells #[] 2);clear e k5 k6 h5 h6;rcases h10 with rfl|rfl;all_goals go_enter Try.func31,Try.ntmps31;go_wp2;go_ret;exact⟨_,0,0,rfl,ho,hB⟩};have e:Fl.nx ⟨k,d,a',b',n,l⟩ p=[(p:Int)+1]:=by{unfold Fl.nx;rw[au h5,au h6,au h10]};rw[e];have k10:(k==10)=false:=by{simp;omega};have k11:(k==11)=false:=by{simp;omega};have ho:=OG.one w w.heap.size (Nat.le_refl _) ((p:Int)+1);have hB:=ax w (.cells #[.int .i64 ((p:Int)+1)] 2);clear e h5 h6 h10;go_enter Try.func31,Try.ntmps31;go_wp2;go_ret;exact⟨_,1,1,rfl,ho,hB⟩
theorem mr (a:Option Addr)(len cap:Nat)(ls:List Ln)(p:Int)(w:World)(hs:LL w a len ls):Calls Try.prog 30 #[.slice a len cap, .int .i64 p] w fun e w'=>e= .returned (.bool (Fl.has ls p))/\Below w.heap.size w w':=by have hcon:=fu a len cap ls w hs;have hl:=hs.1;clear hs;have e:Fl.has ls p=(Ln.isOk ls&&decide (0<=p/\p<(len:Int))):=by{unfold Fl.has;rw[hl]};rw[e];clear e hl;generalize Ln.isOk ls=r at hcon ⊢;rcases r with _|_;{go_enter Try.func30,Try.ntmps30;go_wp2_with fail;refine hcon.mono ?_;rintro e w2 ⟨rfl,hB⟩;dsimp only;clear hcon;go_wp2;go_ret;exact⟨rfl,hB⟩};by_cases h0:0<=p;{by_cases h1:p<(len:Int);{have e:decide (0<=p/\p<(len:Int))=true:=decide_eq_true ⟨h0,h1⟩;rw[e];clear e;go_enter Try.func30,Try.ntmps30;go_wp2_with fail;refine hcon.mono ?_;rintro e w2 ⟨rfl,hB⟩;dsimp only;clear hcon;go_wp2;go_ret;exact⟨rfl,hB⟩};have e:decide (0<=p/\p<(len:Int))=false:=decide_eq_false fun h=>h1 h.2;rw[e];clear e;go_enter Try.func30,Try.ntmps30;go_wp2_with fail;refine hcon.mono ?_;rintro e w2 ⟨rfl,hB⟩;dsimp only;clear hcon;go_wp2;go_ret;exact⟨by simp[h1],hB⟩};have e:decide (0<=p/\p<(len:Int))=false:=decide_eq_false fun h=>h0 h.1;rw[e];clear e;go_enter Try.func30,Try.ntmps30;go_wp2_with fail;refine hcon.mono ?_;rintro e w2 ⟨rfl,hB⟩;dsimp only;clear hcon;go_wp2;go_ret;exact⟨rfl,hB⟩
theorem mZ (a:Option Addr)(len cap:Nat)(ls:List Ln)(p:Int)(w:World)(hs:LL w a len ls):Calls Try.prog 16 #[.slice a len cap, .int .i64 p] w fun e w'=>∃g m c,e= .returned (.slice (some ⟨g,0,none⟩) m c)/\OG w' w.heap.size g m c (Fl.bT ls p)/\Below w.heap.size w w':=by have hcon:=mr a len cap ls p w hs;rcases hh:Fl.has ls p with _|_;{have e:Fl.bT ls p=[]:=by{unfold Fl.bT;rw[au (by rw[hh];decide)]};rw[e];rw[hh]at hcon;clear e hs;go_enter Try.func16,Try.ntmps16;go_wp2_with fail;refine hcon.mono ?_;rintro e w2 ⟨rfl,hB2⟩;dsimp only;have ho:=OG.empty w2 w.heap.size hB2.size;have hBx:=hB2.trans ((ax w2 (.cells #[] 2)).mono hB2.size);clear hcon hB2;go_wp2;go_ret;exact⟨_,0,0,rfl,ho,hBx⟩};have e:Fl.bT ls p=Fl.nx (ls.getD p.toNat .z) p.toNat:=by{unfold Fl.bT;rw[av hh]};rw[e];rw[hh]at hcon;unfold Fl.has at hh;simp only[ak,decide_eq_true_eq]at hh;have hlen:=Ln.cK hh.1;obtain⟨q,rfl⟩:=Int.eq_ofNat_of_zero_le hh.2.1;have hq:q<len:=by{have:=hh.2.2;rw[hs.1]at this;omega};rw[Int.toNat_natCast];have hll:=hs.1;clear hh e;go_enter Try.func16,Try.ntmps16;go_wp2_with fail;refine hcon.mono ?_;rintro e w2 ⟨rfl,hB2⟩;dsimp only;have aU:=jg a len cap ls q hq (by omega) w2 (hs.kept hB2);clear hcon hll hlen;go_wp2_with fail;refine aU.mono ?_;rintro e w3 ⟨g,m,c,rfl,ho,hB3⟩;dsimp only;have HF:=ae (aj (ho.mono hB2.size) (hB2.trans (hB3.mono hB2.size)));clear ho hB2 hB3 aU hs;go_wp2;go_ret;exact⟨g,m,c,rfl,HF.out.1,HF.out.2⟩
namespace Fl
def raw (x:Ln)(i:Nat):List Int:=(if Ln.bW x=true then[x.n]else[])++(if Ln.behind x=true then[(i:Int)+1]else[])
theorem uS (x:Ln)(i:Nat):Ln.aS (raw x i)=nx x i:=by obtain⟨k,d,a,b,n,l⟩:=x;unfold raw nx Ln.bW Ln.behind;by_cases h5:k=5;{subst h5;rfl};by_cases h6:k=6;{subst h6;show Ln.aS [n,(i:Int)+1]=Ln.put [(i:Int)+1] n;refine fG (dQ _) (fF (List.pairwise_singleton _ _)) fun z=>?_;rw[dM,fe];simp};by_cases h10:k=10\/k=11;{have e1:decide (k=5\/k=6)=false:=decide_eq_false (by omega);have e2:decide (k=5\/k=10\/k=11)=true:=decide_eq_true (by omega);simp only[e1,e2];rw[au h5,au h6,av h10];rfl};have e1:decide (k=5\/k=6)=false:=decide_eq_false (by omega);have e2:decide (k=5\/k=10\/k=11)=false:=decide_eq_false (by omega);simp only[e1,e2];rw[au h5,au h6,au h10];rfl
end Fl
theorem bH (W:World)(y:Int):Hid (∀j,j<1->(W.alloc (.cells #[.int .i64 y] 2)).cell? ⟨W.heap.size,0+j,none⟩=some (.int .i64 (([y]:List Int).getD j 0))):=fun j hj=>by
 obtain rfl:j=0:=by omega
 exact(OG.one W W.heap.size (Nat.le_refl _) y).cell (j:=0) (by omega)
theorem kv (x:Ln)(h1:1<=x.k)(h2:x.k<=11)(la:Option Addr)(ln lc:Nat)(p:Nat)(hp:p<=1000)(w:World):Calls Try.prog 34 #[aH x (.slice la ln lc), .int .i64 (p:Int)] w fun e w'=>∃g m c,e= .returned (.slice (some ⟨g,0,none⟩) m c)/\OG w' w.heap.size g m c (Fl.nx x p)/\Below w.heap.size w w':=by have hpt:=fun W=>bU x h1 h2 la ln lc W;have hcb:=fun W=>bu x h1 h2 la ln lc W;have HN:=ae (Fl.uS x p);generalize aH x (.slice la ln lc)=sv at hpt hcb ⊢;unfold Fl.raw at HN;generalize Fl.nx x p=N at HN ⊢;have Cz:(p:Int)<=1000:=by{omega};have ho:=OG.empty w w.heap.size (Nat.le_refl _);have hB:=ax w (.cells #[] 2);have HO:=ae (aj ho hB);have hp0:=hpt (w.alloc (.cells #[] 2));obtain⟨W1,hW1⟩:∃W1,w.alloc (.cells #[] 2)=W1:=⟨_,rfl⟩;rw[hW1]at HO hp0;have hs1:w.heap.size<W1.heap.size:=by{rw[←hW1];simp};clear ho hB hpt h1 h2;generalize x.n=n at hp0 HN;rcases hg:Ln.bW x with _|_;{rw[hg]at hp0 HN;rcases hb:Ln.behind x with _|_;{rw[hb]at HN;clear hg;go_enter Try.func34,Try.ntmps34;go_wp2_with fail;refine hp0.mono ?_;rintro e w2 ⟨rfl,hB2⟩;dsimp only;have jM:Hid (OG w2 w.heap.size w.heap.size 0 0 []/\Below w.heap.size w w2):=⟨HO.out.1.kept hB2,HO.out.2.trans (hB2.mono HO.out.2.size)⟩;clear hp0 HO hB2;have eP:=hcb w2;rw[hb]at eP;clear hb;go_wp2_with fail;refine eP.mono ?_;rintro e w4 ⟨rfl,hB4⟩;dsimp only;have lg:=ae (aj (jM.out.1.kept hB4) (jM.out.2.trans (hB4.mono jM.out.2.size)));clear eP hB4;have hcon:=bf w.heap.size w.heap.size 0 0 _ w4 lg.out.1 lg.out.2.size (by omega);go_wp2_with fail;refine hcon.mono ?_;rintro e w6 ⟨m6,rfl,gZ,bX⟩;dsimp only;have HF:Hid (OG w6 w.heap.size w.heap.size m6 _ N/\Below w.heap.size w w6):=⟨by rw[←HN.out];exact gZ,aB lg.out.2 bX (Nat.le_refl _)⟩;clear hcon gZ bX;go_wp2;go_ret;exact⟨w.heap.size,m6,_,rfl,HF.out.1,HF.out.2⟩};rw[hb]at HN;clear hg;go_enter Try.func34,Try.ntmps34;go_wp2_with fail;refine hp0.mono ?_;rintro e w2 ⟨rfl,hB2⟩;dsimp only;have jM:Hid (OG w2 w.heap.size w.heap.size 0 0 []/\Below w.heap.size w w2):=⟨HO.out.1.kept hB2,HO.out.2.trans (hB2.mono HO.out.2.size)⟩;clear hp0 HO hB2;have eP:=hcb w2;rw[hb]at eP;clear hb;go_wp2_with fail;refine eP.mono ?_;rintro e w4 ⟨rfl,hB4⟩;dsimp only;have lg:=ae (aj (jM.out.1.kept hB4) (jM.out.2.trans (hB4.mono jM.out.2.size)));clear eP hB4;have iW:=ax w4 (.cells #[.int .i64 ((p:Int)+1)] 2);have oF:=ae (aj (lg.out.1.kept iW) (lg.out.2.trans (iW.mono lg.out.2.size)));have rM:=bH w4 ((p:Int)+1);have zP:=lg.out.2.size;clear iW;go_wp2_with(at_builtin;refine aP _ rfl _ _ rfl w.heap.size _ _ _ _ rfl oF.out.1 w4.heap.size 0 1 1 [(p:Int)+1] rfl rfl rM.out (by omega) (by simp;omega) ?_;intro g5 c5 N5 w5 rP eH hgr5;have vN:=ae (aj eH (aB oF.out.2 hgr5 (Nat.le_refl _)));have hg5:=eH.lt;clear eH hgr5 oF rM;have vO:=rP.out;clear rP;subst vO;have hcon:=bf w.heap.size g5 _ c5 _ w5 vN.out.1 vN.out.2.size (by omega));refine hcon.mono ?_;rintro e w6 ⟨m6,rfl,gZ,bX⟩;dsimp only;have HF:Hid (OG w6 w.heap.size g5 m6 _ N/\Below w.heap.size w w6):=⟨by rw[←HN.out];exact gZ,aB vN.out.2 bX (hg5.1)⟩;clear hcon gZ bX;go_wp2;go_ret;exact⟨g5,m6,_,rfl,HF.out.1,HF.out.2⟩};rw[hg]at hp0 HN;rcases hb:Ln.behind x with _|_;{rw[hb]at HN;clear hg;go_enter Try.func34,Try.ntmps34;go_wp2_with fail;refine hp0.mono ?_;rintro e w2 ⟨rfl,hB2⟩;dsimp only;have jM:Hid (OG w2 w.heap.size w.heap.size 0 0 []/\Below w.heap.size w w2):=⟨HO.out.1.kept hB2,HO.out.2.trans (hB2.mono HO.out.2.size)⟩;clear hp0 HO hB2;have iX:=ax w2 (.cells #[.int .i64 (n)] 2);have oG:=ae (aj (jM.out.1.kept iX) (jM.out.2.trans (iX.mono jM.out.2.size)));have rQ:=bH w2 (n);have zQ:=jM.out.2.size;clear iX;go_wp2_with(at_builtin;refine aP _ rfl _ _ rfl w.heap.size _ _ _ _ rfl oG.out.1 w2.heap.size 0 1 1 [n] rfl rfl rQ.out (by omega) (by simp;omega) ?_;intro g3 c3 N3 w3 vK ho3 jr;have sO:=ae (aj ho3 (aB oG.out.2 jr (Nat.le_refl _)));have hg3:=ho3.lt;have eP:=hcb w3;rw[hb]at eP;clear ho3 jr hb oG rQ;have vP:=vK.out;clear vK;subst vP);refine eP.mono ?_;rintro e w4 ⟨rfl,hB4⟩;dsimp only;have lg:=ae (aj (sO.out.1.kept hB4) (sO.out.2.trans (hB4.mono sO.out.2.size)));clear eP hB4;have hcon:=bf w.heap.size g3 (0+1) c3 _ w4 lg.out.1 lg.out.2.size (by omega);go_wp2_with fail;refine hcon.mono ?_;rintro e w6 ⟨m6,rfl,gZ,bX⟩;dsimp only;have HF:Hid (OG w6 w.heap.size g3 m6 _ N/\Below w.heap.size w w6):=⟨by rw[←HN.out];exact gZ,aB lg.out.2 bX (hg3.1)⟩;clear hcon gZ bX;go_wp2;go_ret;exact⟨g3,m6,_,rfl,HF.out.1,HF.out.2⟩};rw[hb]at HN;clear hg;go_enter Try.func34,Try.ntmps34;go_wp2_with fail;refine hp0.mono ?_;rintro e w2 ⟨rfl,hB2⟩;dsimp only;have jM:Hid (OG w2 w.heap.size w.heap.size 0 0 []/\Below w.heap.size w w2):=⟨HO.out.1.kept hB2,HO.out.2.trans (hB2.mono HO.out.2.size)⟩;clear hp0 HO hB2;have iX:=ax w2 (.cells #[.int .i64 (n)] 2);have oG:=ae (aj (jM.out.1.kept iX) (jM.out.2.trans (iX.mono jM.out.2.size)));have rQ:=bH w2 (n);have zQ:=jM.out.2.size;clear iX;go_wp2_with(at_builtin;refine aP _ rfl _ _ rfl w.heap.size _ _ _ _ rfl oG.out.1 w2.heap.size 0 1 1 [n] rfl rfl rQ.out (by omega) (by simp;omega) ?_;intro g3 c3 N3 w3 vK ho3 jr;have sO:=ae (aj ho3 (aB oG.out.2 jr (Nat.le_refl _)));have hg3:=ho3.lt;have eP:=hcb w3;rw[hb]at eP;clear ho3 jr hb oG rQ;have vP:=vK.out;clear vK;subst vP);refine eP.mono ?_;rintro e w4 ⟨rfl,hB4⟩;dsimp only;have lg:=ae (aj (sO.out.1.kept hB4) (sO.out.2.trans (hB4.mono sO.out.2.size)));clear eP hB4;have iW:=ax w4 (.cells #[.int .i64 ((p:Int)+1)] 2);have oF:=ae (aj (lg.out.1.kept iW) (lg.out.2.trans (iW.mono lg.out.2.size)));have rM:=bH w4 ((p:Int)+1);have zP:=lg.out.2.size;clear iW;go_wp2_with(at_builtin;refine aP _ rfl _ _ rfl w.heap.size _ _ _ _ rfl oF.out.1 w4.heap.size 0 1 1 [(p:Int)+1] rfl rfl rM.out (by omega) (by simp;omega) ?_;intro g5 c5 N5 w5 rP eH hgr5;have vN:=ae (aj eH (aB oF.out.2 hgr5 (hg3.1)));have hg5:=eH.lt;clear eH hgr5 oF rM;have vO:=rP.out;clear rP;subst vO;have hcon:=bf w.heap.size g5 _ c5 _ w5 vN.out.1 vN.out.2.size (by omega));refine hcon.mono ?_;rintro e w6 ⟨m6,rfl,gZ,bX⟩;dsimp only;have HF:Hid (OG w6 w.heap.size g5 m6 _ N/\Below w.heap.size w w6):=⟨by rw[←HN.out];exact gZ,aB vN.out.2 bX (hg5.1)⟩;clear hcon gZ bX;go_wp2;go_ret;exact⟨g5,m6,_,rfl,HF.out.1,HF.out.2⟩
def SR (w W:World)(n₀ g k c:Nat)(xs:List Ln):Prop:=
 ∃bS:List Value,bS.length=k/\W.ownsRow n₀ 48 1 (.slice (some ⟨g,0,none⟩) k c) k bS/\∀j,j<k->∃la ln lc,bS.getD j undef=aH (xs.getD j .z) (.slice la ln lc)/\IL w la ln (xs.getD j .z).l
theorem iJ:(Try.prog.info? 48).map (fun i=>(i.zero,i.size,i.bytes))=some (some .nilIface,1,16):=by kernel_rfl
theorem SR.lt {w W:World}{n₀ g k c:Nat}{xs:List Ln}(h:SR w W n₀ g k c xs):n₀<=g/\g<W.heap.size:=by obtain⟨bS,-,h,-⟩:=h;exact World.ownsRow.lt h g rfl
theorem SR.kept {w W W':World}{n₀ g k c:Nat}{xs:List Ln}(h:SR w W n₀ g k c xs)(hB:Below W.heap.size W W'):SR w W' n₀ g k c xs:=by obtain⟨bS,h1,h2,h3⟩:=h;exact⟨bS,h1,aM h2 hB,h3⟩
theorem SR.cell {w W:World}{n₀ g k c:Nat}{xs:List Ln}(h:SR w W n₀ g k c xs){j:Nat}(hj:j<k):∃la ln lc,W.cell? ⟨g,j,none⟩=some (aH (xs.getD j .z) (.slice la ln lc))/\IL w la ln (xs.getD j .z).l:=by obtain⟨bS,h1,h2,h3⟩:=h;obtain⟨la,ln,lc,e,hi⟩:=h3 j hj;refine⟨la,ln,lc,?_,hi⟩;have:=World.ownsRow.cellAt h2 j (by omega);rw[←e];rw[ag,ah (by omega)];rw[this];simp
theorem SR.cut {w W:World}{n₀ g k c m:Nat}{xs:List Ln}(h:SR w W n₀ g k c (xs.take m))(hk:k<=m):SR w W n₀ g k c xs:=by obtain⟨bS,h1,h2,h3⟩:=h;refine⟨bS,h1,h2,fun j hj=>?_⟩;obtain⟨la,ln,lc,e,hi⟩:=h3 j hj;have e2:(xs.take m).getD j .z=xs.getD j .z:=by{rw[ag,ag,List.getElem?_take_of_lt (by omega)]};rw[e2]at e hi;exact⟨la,ln,lc,e,hi⟩
theorem pW {ops:Array Oper}{rest:List Oper}{o:Oper}{a:Act}{Q:Exit->Act->World->Prop}(W w:World)(hgd:o.guard=none)(s x:Operand)(ho:o.op= .call {callee:= .builtin .append,args:=#[s,x],argTypes:=#[51,51]})(n₀ g k c:Nat)(xs:List Ln)(hs:a.eval s= .slice (some ⟨g,0,none⟩) k c)(hown:SR w W n₀ g k c xs)(hxl:xs.length=k)(sb:Nat)(hx:a.eval x= .slice (some ⟨sb,0,none⟩) 1 1)(y:Ln)(la:Option Addr)(ln lc:Nat)(T:TypeId)(u:Value)(hv:aH y (.slice la ln lc)= .iface T u)(hcell:W.cell? ⟨sb,0,none⟩=some (.iface T u))(hil:IL w la ln y.l)(hsz:k<=1000000)(hbase:n₀<=W.heap.size)(h:∀g' c' N W',Hid (N=k+1)->SR w W' n₀ g' N c' (xs++[y])->W.grownBy W' (some g)->wpList Try.prog ops Q rest (a.put o.dst (.slice (some ⟨g',0,none⟩) N c')) W'):wpList Try.prog ops Q (o::rest) a W:=by obtain⟨i0,hi,hz0,hz1,hz2⟩:=info_parts iJ;obtain⟨bS,h1,h2,h3⟩:=hown;refine wpList_append_own W hgd s x 51 ho n₀ 48 i0 .nilIface 1 16 Try.underlying51 hi hz0 hz1 hz2 rfl (by decide) _ k bS hs h2 ⟨sb,0,none⟩ 1 1 [.iface T u] hx rfl (fun j u' hu=>?_) (fun u' hu=>?_) (by simp only[maxLen];omega) (by omega) hbase (fun v' W' hown' hgrow hnn=>?_);{rcases j with _|j;{simp only[List.getElem?_cons_zero,af]at hu;rw[←hu];(have hadd:(⟨sb,0,none⟩:Addr).add 0=⟨sb,0,none⟩:=by unfold Addr.add;split<;>simp_all);rw[hadd];exact hcell};simp at hu};{rw[List.mem_singleton]at hu;rw[hu];rfl};rcases hown'.2 with⟨rfl,h0⟩|⟨g',cap',cur,rfl,r⟩;{exact absurd (hnn.1 rfl).1 (fun e=>by cases e)};refine h g' cap' (k+1) W' rfl ⟨bS++[.iface T u],by simp[h1],hown',fun j hj=>?_⟩ hgrow;by_cases hjk:j<k;{obtain⟨la',Bq,wD,e,hi'⟩:=h3 j hjk;refine⟨la',Bq,wD,?_,?_⟩;{rw[ag,List.getElem?_append_left (by omega),←ag,e,ag,ag,List.getElem?_append_left (by omega)]};rw[ag,List.getElem?_append_left (by omega),←ag];exact hi'};have e:j=k:=by{omega};subst e;have e1:(bS++[Value.iface T u]).getD j undef= .iface T u:=by{rw[ag,List.getElem?_append_right (by omega),h1];simp};have e2:(xs++[y]).getD j .z=y:=by{rw[ag,List.getElem?_append_right (by omega),hxl];simp};rw[e1,e2];exact⟨la,ln,lc,hv.symm,hil⟩
namespace Ln
theorem pM {ls:List Ln}{i:Nat}(hi:i<ls.length):ls.take i++[ls.getD i z]=ls.take (i+1):=by rw[List.take_add_one,ah hi,ag,ah hi];simp
theorem nM {x:Ln}{m:Nat}(h:ok x=true):bO m x=place m x:=by unfold bO;rw[h,Bool.true_and];have hk:=aY h;obtain⟨k,d,a,b,n,l⟩:=x;rcases kinds hk.1 hk.2 with e|e|e|e|e|e|e|e|e|e|e<;>simp only at e<;>subst e;(case inr.inr.inr.inr.inl=>have h0:0<=n:=by{unfold ok at h;simp[asks,Wd.aT]at h;omega};rw[Bool.eq_iff_iff];simp[place,bW,Wd.aT];omega);(case inr.inr.inr.inr.inr.inl=>have h0:0<=n:=by{unfold ok at h;simp[asks,Wd.aT]at h;omega};rw[Bool.eq_iff_iff];simp[place,bW,Wd.aT];omega);all_goals simp[place,bW]
theorem lV (ls:List Ln):dE ls= !behind (ls.getD (ls.length-1) z):=by unfold dE behind;generalize(ls.getD (ls.length-1) z).k=k;by_cases h5:k=5<;>by_cases h10:k=10<;>by_cases h11:k=11<;>simp[h5,h10,h11]
theorem tH {ls:List Ln}(h:1<=ls.length/\ls.length<=300):isOk ls=(ls.all (bO ls.length)&&dE ls):=by unfold isOk;rw[decide_eq_true h,Bool.true_and]
end Ln
theorem dx (a:Option Addr)(len cap:Nat)(ls:List Ln)(w:World)(hs:LL w a len ls):Calls Try.prog 32 #[.slice a len cap] w fun e w'=>(Ln.isOk ls=false/\e= .returned (.tuple #[.slice none 0 0, .bool false])\/Ln.isOk ls=true/\∃g c,e= .returned (.tuple #[.slice (some ⟨g,0,none⟩) len c, .bool true])/\SR w w' w.heap.size g len c ls)/\Below w.heap.size w w':=by
 have hl:=hs.1
 have hm:=hs.2.1
 unfold maxLen at hm
 have hcon:=aL (len:Int) 1 300 w
 by_cases hin:1<=len/\len<=300
 rotate_left
 · have e:Wd.aT (len:Int) 1 300=false:=by{unfold Wd.aT;simp;omega};have HN:Hid (Ln.isOk ls=false):=Ln.ko (by omega);rw[e]at hcon;clear e hs hl hin;go_enter Try.func32,Try.ntmps32;go_wp2_with(go_at_call 33;refine hcon.mono ?_;rintro e w' ⟨rfl,aD⟩;subst w';dsimp only);go_ret2;exact⟨.inl ⟨HN.out,rfl⟩,Below.refl _ _⟩
 have e:Wd.aT (len:Int) 1 300=true:=by unfold Wd.aT;simp;omega
 rw[e]at hcon
 clear e
 have vJ:(1:Int)<=(len:Int):=by omega
 have Bb:(len:Int)<=300:=by omega
 obtain⟨i0,hi,hz0,hz1,hz2⟩:=info_parts iJ
 obtain⟨wm,hmk,hown,hgrow⟩:=run_make_own (P:=Try.prog) w w.heap.size 51 48 i0 _ 1 Try.underlying51 hi hz0 hz1 .i64 .i64 len (by rw[hz2];omega) (by simp only[maxLen];omega) (Nat.le_refl _)
 have HB0:=ae (iH hgrow)
 have sP:Hid (SR w wm w.heap.size w.heap.size 0 len (ls.take 0)):=⟨[],rfl,hown,fun j hj=>by omega⟩
 have HL:=ae hl
 obtain⟨R,hR⟩:∃R,Ln.isOk ls=R:=⟨_,rfl⟩
 have HR:Hid (R=(ls.all (Ln.bO len)&&Ln.dE ls)):=by show _=_;rw[←hR,Ln.tH (by omega),hl]
 rw[hR]
 obtain⟨-,-,h0|⟨b,off,rfl,hb,hx⟩⟩:=hs
 · omega
 have HX:Hid (∀j,j<len->LC w b (off+j*6) (ls.getD j .z)):=hx
 clear hx hR hown hgrow hl hin
 go_enter Try.func32,Try.ntmps32
 go_wp2_with(go_at_call 33;refine hcon.mono ?_;rintro e w' ⟨rfl,aD⟩;subst w';dsimp only)
 go_loopw [5,18] (fun vs vi wr=>∃k g c:Nat,vs= .slice (some ⟨g,0,none⟩) k c/\vi= .int .i64 k/\k<=len/\Hid ((ls.take k).all (Ln.bO len)=true)/\SR w wr w.heap.size g k c (ls.take k)/\Below w.heap.size w wr) (fun _ i _=>len-(intOf i).toNat)
 case atStart=>exact⟨0,_,len,rfl,rfl,Nat.zero_le _,(by show _=_;simp),sP.out,HB0.out⟩
 case round=>
  obtain⟨k,g,c,rfl,rfl,hk,HA,fJ,hB⟩:=hrel
  clear hcon hmk sP HB0
  by_cases hlt:k<len
  · have dY:(k:Int)<(len:Int):=by omega
    have hb':b<wr.heap.size:=ai hb hB.size
    have yN:=HX.out k hlt
    have hc:=yN.kept hb hB
    have fJ:=ae fJ
    obtain⟨x,lI⟩:∃x,ls.getD k .z=x:=⟨_,rfl⟩
    rw[lI]at hc yN
    have yO:=ae lI
    clear lI
    obtain⟨c0,c1,c2,c3,c4,la,ln,lc,c5,hil⟩:=hc
    have CB:Hid (IL w la ln x.l):=by obtain⟨-,-,-,-,-,la',Bq,wD,CE,zR⟩:=yN;have e:=(hB.cell (p:=⟨b,off+k*6+5,none⟩) hb).trans CE;rw[c5]at e;cases e;exact zR
    have hB1:=ax wr (.cells #[.int .i64 x.k, .int .i64 x.d, .int .i64 x.a, .int .i64 x.b, .int .i64 x.n, .slice la ln lc] 27)
    have hcon:=dh x la ln lc _ (hil.kept hB1)
    have hB2:=hB.trans (hB1.mono hB.size)
    clear hil yN
    rcases hok:Ln.ok x with _|_
    · rw[qU hok]at hcon;have HF:Hid (R=false):=by{show _=_;rw[HR.out,Ln.eY (by rw[HL.out];exact hlt) (by rw[yO.out];simp[Ln.bO,hok])];rfl};go_wp2_with fail;refine hcon.mono ?_;rintro e w2 ⟨rfl,hB3⟩;dsimp only;have hB4:=hB2.trans (hB3.mono hB2.size);clear hcon c0 c1 c2 c3 c4 c5 hB1 hB2 hB3;go_wp2;go_ret2;exact⟨.inl ⟨HF.out,rfl⟩,hB4⟩
    · have hkk:=Ln.aY hok
      have hpl:=fI x hkk.1 hkk.2 la ln lc (len:Int) (by omega) (by omega)
      obtain⟨T,u,zS⟩:=p8 hok la ln lc
      have esh:aH x (.slice la ln lc)= .iface T u:=by rw[←nC hok,zS]
      have CF:=ae esh
      rw[zS]at hcon
      simp only[esh]at hpl
      have hnil:=qL T u
      have HO:=ae (Ln.nM (m:=len) hok)
      obtain⟨PL,zT⟩:∃PL,Ln.place len x=PL:=⟨_,rfl⟩
      simp only[zT]at hpl
      rw[zT]at HO
      clear hok zS esh zT hkk
      cases PL with
      |false=>
       have HF:Hid (R=false):=by show _=_;rw[HR.out,Ln.eY (by rw[HL.out];exact hlt) (by rw[yO.out];exact HO.out)];rfl
       go_wp2_with fail
       refine hcon.mono ?_
       rintro e w2 ⟨rfl,hB3⟩
       dsimp only
       have hB4:=hB2.trans (hB3.mono hB2.size)
       have aU:=hpl w2
       clear hcon c0 c1 c2 c3 c4 c5 hB1 hB2 hB3 hpl
       go_wp2_with(go_at_call 48;refine aU.mono ?_;rintro e w3 ⟨rfl,bK⟩;dsimp only;have iY:=hB4.trans (bK.mono hB4.size);clear hB4 bK)
       go_ret2
       exact⟨.inl ⟨HF.out,rfl⟩,iY⟩
      |true=>
       have HF:Hid ((ls.take (k+1)).all (Ln.bO len)=true):=by show _=_;rw[Ln.ic HA.out (by rw[HL.out];exact hlt),yO.out];exact HO.out
       go_wp2_with fail
       refine hcon.mono ?_
       rintro e w2 ⟨rfl,hB3⟩
       dsimp only
       have hB4:=hB2.trans (hB3.mono hB2.size)
       have vQ:=hB1.trans (hB3.mono hB1.size)
       have aU:=hpl w2
       clear hcon c0 c1 c2 c3 c4 c5 hB1 hB2 hB3 hpl
       have vR:Hid ((ls.take k).length=k):=by show _=_;rw[List.length_take,HL.out];omega
       have Br:=ae (Ln.pM (ls:=ls) (i:=k) (by rw[HL.out];exact hlt))
       rw[yO.out]at Br
       have hg0:=fJ.out.lt
       go_wp2_with(first
         |(go_at_call 48;refine aU.mono ?_;rintro e w3 ⟨rfl,bK⟩;dsimp only;have iY:=hB4.trans (bK.mono hB4.size);have x8:=vQ.trans (bK.mono vQ.size);have Bt:=ae (ax w3 (.cells #[.iface T u] 48));have zL:=ae (iY.trans (Bt.out.mono iY.size));have CG:=ae ((fJ.out.kept x8).kept Bt.out);have hc3:Hid ((w3.alloc (.cells #[.iface T u] 48)).cell? ⟨w3.heap.size,0,none⟩=some (.iface T u)):=(by show _=_;rw[World.cell?_alloc_at _ _ _ _ (by simp)];rfl);have xV:=iY.size;clear hB4 bK vQ x8)
         |(at_builtin;refine pW _ w rfl _ _ rfl w.heap.size g k c (ls.take k) rfl CG.out vR.out w3.heap.size rfl x la ln lc T u CF.out hc3.out CB.out (by omega) (by simp;omega) ?_;intro g1 c1 N1 w4 hN1 ho1 bP;have zU:=ae (aj ho1 (aB zL.out bP hg0.1));clear ho1 bP))
       rw[Br.out]at zU
       have hN:=hN1.out
       clear hN1
       subst hN
       go_roundw
       case rel=>exact⟨k+1,g1,c1,rfl,by simp,hlt,HF,zU.out.1,zU.out.2⟩
       case measure=>simp[intOf];omega
  · have hke:k=len:=by{omega};have uF:Hid (R= !Ln.behind (ls.getD (len-1) .z)):=by{show _=_;have:=HA.out;rw[hke,←HL.out,List.take_length]at this;rw[HR.out,←HL.out,this,Bool.true_and,Ln.lV]};have dY:¬(k:Int)<(len:Int):=by{omega};have uj:Hid (Ln.ok (ls.getD (len-1) .z)=true):=by{show _=_;have h2:=HA.out;rw[hke,←HL.out,List.take_length,List.all_eq_true]at h2;have h3:=h2 (ls.getD (len-1) .z) (by rw[ag,ah (by rw[HL.out];omega)];exact List.getElem_mem _);unfold Ln.bO at h3;rw[ak]at h3;exact h3.1};rw[hke]at fJ;have rR:=fJ.cut (Nat.le_refl _);obtain⟨la,ln,lc,hc,hil⟩:=rR.cell (j:=len-1) (by omega);have CJ:=ae rR;obtain⟨x,lI⟩:∃x,ls.getD (len-1) .z=x:=⟨_,rfl⟩;rw[lI]at hc hil uF uj;have hkk:=Ln.aY uj.out;have hcon:=bu x hkk.1 hkk.2 la ln lc wr;have hg:=rR.lt;subst hke;have DC:(k:Int)-1=((k-1:Nat):Int):=by{omega};generalize aH x (.slice la ln lc)=sv at hc hcon;rcases rT:Ln.behind x with _|_;{rw[rT]at hcon uF;clear rT hkk hil lI fJ rR HA uj;go_wp2_with(go_at_call 38;refine hcon.mono ?_;rintro e w5 ⟨rfl,bK⟩;dsimp only);go_ret2;exact⟨.inr ⟨uF.out,g,c,rfl,CJ.out.kept bK⟩,hB.trans (bK.mono hB.size)⟩};rw[rT]at hcon uF;clear rT hkk hil lI fJ rR HA uj;go_wp2_with(go_at_call 38;refine hcon.mono ?_;rintro e w5 ⟨rfl,bK⟩;dsimp only);go_ret2;exact⟨.inl ⟨uF.out,rfl⟩,hB.trans (bK.mono hB.size)⟩
namespace Fl
def gu (n:Nat)(x:Ln)(i:Nat)(o:List Int):List Int:=
 (o++(if Ln.bW x=true then[x.n]else[]))++(if i+1<n/\(Ln.bW x=true\/Ln.behind x=false)then[(i:Int)+1]else[])
def dA (ls:List Ln):Nat->List Int
 |0=>[0]
 |k+1=>gu ls.length (ls.getD k .z) k (dA ls k)
theorem lX (l r:List Int):Ln.aS (l++r)=r.foldl Ln.put (Ln.aS l):=by simp[Ln.aS]
theorem pV (n:Nat)(x:Ln)(i:Nat)(o:List Int):Ln.aS (gu n x i o)=lead n x i (Ln.aS o):=by obtain⟨k,d,a,b,m,l⟩:=x;unfold gu lead;rw[lX,lX];by_cases h5:k=5\/k=6;{have e1:Ln.bW ⟨k,d,a,b,m,l⟩=true:=decide_eq_true h5;rw[e1,av rfl,av h5];by_cases h:i+1<n;{rw[av ⟨h, .inl rfl⟩,av h];rfl};rw[au (fun h2=>h h2.1),au h];rfl};have e1:Ln.bW ⟨k,d,a,b,m,l⟩=false:=decide_eq_false h5;rw[e1,au (by decide),au h5];by_cases h10:k=10\/k=11;{have e2:Ln.behind ⟨k,d,a,b,m,l⟩=false:=by{unfold Ln.behind;rw[decide_eq_true (by simp only;omega)];rfl};rw[e2,av h10];by_cases h:i+1<n;{rw[av ⟨h, .inr rfl⟩,av h];rfl};rw[au (fun h2=>h h2.1),au h];rfl};have e2:Ln.behind ⟨k,d,a,b,m,l⟩=true:=by{unfold Ln.behind;rw[decide_eq_false (by simp only;omega)];rfl};rw[e2,au h10,au (fun h2=>by rcases h2.2 with h3|h3<;>cases h3)];rfl
theorem jB (ls:List Ln):∀k,Ln.aS (dA ls k)=aR ls k
 |0=>rfl
 | k+1=>by
   show Ln.aS (gu _ _ _ _)=lead _ _ _ _
   rw[pV,jB ls k]
theorem l8 (ls:List Ln):∀k,(dA ls k).length<=2*k+1
 |0=>by simp[dA]
 | k+1=>by
   have ih:=l8 ls k
   show(gu _ _ _ _).length<=_
   unfold gu
   simp only[List.length_append]
   repeat' split
   all_goals simp<;>omega
end Fl
theorem nY (a:Option Addr)(len cap:Nat)(ls:List Ln)(p:Int)(w:World)(hs:LL w a len ls):Calls Try.prog 18 #[.slice a len cap, .int .i64 p] w fun e w'=>∃g m c,e= .returned (.slice (some ⟨g,0,none⟩) m c)/\OG w' w.heap.size g m c (Fl.bT ls p)/\Below w.heap.size w w':=by
 have hcon:=dx a len cap ls w hs
 have HL:=ae hs.1
 have no:∀(h:Fl.has ls p=false),Fl.bT ls p=[]:=fun h=>by unfold Fl.bT;rw[au (by rw[h];decide)]
 have NO:=ae no
 have HD:Hid (Fl.has ls p=(Ln.isOk ls&&decide (0<=p/\p<(ls.length:Int)))):=rfl
 have yP:∀n:Nat,Wd.aT p 0 ((n:Int)-1)=decide (0<=p/\p<(n:Int)):=fun n=>by unfold Wd.aT;rw[Bool.eq_iff_iff];simp;omega
 clear hs no
 go_enter Try.func18,Try.ntmps18
 go_wp2_with fail
 refine hcon.mono ?_
 rintro e w2 ⟨⟨hR,rfl⟩|⟨hR,g1,c1,rfl,fJ⟩,hB2⟩
 · dsimp only;have hno:Hid (Fl.bT ls p=[]):=NO.out (by rw[HD.out,hR];rfl);have hh:=aL p 0 (-1) w2;have e0:Wd.aT p 0 (-1)=false:=by{unfold Wd.aT;simp;omega};rw[e0]at hh;have ho:=OG.empty w2 w.heap.size hB2.size;have hBx:=hB2.trans ((ax w2 (.cells #[] 2)).mono hB2.size);have HF:=ae (aj ho hBx);clear hcon hR e0 ho hBx hB2 yP;go_wp2_with(go_at_call 33;refine hh.mono ?_;rintro e w4 ⟨rfl,hw4⟩;subst w4;dsimp only);go_ret;exact⟨_,0,0,rfl,by rw[hno.out];exact HF.out.1,HF.out.2⟩
 · dsimp only
   have hlen:=Ln.cK hR
   have hh:=aL p 0 ((len:Int)-1) w2
   rw[yP len]at hh
   have zO:(len:Int)<=300:=by have:=HL.out;omega
   by_cases hp:0<=p/\p<(len:Int)
   · rw[decide_eq_true hp]at hh
     obtain⟨q,rfl⟩:=Int.eq_ofNat_of_zero_le hp.1
     have DD:(q:Int)<(len:Int):=hp.2
     have hq:q<len:=by omega
     have HV:Hid (Fl.bT ls (q:Int)=Fl.nx (ls.getD q .z) q):=by show _=_;unfold Fl.bT;rw[av (by rw[HD.out,hR,HL.out,decide_eq_true hp];rfl),Int.toNat_natCast]
     obtain⟨la,ln,lc,hc,hil⟩:=fJ.cell hq
     have hk:=Ln.aY (Ln.fB hR (i:=q) (by rw[HL.out];exact hq))
     have hnx:=kv (ls.getD q .z) hk.1 hk.2 la ln lc q (by omega) w2
     generalize aH (ls.getD q .z) (.slice la ln lc)=sv at hc hnx
     have HB:=ae hB2
     clear hcon hR hB2 fJ hp hlen hil hk yP
     go_wp2_with(first
       |(go_at_call 33;refine hh.mono ?_;rintro e w4 ⟨rfl,hw4⟩;subst w4;dsimp only)
       |(go_at_call 34;refine hnx.mono ?_;rintro e w5 ⟨g5,m5,c5,rfl,eH,bK⟩;dsimp only;have HF:=ae (aj (eH.mono HB.out.size) (HB.out.trans (bK.mono HB.out.size)));clear eH bK))
     go_ret
     exact⟨g5,m5,c5,rfl,by rw[HV.out];exact HF.out.1,HF.out.2⟩
   · rw[decide_eq_false hp]at hh;have hno:Hid (Fl.bT ls p=[]):=NO.out (by rw[HD.out,HL.out,decide_eq_false hp,Bool.and_false]);have ho:=OG.empty w2 w.heap.size hB2.size;have hBx:=hB2.trans ((ax w2 (.cells #[] 2)).mono hB2.size);have HF:=ae (aj ho hBx);clear hcon hR ho hBx hB2 fJ hp hlen yP;go_wp2_with(go_at_call 33;refine hh.mono ?_;rintro e w4 ⟨rfl,hw4⟩;subst w4;dsimp only);go_ret;exact⟨_,0,0,rfl,by rw[hno.out];exact HF.out.1,HF.out.2⟩
theorem SR.tN {w W W':World}{n₀ g k c b:Nat}{xs:List Ln}(h:SR w W n₀ g k c xs)(hg:W.grownBy W' (some b))(hne:g≠b):SR w W' n₀ g k c xs:=by obtain⟨bS,h1,h2,h3⟩:=h;refine⟨bS,h1,h2.kept hg (.inr ?_),h3⟩;simp only[Value.ownBlock,ne_eq,af];omega
theorem SR.apart {w W:World}{n₀ g k c n₁ g' m c':Nat}{xs:List Ln}{ys:List Int}(h:SR w W n₀ g k c xs)(h':OG W n₁ g' m c' ys):g≠g':=by obtain⟨bS,h1,h2,h3⟩:=h;intro e;subst e;rcases h2.2 with⟨e,-⟩|⟨g2,cap2,CK,e,-,hb,-⟩;{cases e};rcases h'.2.2 with⟨e',-⟩|⟨g3,CL,CP,e',-,hb',-⟩;{cases e'};cases e;cases e';rw[hb]at hb';injection hb' with hb';injection hb' with _ ht;exact absurd ht (by decide)
theorem kN (a:Option Addr) (len cap:Nat) (ls:List Ln) (w:World) (hs:LL w a len ls):Calls Try.prog 22 #[.slice a len cap] w fun e w'=>∃g m c,e= .returned (.slice (some ⟨g,0,none⟩) m c)/\OG w' w.heap.size g m c (Fl.aX ls)/\Below w.heap.size w w':=by
 have hcon:=dx a len cap ls w hs
 have HL:=ae hs.1
 clear hs
 go_enter Try.func22,Try.ntmps22
 go_wp2_with fail
 refine hcon.mono ?_
 rintro e w2 ⟨⟨hR,rfl⟩|⟨hR,g1,c1,rfl,fJ⟩,hB2⟩
 · dsimp only;have hno:Hid (Fl.aX ls=[]):=by{show _=_;unfold Fl.aX;rw[au (by rw[hR];decide)]};have ho:=OG.empty w2 w.heap.size hB2.size;have hBx:=hB2.trans ((ax w2 (.cells #[] 2)).mono hB2.size);have HF:=ae (aj ho hBx);clear hcon hR ho hBx hB2;go_wp2;go_ret;exact⟨_,0,0,rfl,by rw[hno.out];exact HF.out.1,HF.out.2⟩
 dsimp only
 have hlen:=Ln.cK hR
 rw[HL.out]at hlen
 have zO:(len:Int)<=300:=by omega
 have hl1:(1:Int)<=(len:Int):=by omega
 have CR:=ae hR
 have HV:Hid (Fl.aX ls=Ln.aS (Fl.dA ls len)):=by show _=_;rw[Fl.jB];unfold Fl.aX;rw[av hR,HL.out]
 have hal:=ax w2 (.cells #[.int .i64 0] 2)
 have HX0:=ae (aj (OG.one w2 w.heap.size hB2.size 0) (aj (fJ.kept hal) (hB2.trans (hal.mono hB2.size))))
 obtain⟨W3,hW3⟩:∃W3,w2.alloc (.cells #[.int .i64 0] 2)=W3:=⟨_,rfl⟩
 rw[hW3]at HX0
 clear hcon hR hlen fJ hB2 hal
 go_wp2
 go_loopg [5,22] len (fun gk vo vi wr=>∃k g m c:Nat,gk=len-k/\k<=len/\vo= .slice (some ⟨g,0,none⟩) m c/\vi= .int .i64 (k:Int)/\OG wr w.heap.size g m c (Fl.dA ls k)/\SR w wr w.heap.size g1 len c1 ls/\Below w.heap.size w wr)
 case atStart=>exact⟨0,_,1,1,rfl,by omega,rfl,rfl,HX0.out.1,HX0.out.2.1,HX0.out.2.2⟩
 case round =>
  obtain⟨k,g,m,c,DF,hk,rfl,rfl,hog,fJ,hBw⟩:=hrel
  have hm:m<=601:=by have:=Fl.l8 ls k;rw[hog.1]at this;omega
  have hwz:=hBw.size
  by_cases hlt:k<len
  · have dY:(k:Int)<(len:Int):=by omega
    obtain⟨la,ln,lc,hc,hil⟩:=fJ.cell hlt
    have hkk:=Ln.aY (Ln.fB CR.out (i:=k) (by rw[HL.out];exact hlt))
    have hpt:=bU (ls.getD k .z) hkk.1 hkk.2 la ln lc wr
    have hcb:=fun W=>bu (ls.getD k .z) hkk.1 hkk.2 la ln lc W
    have rU:Hid (Fl.dA ls (k+1)=Fl.gu len (ls.getD k .z) k (Fl.dA ls k)):=by show Fl.gu ls.length _ _ _=_;rw[HL.out]
    have HX:=ae (aj hog (aj fJ hBw))
    generalize aH (ls.getD k .z) (.slice la ln lc)=sv at hc hpt hcb
    generalize ls.getD k .z=x at hpt hcb rU
    clear hog fJ hBw hil hkk
    obtain⟨n,wF⟩:∃n,x.n=n:=⟨_,rfl⟩
    rw[wF]at hpt
    rcases hgo:Ln.bW x with _|_
    · rw[hgo]at hpt
      by_cases hn1:k+1<len
      · have vS:(k:Int)+1<(len:Int):=by omega
        rcases rT:Ln.behind x with _|_
        · rw[rT]at hcb
          have HN:Hid (Fl.dA ls (k+1)=Fl.dA ls k++[(k:Int)+1]):=by show _=_;rw[rU.out];unfold Fl.gu;rw[wF,hgo,rT];rw[au (by decide),av ⟨hn1, .inr rfl⟩,List.append_nil]
          clear rU hgo rT
          go_wp2_with fail
          refine hpt.mono ?_
          rintro e w4 ⟨rfl,hB4⟩
          dsimp only
          have fP:=ae (aj (HX.out.1.kept hB4) (aj (HX.out.2.1.kept hB4) (HX.out.2.2.trans (hB4.mono HX.out.2.2.size))))
          have yQ:=fP.out.2.2.size
          clear hpt HX hB4
          have vT:=hcb w4
          go_wp2_with(first
            |(go_at_call 38;refine vT.mono ?_;rintro e w5 ⟨rfl,bK⟩;dsimp only;have jv:=ae (aj (fP.out.1.kept bK) (aj (fP.out.2.1.kept bK) (fP.out.2.2.trans (bK.mono fP.out.2.2.size))));have zV:=jv.out.2.2.size;clear bK;have lm:=ax w5 (.cells #[.int .i64 ((k:Int)+1)] 2);have qp:=ae (aj (jv.out.1.kept lm) (aj (jv.out.2.1.kept lm) (jv.out.2.2.trans (lm.mono jv.out.2.2.size))));have zW:=bH w5 ((k:Int)+1);clear lm)
            |(at_builtin;refine aP _ rfl _ _ rfl w.heap.size _ _ _ _ rfl qp.out.1 w5.heap.size 0 1 1 [(k:Int)+1] rfl rfl zW.out (by omega) (by simp;omega) ?_;intro g6 c6 N6 x6 x9 gZ bX;have vU:=ae (aj gZ (aj (qp.out.2.1.tN bX (qp.out.2.1.apart qp.out.1)) (aB qp.out.2.2 bX qp.out.1.lt.1)));have vV:=x9.out;clear gZ bX x9;subst vV))
          go_roundg (len-(k+1))
          case measure=>omega
          case rel=>exact⟨k+1,g6,_,c6,rfl,hlt,rfl,by simp,by rw[HN.out];exact vU.out.1,vU.out.2.1,vU.out.2.2⟩
        · rw[rT]at hcb;have HN:Hid (Fl.dA ls (k+1)=Fl.dA ls k):=by{show _=_;rw[rU.out];unfold Fl.gu;rw[wF,hgo,rT];rw[au (by decide),au (fun h2=>by rcases h2.2 with h3|h3<;>cases h3),List.append_nil,List.append_nil]};clear rU hgo rT;go_wp2_with fail;refine hpt.mono ?_;rintro e w4 ⟨rfl,hB4⟩;dsimp only;have fP:=ae (aj (HX.out.1.kept hB4) (aj (HX.out.2.1.kept hB4) (HX.out.2.2.trans (hB4.mono HX.out.2.2.size))));have yQ:=fP.out.2.2.size;clear hpt HX hB4;have vT:=hcb w4;go_wp2_with(go_at_call 38;refine vT.mono ?_;rintro e w5 ⟨rfl,bK⟩;dsimp only;have jv:=ae (aj (fP.out.1.kept bK) (aj (fP.out.2.1.kept bK) (fP.out.2.2.trans (bK.mono fP.out.2.2.size))));have zV:=jv.out.2.2.size;clear bK);go_roundg (len-(k+1));(case measure=>omega);case rel=>exact⟨k+1,g,m,c,rfl,hlt,rfl,by simp,by rw[HN.out];exact jv.out.1,jv.out.2.1,jv.out.2.2⟩
      · have vS:¬((k:Int)+1<(len:Int)):=by{omega};have HN:Hid (Fl.dA ls (k+1)=Fl.dA ls k):=by{show _=_;rw[rU.out];unfold Fl.gu;rw[wF,hgo];rw[au (by decide),au (fun h2=>hn1 h2.1),List.append_nil,List.append_nil]};clear rU hgo;go_wp2_with fail;refine hpt.mono ?_;rintro e w4 ⟨rfl,hB4⟩;dsimp only;have fP:=ae (aj (HX.out.1.kept hB4) (aj (HX.out.2.1.kept hB4) (HX.out.2.2.trans (hB4.mono HX.out.2.2.size))));have yQ:=fP.out.2.2.size;clear hpt HX hB4;go_wp2;go_roundg (len-(k+1));(case measure=>omega);case rel=>exact⟨k+1,g,m,c,rfl,hlt,rfl,by simp,by rw[HN.out];exact fP.out.1,fP.out.2.1,fP.out.2.2⟩
    · rw[hgo]at hpt
      by_cases hn1:k+1<len
      · have vS:(k:Int)+1<(len:Int):=by omega
        have HN:Hid (Fl.dA ls (k+1)=Fl.dA ls k++[n]++[(k:Int)+1]):=by show _=_;rw[rU.out];unfold Fl.gu;rw[wF,hgo];rw[av rfl,av ⟨hn1, .inl rfl⟩]
        clear rU hgo
        go_wp2_with fail
        refine hpt.mono ?_
        rintro e w4 ⟨rfl,hB4⟩
        dsimp only
        have fP:=ae (aj (HX.out.1.kept hB4) (aj (HX.out.2.1.kept hB4) (HX.out.2.2.trans (hB4.mono HX.out.2.2.size))))
        have yQ:=fP.out.2.2.size
        clear hpt HX hB4
        have lq:=ax w4 (.cells #[.int .i64 (n)] 2)
        have qw:=ae (aj (fP.out.1.kept lq) (aj (fP.out.2.1.kept lq) (fP.out.2.2.trans (lq.mono fP.out.2.2.size))))
        have zX:=bH w4 (n)
        clear lq
        go_wp2_with(first
          |(at_builtin;refine aP _ rfl _ _ rfl w.heap.size _ _ _ _ rfl qp.out.1 x5.heap.size 0 1 1 [(k:Int)+1] rfl rfl zW.out (by omega) (by simp;omega) ?_;intro g6 c6 N6 x6 x9 gZ bX;have vU:=ae (aj gZ (aj (qp.out.2.1.tN bX (qp.out.2.1.apart qp.out.1)) (aB qp.out.2.2 bX qp.out.1.lt.1)));have vV:=x9.out;clear gZ bX x9;subst vV)
          |(at_builtin;refine aP _ rfl _ _ rfl w.heap.size _ _ _ _ rfl qw.out.1 w4.heap.size 0 1 1 [n] rfl rfl zX.out (by omega) (by simp;omega) ?_;intro g5 c5 N5 x5 rP eH hgr5;have jv:=ae (aj eH (aj (qw.out.2.1.tN hgr5 (qw.out.2.1.apart qw.out.1)) (aB qw.out.2.2 hgr5 qw.out.1.lt.1)));have zV:=jv.out.2.2.size;have vW:=rP.out;clear eH hgr5 rP;subst vW;have lm:=ax x5 (.cells #[.int .i64 ((k:Int)+1)] 2);have qp:=ae (aj (jv.out.1.kept lm) (aj (jv.out.2.1.kept lm) (jv.out.2.2.trans (lm.mono jv.out.2.2.size))));have zW:=bH x5 ((k:Int)+1);clear lm))
        go_roundg (len-(k+1))
        case measure=>omega
        case rel=>exact⟨k+1,g6,_,c6,rfl,hlt,rfl,by simp,by rw[HN.out];exact vU.out.1,vU.out.2.1,vU.out.2.2⟩
      · have vS:¬((k:Int)+1<(len:Int)):=by{omega};have HN:Hid (Fl.dA ls (k+1)=Fl.dA ls k++[n]):=by{show _=_;rw[rU.out];unfold Fl.gu;rw[wF,hgo];rw[av rfl,au (fun h2=>hn1 h2.1),List.append_nil]};clear rU hgo;go_wp2_with fail;refine hpt.mono ?_;rintro e w4 ⟨rfl,hB4⟩;dsimp only;have fP:=ae (aj (HX.out.1.kept hB4) (aj (HX.out.2.1.kept hB4) (HX.out.2.2.trans (hB4.mono HX.out.2.2.size))));have yQ:=fP.out.2.2.size;clear hpt HX hB4;have lq:=ax w4 (.cells #[.int .i64 (n)] 2);have qw:=ae (aj (fP.out.1.kept lq) (aj (fP.out.2.1.kept lq) (fP.out.2.2.trans (lq.mono fP.out.2.2.size))));have zX:=bH w4 (n);clear lq;go_wp2_with(at_builtin;refine aP _ rfl _ _ rfl w.heap.size _ _ _ _ rfl qw.out.1 w4.heap.size 0 1 1 [n] rfl rfl zX.out (by omega) (by simp;omega) ?_;intro g5 c5 N5 x5 rP eH hgr5;have jv:=ae (aj eH (aj (qw.out.2.1.tN hgr5 (qw.out.2.1.apart qw.out.1)) (aB qw.out.2.2 hgr5 qw.out.1.lt.1)));have zV:=jv.out.2.2.size;have vW:=rP.out;clear eH hgr5 rP;subst vW);go_roundg (len-(k+1));(case measure=>omega);case rel=>exact⟨k+1,g5,_,c5,rfl,hlt,rfl,by simp,by rw[HN.out];exact jv.out.1,jv.out.2.1,jv.out.2.2⟩
  · have hke:k=len:=by{omega};subst hke;have dY:¬(k:Int)<(k:Int):=by{omega};have CS:=bf w.heap.size g m c (Fl.dA ls k) wr hog hwz (by omega);have HX:=ae hBw;have hgl:=hog.lt.1;clear hog fJ hBw;go_wp2_with(go_at_call 27;refine CS.mono ?_;rintro e w6 ⟨m6,rfl,gZ,bX⟩;dsimp only;have HF:=ae (aj gZ (aB HX.out bX hgl));clear gZ bX);go_ret;exact⟨g,m6,c,rfl,by rw[HV.out];exact HF.out.1,HF.out.2⟩
structure Fn where
 a:Int
 l:Int
 g:Int
 b:List (Int×Int)
namespace Fn
def z:Fn:=⟨0,0,0,[]⟩
end Fn
namespace Md
def wz (f:Fn):Bool:=Wd.aT f.a 0 3&&(Wd.aT f.l 0 3&&(Wd.aT f.g 0 1&&(decide (f.b.length<=80)&&St.bZ f.b)))
def bZ (fs:List Fn):Bool:=fs.all wz
def ok (fs:List Fn)(d:ByteArray):Bool:=(Wd.aT fs.length 1 4&&decide (d.size<=64))&&bZ fs
def sum:List Fn->Nat
 |[]=>0
 |f::fs=>f.b.length+sum fs
theorem bC {fs:List Fn}(h:bZ fs=true){j:Nat}(hj:j<fs.length):wz (fs.getD j .z)=true:=by rw[ag,ah hj];simp only[bZ,List.all_eq_true]at h;exact h _ (List.getElem_mem hj)
theorem nu {fs:List Fn}(h:bZ fs=true):sum fs<=80*fs.length:=by
 induction fs with
 |nil=>simp[sum]
 |cons x xs ih=>
  simp only[bZ,List.all_cons,ak]at h
  have:=ih h.2
  have h1:=h.1
  simp only[wz,ak,decide_eq_true_eq]at h1
  simp only[sum,List.length_cons]
  omega
end Md
def FL (w:World)(a:Option Addr)(len:Nat)(fs:List Fn):Prop:=
 fs.length=len/\len<=maxLen/\(len=0\/∃b off,a=some ⟨b,off,none⟩/\b<w.heap.size/\
   ∀ j,j<len->w.cell? ⟨b,off+j*4,none⟩=some (.int .i64 (fs.getD j .z).a)/\w.cell? ⟨b,off+j*4+1,none⟩=some (.int .i64 (fs.getD j .z).l)/\w.cell? ⟨b,off+j*4+2,none⟩=some (.int .i64 (fs.getD j .z).g)/\
     ∃ba bl bc,w.cell? ⟨b,off+j*4+3,none⟩=some (.slice ba bl bc)/\SL w ba bl (fs.getD j .z).b)
theorem FL.kept {w w':World}{a:Option Addr}{len:Nat}{fs:List Fn}(h:FL w a len fs)(hB:Below w.heap.size w w'):FL w' a len fs:=by obtain⟨h1,h2,h3|⟨b,off,rfl,hb,hx⟩⟩:=h;{exact⟨h1,h2, .inl h3⟩};refine⟨h1,h2, .inr ⟨b,off,rfl,ai hb hB.size,fun j hj=>?_⟩⟩;obtain⟨c0,c1,c2,ba,bl,bc,c3,hs⟩:=hx j hj;exact⟨(hB.cell (p:=⟨b,off+j*4,none⟩) hb).trans c0,(hB.cell (p:=⟨b,off+j*4+1,none⟩) hb).trans c1,(hB.cell (p:=⟨b,off+j*4+2,none⟩) hb).trans c2,ba,bl,bc,(hB.cell (p:=⟨b,off+j*4+3,none⟩) hb).trans c3,hs.kept hB⟩
theorem OG.o8 {W W':World}{n₀ g n c:Nat}{xs:List Int}(h:OG W n₀ g n c xs)(hb:W'.heap[g]?=W.heap[g]?):OG W' n₀ g n c xs:=by refine⟨h.1,h.2.1,?_⟩;rcases h.2.2 with h'|⟨g',cap',cur,h',h1,h2,r⟩;{exact .inl h'};cases h';exact .inr ⟨_,_,cur,rfl,h1,hb.trans h2,r⟩
end Go.Proofs.Ytghjooipkofodaa
