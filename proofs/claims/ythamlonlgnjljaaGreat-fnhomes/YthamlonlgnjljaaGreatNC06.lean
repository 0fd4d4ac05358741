/-
  Own texts for a law: Sp3 Hs2 Draw1 Draw2 Draw3 Bend1 Draw1r Draw1m Leb4 LebR QTail Phi
-/
import Derived.Test.YthamlonlgnjljaaGreatNC05
import Derived.Deep.AppendLies
import Derived.StillTail
namespace Go.Proofs.YthamlonlgnjljaaGreat
open Go.RowKit Go.Shelf
set_option linter.all false
set_option maxRecDepth 100000
set_option maxHeartbeats 16000000
def x9 (s:Sp.S):List Value:=[.int .i64 s.b, .int .i64 s.f, .int .i64 s.t, .bool s.c]
theorem Jv (m k:Nat):((m:Int) / 2 ^ k).tmod 2=if m.testBit k=true then 1 else 0:=by have e:(m:Int) / 2 ^ k=((m / 2 ^ k:Nat):Int):=by{simp};rw[e,Int.tmod_eq_emod_of_nonneg (Int.natCast_nonneg _),Nat.testBit_eq_decide_div_mod_eq];generalize m / 2 ^ k=q;by_cases h:q%2=1;{simp[h];omega};simp[h];omega
theorem lU (a:Option Addr)(len cap:Nat)(ls:List Ln)(hok:Ln.isOk ls=true)(w:World)(hs:LL w a len ls):Calls Tryz.prog 35 #[.slice a len cap] w fun e w'=>∃g n c,e= .returned (.slice (some ⟨g,0,none⟩) n c)/\SG w' w.heap.size g n c (Sp.out ls 40)/\Below w.heap.size w w':=by have hl:=hs.1;have hlen:=Ln.fD hok;rw[hl]at hlen;have hcon:=wU a len cap ls hok w hs;have J5:=ae hs;have gK:=ae hok;have HL:=ae hl;have J6:=ae (Fl.wP hok).lt;have AY:(len:Int)<=300:=by{omega};have hl1:(1:Int)<=(len:Int):=by{omega};clear hok hl hlen;go_enter Tryz.func35,Tryz.ntmps35;go_wp2_with fail;refine hcon.mono ?_;rintro e w1 ⟨gi,ci,rfl,hoi,hB1⟩;dsimp only;have hs1:=hs.kept hB1;have hgi:=hoi.lt;have hb2:=aA w1 (.cells #[] 45);have HS:=ae (hs1.kept hb2);have HI:=ae (hoi.kept hb2);have HO:=ae (SG.empty w1 w1.heap.size (Nat.le_refl _));have HB:=ae (hB1.trans (hb2.mono hB1.size));have aZ:=hB1.size;clear hcon hs hs1 hoi hB1 hb2;go_wp2;go_loopg [4,5] 40 (fun gk vo vb wr=>∃(k g n c:Nat),gk=40-k/\k<=40/\vo= .slice (some ⟨g,0,none⟩) n c/\vb= .int .i64 (k:Int)/\SG wr w1.heap.size g n c (Sp.out ls k)/\OG wr w.heap.size gi len ci (nz (Fl.live ls))/\LL wr a len ls/\Below w.heap.size w wr/\w1.heap.size<=wr.heap.size);(case atStart=>exact⟨0,_,0,0,rfl,by omega,rfl,rfl,HO.out,HI.out,HS.out,HB.out,by simp⟩);case round=>obtain⟨k,g,n,c,mJ,hk,rfl,rfl,hor,hoi,lJ,hBr,hwr⟩:=hrel;obtain⟨w0,rfl⟩:∃x,x=wr:=⟨_,rfl⟩;clear HO HI HS HB;by_cases hlt:k<40;{have bE:(k:Int)<40:=by{omega};have HR:=ae (ak hor (ak hoi (ak lJ (ak hBr hwr))));clear hor hoi lJ hBr;have hal:=aA w0 (.cells (x9 (Sp.row ls k 0)).toArray 45);have HX0:=ae (bi.new w0 (x9 (Sp.row ls k 0)) 45);have U0:=ae hal;clear hal;have IX:(0:Int)<=(k:Int):=by{omega};go_wp2;go_loopg [7] len (fun gj vi wx=>∃(i:Nat),gj=len-i/\i<=len/\vi= .int .i64 (i:Int)/\bi wx w0.heap.size (x9 (Sp.row ls k i))/\Below w0.heap.size w0 wx);(case atStart=>exact⟨0,by omega,by omega,rfl,HX0.out,U0.out⟩);case round=>obtain⟨i,hgj,hi,rfl,hbx,hBx⟩:=hrel;clear HX0 U0;by_cases hil:i<len;{have ad4:(i:Int)<(len:Int):=by{omega};have Mf:=HR.out.2.2.1.kept hBx;have hoi:=HR.out.2.1.kept hBx;have kU:=o9 a len cap ls gK.out i hil (Fl.live ls) J6.out w.heap.size gi ci wr Mf hoi;obtain⟨b,off,rfl,hb,hc⟩:=Mf.at hil;have hb0:b<w0.heap.size:=by{obtain⟨b',o',e,h,-⟩:=HR.out.2.2.1.at hil;cases e;exact h};have hbn:¬w0.heap.size=b:=by{omega};have Jb:Hid (Sp.ha ls k i=((((Fl.live ls).getD i 0|||Fl.ou ls (Fl.live ls) i).testBit k)||decide (Ln.st (ls.getD i .z)=(k:Int)))):=rfl;have DT:Hid (Sp.cr ls k i=(decide ((ls.getD i .z).k=7)&&(decide (Ln.st (ls.getD i .z)≠(k:Int))&&(Fl.ou ls (Fl.live ls) i).testBit k))):=rfl;obtain⟨x,hx⟩:∃x,ls.getD i .z=x:=⟨_,rfl⟩;rw[hx]at hc Jb DT;have HX0:Hid (Fl.ou ls (Fl.live ls) i<2 ^ 40):=Fl.qJ J6.out _;obtain⟨X0,hX0⟩:∃X0,Fl.ou ls (Fl.live ls) i=X0:=⟨_,rfl⟩;rw[hX0]at kU Jb DT HX0;have hci:=hoi.cell hil;rw[BF]at hci;have HZ0:=ae (J6.out i);obtain⟨Z0,hZ0⟩:∃Z0,(Fl.live ls).getD i 0=Z0:=⟨_,rfl⟩;rw[hZ0]at hci Jb HZ0;have hrow:Sp.row ls k (i+1)=Sp.ic ls k i (Sp.row ls k i):=rfl;have HRW:Hid (Sp.row ls k (i+1)=Sp.ic ls k i (Sp.row ls k i)):=hrow;obtain⟨s,hss⟩:∃s,Sp.row ls k i=s:=⟨_,rfl⟩;rw[hss]at hbx HRW;clear hx hX0 hZ0 Mf hrow hss;obtain⟨c0,c1,c2,c3,c4,la,ln,lc,c5,xA⟩:=hc;go_wp2_with fail;refine kU.mono ?_;rintro e w2 ⟨rfl,hB2⟩;dsimp only;have e0:=(hB2.cell (p:=⟨b,off+i*6,none⟩) hb).trans c0;have e1:=(hB2.cell (p:=⟨b,off+i*6+1,none⟩) hb).trans c1;have e2:=(hB2.cell (p:=⟨b,off+i*6+2,none⟩) hb).trans c2;have e3:=(hB2.cell (p:=⟨b,off+i*6+3,none⟩) hb).trans c3;have e4:=(hB2.cell (p:=⟨b,off+i*6+4,none⟩) hb).trans c4;have e5:=(hB2.cell (p:=⟨b,off+i*6+5,none⟩) hb).trans c5;have hgl:=hoi.lt;have ei:=(hB2.cell (p:=⟨gi,i,none⟩) hgl.2).trans hci;have Ps:=hbx.kept hB2;have hBx2:=hBx.trans (hB2.mono hBx.size);have bK:=o8 x la ln lc w2;have hb2:=aj hb hB2.size;have hg2:=aj hgl.2 hB2.size;clear kU c0 c1 c2 c3 c4 c5 hci hB2 hbx hBx hoi;go_wp2_with fail;refine bK.mono ?_;rintro e w3 ⟨rfl,hB3⟩;dsimp only;have c0:=(hB3.cell (p:=⟨b,off+i*6,none⟩) hb2).trans e0;have c1:=(hB3.cell (p:=⟨b,off+i*6+1,none⟩) hb2).trans e1;have c2:=(hB3.cell (p:=⟨b,off+i*6+2,none⟩) hb2).trans e2;have c3:=(hB3.cell (p:=⟨b,off+i*6+3,none⟩) hb2).trans e3;have c4:=(hB3.cell (p:=⟨b,off+i*6+4,none⟩) hb2).trans e4;have c5:=(hB3.cell (p:=⟨b,off+i*6+5,none⟩) hb2).trans e5;have hci:=(hB3.cell (p:=⟨gi,i,none⟩) hg2).trans ei;have sH:=Ps.kept hB3;have hBx3:=hBx2.trans (hB3.mono hBx2.size);clear bK e0 e1 e2 e3 e4 e5 ei Ps hBx2 hB3 hb2 hg2;obtain⟨d,hd⟩:∃d,Ln.st x=d:=⟨_,rfl⟩;rw[hd]at Jb DT ⊢;clear hd;obtain⟨xk,hxk⟩:∃xk,x.k=xk:=⟨_,rfl⟩;rw[hxk]at c0 DT;clear hxk;have hor:bits .or .i64 (Z0:Int) (X0:Int)=((Z0|||X0:Nat):Int):=IP HZ0.out HX0.out;have WL:Hid (Z0|||X0<2 ^ 40):=Nat.or_lt_two_pow HZ0.out HX0.out;obtain⟨M,hM⟩:∃M,Z0|||X0=M:=⟨_,rfl⟩;rw[hM]at hor Jb WL;clear hM;obtain⟨sb,sf,st,sc⟩:=s;have b1:=(sH.2 1 _ rfl).1;have b2:=(sH.2 2 _ rfl).1;have b3:=(sH.2 3 _ rfl).1;have f1:=(sH.2 1 _ rfl).2;have f2:=(sH.2 2 _ rfl).2;have f3:=(sH.2 3 _ rfl).2;have hLw:=sH.1;have oL:Hid (∀(x:Int)(c:Bool),bi ((w3.setCell ⟨w0.heap.size,2,none⟩ (.int .i64 x)).setCell ⟨w0.heap.size,3,none⟩ (.bool c)) w0.heap.size (x9 ⟨sb,sf,x,c⟩)/\Below w0.heap.size w0 ((w3.setCell ⟨w0.heap.size,2,none⟩ (.int .i64 x)).setCell ⟨w0.heap.size,3,none⟩ (.bool c))):=fun x c=>⟨(sH.set 2 _).set 3 _,(hBx3.setCell (p:=⟨w0.heap.size,2,none⟩) (Nat.le_refl _) _).setCell (p:=⟨w0.heap.size,3,none⟩) (Nat.le_refl _) _⟩;have zu:Hid (∀(y x:Int)(c:Bool),bi (((w3.setCell ⟨w0.heap.size,1,none⟩ (.int .i64 y)).setCell ⟨w0.heap.size,2,none⟩ (.int .i64 x)).setCell ⟨w0.heap.size,3,none⟩ (.bool c)) w0.heap.size (x9 ⟨sb,y,x,c⟩)/\Below w0.heap.size w0 (((w3.setCell ⟨w0.heap.size,1,none⟩ (.int .i64 y)).setCell ⟨w0.heap.size,2,none⟩ (.int .i64 x)).setCell ⟨w0.heap.size,3,none⟩ (.bool c))):=fun y x c=>⟨((sH.set 1 _).set 2 _).set 3 _,((hBx3.setCell (p:=⟨w0.heap.size,1,none⟩) (Nat.le_refl _) _).setCell (p:=⟨w0.heap.size,2,none⟩) (Nat.le_refl _) _).setCell (p:=⟨w0.heap.size,3,none⟩) (Nat.le_refl _) _⟩;have Pt:=ae (ak sH hBx3);have hTM:=Jv M k;have hTX:=Jv X0 k;obtain⟨z,hz⟩:∃z,M.testBit k=z:=⟨_,rfl⟩;obtain⟨y,hy⟩:∃y,X0.testBit k=y:=⟨_,rfl⟩;obtain⟨u,hu⟩:∃u,(d !=(k:Int))=u:=⟨_,rfl⟩;(have hu2:decide (d=(k:Int))= !u:=by rw[←hu];by_cases h:d=(k:Int)<;>simp[bne,h]);(have hu3:decide (d≠(k:Int))=u:=by rw[←hu];by_cases h:d=(k:Int)<;>simp[bne,h]);rw[hz,hu2]at Jb;rw[hy,hu3]at DT;rw[hz]at hTM;rw[hy]at hTX;clear hz hy hu2 hu3 sH hBx3;have HN:Hid (∀r:Sp.S,Sp.ic ls k i ⟨sb,sf,st,sc⟩=r->Sp.row ls k (i+1)=r):=fun r h=>HRW.out.trans h;clear HRW;have stay:z=false->u=true->Hid (Sp.row ls k (i+1)=⟨sb,sf,st,sc⟩):=fun h1 h2=>HN.out _ (by unfold Sp.ic;rw[Jb.out,h1,h2];rfl);have turn:(z|| !u)=true->∀(f:Int)(c:Bool),(if sf<0 then(i:Int)else sf)=f->(sc||(decide (xk=7)&&(u&&y)))=c->Hid (Sp.row ls k (i+1)=⟨sb,f,(i:Int),c⟩):=fun h1 f c hf hc=>HN.out _ (by unfold Sp.ic;rw[Jb.out,h1,DT.out,hc];simp only[if_true];rw[hf]);have ST:=ae stay;have TN:=ae turn;clear stay turn Jb DT HN;cases z<;>cases u<;>simp only[if_true,if_false,Bool.false_eq_true]at hTM;rotate_left;{have HE:=ST.out rfl rfl;clear oL zu TN;go_wp2;go_roundg (len-(i+1));(case measure=>omega);case rel=>exact⟨i+1,rfl,hil,by simp,by rw[HE.out];exact Pt.out.1,Pt.out.2⟩};all_goals clear Pt ST;cases sc;rotate_left;{by_cases hf:sf<0;{have HE:=TN.out rfl (i:Int) true (by simp[hf]) (by simp);clear TN oL;go_wp2;go_roundg (len-(i+1));(case measure=>omega);case rel=>exact⟨i+1,rfl,hil,by simp,by rw[HE.out];exact(zu.out _ _ _).1,(zu.out _ _ _).2⟩};have HE:=TN.out rfl sf true (by simp[hf]) (by simp);clear TN zu;go_wp2;go_roundg (len-(i+1));(case measure=>omega);case rel=>exact⟨i+1,rfl,hil,by simp,by rw[HE.out];exact(oL.out _ _).1,(oL.out _ _).2⟩};by_cases hx:xk=7;rotate_left;{have hx7:(xk==7)=false:=by{simpa using hx};by_cases hf:sf<0;{have HE:=TN.out rfl (i:Int) false (by simp[hf]) (by simp[hx]);clear TN oL;go_wp2;go_roundg (len-(i+1));(case measure=>omega);case rel=>exact⟨i+1,rfl,hil,by simp,by rw[HE.out];exact(zu.out _ _ _).1,(zu.out _ _ _).2⟩};have HE:=TN.out rfl sf false (by simp[hf]) (by simp[hx]);clear TN zu;go_wp2;go_roundg (len-(i+1));(case measure=>omega);case rel=>exact⟨i+1,rfl,hil,by simp,by rw[HE.out];exact(oL.out _ _).1,(oL.out _ _).2⟩};subst hx;cases y<;>simp only[if_true,if_false,Bool.false_eq_true]at hTX;{by_cases hf:sf<0;{have HE:=TN.out rfl (i:Int) false (by simp[hf]) (by simp);clear TN oL;go_wp2;go_roundg (len-(i+1));(case measure=>omega);case rel=>exact⟨i+1,rfl,hil,by simp,by rw[HE.out];exact(zu.out _ _ _).1,(zu.out _ _ _).2⟩};have HE:=TN.out rfl sf false (by simp[hf]) (by simp);clear TN zu;go_wp2;go_roundg (len-(i+1));(case measure=>omega);case rel=>exact⟨i+1,rfl,hil,by simp,by rw[HE.out];exact(oL.out _ _).1,(oL.out _ _).2⟩};by_cases hf:sf<0;{have HE:=TN.out rfl (i:Int) _ (by simp[hf]) rfl;clear TN oL;go_wp2;go_roundg (len-(i+1));(case measure=>omega);case rel=>exact⟨i+1,rfl,hil,by simp,by rw[HE.out];exact(zu.out _ _ _).1,(zu.out _ _ _).2⟩};have HE:=TN.out rfl sf _ (by simp[hf]) rfl;clear TN zu;go_wp2;go_roundg (len-(i+1));(case measure=>omega);case rel=>exact⟨i+1,rfl,hil,by simp,by rw[HE.out];exact(oL.out _ _).1,(oL.out _ _).2⟩};have hie:i=len:=by{omega};subst hie;have pY:=ae (HR.out.1.kept hBx);have HI3:=ae (HR.out.2.1.kept hBx);have Pv:=ae (HR.out.2.2.1.kept hBx);have hBw:=HR.out.2.2.2.1.trans (hBx.mono HR.out.2.2.2.1.size);have HB3:=ae hBw;have hw3:w1.heap.size<=wr.heap.size:=Nat.le_trans hwr hBx.size;have HW3:=ae hw3;have hN:n<=40:=by{have h1:=HR.out.1.1;have h2:=Sp.vJ ls k;omega};have HQ:Hid (Sp.out ls (k+1)=if 0<=(Sp.row ls k i).f then Sp.out ls k++[Sp.row ls k i]else Sp.out ls k):=by{show _=_;rw[←HL.out];rfl};obtain⟨s,hss⟩:∃s,Sp.row ls k i=s:=⟨_,rfl⟩;rw[hss]at hbx HQ;clear hss hBw;obtain⟨sb,sf,st,sc⟩:=s;have b0:=(hbx.2 0 _ rfl).1;have b1:=(hbx.2 1 _ rfl).1;have b2:=(hbx.2 2 _ rfl).1;have b3:=(hbx.2 3 _ rfl).1;have hLw:=hbx.1;simp only at HQ;clear hbx hBx;by_cases hf:0<=sf;{have HE:Hid (Sp.out ls (k+1)=Sp.out ls k++[⟨sb,sf,st,sc⟩]):=by{show _=_;rw[HQ.out,ay hf]};clear HQ;have hal:=aA wr (.cells #[.int .i64 sb, .int .i64 sf, .int .i64 st, .bool sc] 45);have hwl:w.heap.size<=wr.heap.size:=HB3.out.size;have jD:=ae (pY.out.kept hal);have HI4:=ae (HI3.out.kept hal);have Ed:=ae (Pv.out.kept hal);have sU:=ae (HB3.out.trans (hal.mono hwl));have HC:Hid (∀j u,[Value.int .i64 sb, .int .i64 sf, .int .i64 st, .bool sc][j]?=some u->(wr.alloc (.cells #[.int .i64 sb, .int .i64 sf, .int .i64 st, .bool sc] 45)).cell? ((⟨wr.heap.size,0,none⟩:Addr).add j)=some u):=mi wr _ _ _ _ _;have hg:=pY.out.lt;have hcp:=pY.out.cap;clear hal pY HI3 Pv HB3;go_wp2_with(at_builtin;refine y9 _ rfl _ _ rfl w1.heap.size _ _ _ _ rfl jD.out wr.heap.size ⟨sb,sf,st,sc⟩ rfl HC.out (by omega) (by simp only[World.size_alloc];omega) ?_;intro g4 c4 N4 w4 J4 pu gy;have HF:=ae (ak pu (ak (HI4.out.bS gy (by omega)) (ak (J5.out.kept (aB sU.out gy (by omega))) (ak (aB sU.out gy (by omega)) (Nat.le_trans (show w1.heap.size<=_ by simp only[World.size_alloc];omega) gy.size)))));clear pu gy);go_roundg (40-(k+1));(case measure=>omega);case rel=>exact⟨k+1,g4,N4,c4,rfl,hlt,rfl,by simp,by rw[HE.out];exact HF.out.1,HF.out.2.1,HF.out.2.2.1,HF.out.2.2.2.1,HF.out.2.2.2.2⟩};have HE:Hid (Sp.out ls (k+1)=Sp.out ls k):=by{show _=_;rw[HQ.out,ax hf]};clear HQ;go_wp2;go_roundg (40-(k+1));(case measure=>omega);case rel=>exact⟨k+1,g,n,c,rfl,hlt,rfl,by simp,by rw[HE.out];exact pY.out,HI3.out,Pv.out,HB3.out,HW3.out⟩};have hke:k=40:=by{omega};subst hke;have HE:=ae (ak (hor.mono aZ) hBr);clear hor hoi lJ hBr;go_wp2;go_ret;exact⟨g,n,c,rfl,HE.out.1,HE.out.2⟩
theorem tC (a:Option Addr)(len cap:Nat)(ls:List Ln)(hok:Ln.isOk ls=true)(w:World)(hs:LL w a len ls):Calls Tryz.prog 30 #[.slice a len cap] w fun e w'=>∃g c,e= .returned (.slice (some ⟨g,0,none⟩) 40 c)/\OG w' w.heap.size g 40 c (Hm.homes ls)/\Below w.heap.size w w':=by
 have hcon:=fun W (h:LL W a len ls)=>lU a len cap ls hok W h
 have U1:Hid (Hm.homes ls=Hm.eu (Sp.out ls 40) (Hm.run (Sp.out ls 40) (Sp.out ls 40).length) (Sp.out ls 40).length):=by show _=_;unfold Hm.homes;rw[ay hok,show Sp.df ls=Sp.out ls 40 from by unfold Sp.df;rw[ay hok]]
 have gD:=ae (Hm.kJ ls)
 have HS:=ae hs
 generalize Sp.out ls 40=l at hcon U1 gD
 have Pw:=gD.out.len
 generalize Hm.homes ls=hz at U1 ⊢
 clear hs hok
 go_enter Tryz.func30,Tryz.ntmps30
 go_wp2_with fail
 refine(iL 40 (by omega) _).mono ?_
 rintro e w1 ⟨go,co,rfl,hoi,hB1⟩
 dsimp only
 have Ee:OG w1 w.heap.size go 40 co (Hm.eu l (Hm.run l l.length) 0):=⟨by simp[Hm.eu],by
  have h2:=hoi
  unfold OI at h2
  exact h2⟩
 have HO:=ae Ee
 have aZ:=hB1.size
 have hgo:=Ee.lt
 have hs1:=HS.out.kept hB1
 have HB1:=ae hB1
 clear hoi Ee hB1
 go_wp2_with fail
 refine(hcon w1 hs1).mono ?_
 rintro e w2 ⟨gs,ns,cs,rfl,hsg,hB2⟩
 dsimp only
 have hnl:=hsg.1
 have hns:ns<=40:=by omega
 have Ce:=ae hsg
 have HB2:=ae hB2
 have hgs:=hsg.lt
 have oM:=ae hnl
 have hcs:=hsg.cap
 clear hcon hs1 hsg hB2 hnl
 go_wp2_with fail
 refine(pK w1.heap.size gs ns cs l hns w2 Ce.out).mono ?_
 rintro e w3 ⟨gh,ch,rfl,hho,hB3⟩
 dsimp only
 have hgh:=hho.lt
 have hch:=hho.cap
 have hsz2:=HB2.out.size
 have IY:=hB3.size
 have HX:=ae (ak ((HO.out.kept HB2.out).kept hB3) (ak (Ce.out.kept hB3) (ak hho (HB1.out.trans ((HB2.out.trans (hB3.mono hsz2)).mono aZ)))))
 have Ka:Hid (hz=Hm.eu l (Hm.run l ns) ns):=by show _=_;rw[U1.out,oM.out]
 have Nr:=ae (Hm.Inv.run l ns (by rw[oM.out];exact Nat.le_refl _))
 have hco:=HO.out.cap
 have iA:Hid (Hm.eu l (Hm.run l l.length) 0=Hm.eu l (Hm.run l ns) 0):=rfl
 generalize Hm.run l ns=h0 at HX Ka Nr iA
 rw[iA.out]at HX
 have hne1:go≠gh:=by omega
 have hne2:go≠gs:=by omega
 have Px:(ns:Int)<=40:=by omega
 clear hho hB3 HO Ce HB1 HB2 U1 iA
 go_wp2
 go_loopg [6,7] ns (fun gk vp vi wr=>∃(i:Nat),gk=ns-i/\i<=ns/\vi= .int .i64 (i:Int)/\vp= .int .i64 (100+(Hm.dG h0 i:Int))/\OG wr w.heap.size go 40 co (Hm.eu l h0 i)/\SG wr w1.heap.size gs ns cs l/\OG wr w2.heap.size gh ns ch h0/\Below w.heap.size w wr)
 case atStart=>exact⟨0,rfl,by omega,rfl,rfl,HX.out.1,HX.out.2.1,HX.out.2.2.1,HX.out.2.2.2⟩
 case round=>
  obtain⟨i,mJ,hi,rfl,rfl,Ee,hsg,hho,hB⟩:=hrel
  obtain⟨w4,rfl⟩:∃x,x=wr:=⟨_,rfl⟩
  clear HX
  by_cases hlt:i<ns
  · have bE:(i:Int)<(ns:Int):=by omega
    have hlo:=gD.out.lo i (by rw[oM.out];exact hlt)
    obtain⟨d0,-,-,-⟩:=hsg.cell hlt
    have WM:=hho.cell hlt
    have iD:Hid (Hm.eu l h0 (i+1)=(Hm.eu l h0 i).set (l.getD i .z).b.toNat (Hm.val h0 i)):=rfl
    have Py:Hid (Hm.dG h0 (i+1)=if h0.getD i 0=-2 then Hm.dG h0 i+1 else Hm.dG h0 i):=rfl
    have Pz:Hid (Hm.val h0 i=if h0.getD i 0=-2 then 100+(Hm.dG h0 i:Int)else h0.getD i 0):=rfl
    have hcl:=Hm.vW h0 i
    generalize(l.getD i .z).b=b at d0 hlo iD
    obtain⟨bn,rfl⟩:=Int.eq_ofNat_of_zero_le hlo.1
    rw[az]at iD
    have DU:bn<40:=by omega
    have Kb:(bn:Int)<40:=by omega
    have hcb:=Ee.cell DU
    have hfz:=fun j=>World.ownsRow.frozenAt Ee.2 j
    have WB:=Ee.lt
    have WC:=hho.lt
    have WG:=hsg.lt
    have HST:Hid (∀W (xs:List Int)(y:Int),OG W w.heap.size go 40 co xs->SG W w1.heap.size gs ns cs l->OG W w2.heap.size gh ns ch h0->Below w.heap.size w W->OG (W.setCell ⟨go,bn,none⟩ (.int .i64 y)) w.heap.size go 40 co (xs.set bn y)/\SG (W.setCell ⟨go,bn,none⟩ (.int .i64 y)) w1.heap.size gs ns cs l/\OG (W.setCell ⟨go,bn,none⟩ (.int .i64 y)) w2.heap.size gh ns ch h0/\Below w.heap.size w (W.setCell ⟨go,bn,none⟩ (.int .i64 y))):=fun W xs y h1 h2 h3 h4=>
     ⟨OG.Bo h1 bn y,h2.bS (aF W ⟨go,bn,none⟩ (.int .i64 y)) (fun e=>hne2 e.symm),h3.bS (aF W ⟨go,bn,none⟩ (.int .i64 y)) (fun e=>hne1 e.symm),aB h4 (aF W ⟨go,bn,none⟩ (.int .i64 y)) (show w.heap.size<=go by omega)⟩
    obtain⟨v,hv⟩:∃v,h0.getD i 0=v:=⟨_,rfl⟩
    rw[hv]at WM Py Pz
    have h1:=HST.out w4 _ v Ee hsg hho hB
    by_cases hv2:v=-2
    · subst hv2;have h2:=HST.out _ _ (100+(Hm.dG h0 i:Int)) h1.1 h1.2.1 h1.2.2.1 h1.2.2.2;rw[List.set_set]at h2;have HF:=ae h2;have HN:Hid (Hm.eu l h0 (i+1)=(Hm.eu l h0 i).set bn (100+(Hm.dG h0 i:Int))/\Hm.dG h0 (i+1)=Hm.dG h0 i+1):=⟨by rw[iD.out,Pz.out,ay rfl],by rw[Py.out,ay rfl]⟩;clear Ee hsg hho hB h1 h2 hv iD Pz Py;go_wp2_with fail;go_region;all_goals go_wp2;go_roundg (ns-(i+1));(case measure=>omega);case rel=>exact⟨i+1,rfl,hlt,by simp,by rw[HN.out.2];simp;omega,by rw[HN.out.1];exact HF.out.1,HF.out.2.1,HF.out.2.2.1,HF.out.2.2.2.drew⟩
    · have HF:=ae h1;have HN:Hid (Hm.eu l h0 (i+1)=(Hm.eu l h0 i).set bn v/\Hm.dG h0 (i+1)=Hm.dG h0 i):=⟨by rw[iD.out,Pz.out,ax hv2],by rw[Py.out,ax hv2]⟩;clear Ee hsg hho hB h1 hv iD Pz Py;go_wp2_with fail;go_region;all_goals go_wp2;go_roundg (ns-(i+1));(case measure=>omega);case rel=>exact⟨i+1,rfl,hlt,by simp,by rw[HN.out.2],by rw[HN.out.1];exact HF.out.1,HF.out.2.1,HF.out.2.2.1,HF.out.2.2.2.drew⟩
  · have hie:i=ns:=by{omega};have HF:Hid (OG w4 w.heap.size go 40 co hz/\Below w.heap.size w w4):=⟨by rw[Ka.out,←hie];exact Ee,hB⟩;have bE:¬(i:Int)<(ns:Int):=by{omega};clear Ee hsg hho hB hie;go_wp2;go_ret;exact⟨go,co,rfl,HF.out.1,HF.out.2⟩
theorem qF (a:Option Addr)(len cap:Nat)(ls:List Ln)(w:World)(hs:LL w a len ls):Calls Tryz.prog 10 #[.slice a len cap] w fun e w'=>∃g n c,e= .returned (.slice (some ⟨g,0,none⟩) n c)/\OG w' w.heap.size g n c (Hm.homes ls)/\Below w.heap.size w w':=by have hcon:=jO a len cap ls w hs;have HS:=ae hs;have Ka:Hid (Ln.isOk ls=false->Hm.homes ls=[]):=fun h=>by{unfold Hm.homes;rw[ax (by rw[h];decide)]};have bK:=fun h=>tC a len cap ls h;generalize Hm.homes ls=hz at Ka bK ⊢;generalize Ln.isOk ls=q at hcon Ka bK;clear hs;go_enter Tryz.func10,Tryz.ntmps10;go_wp2_with fail;refine hcon.mono ?_;rintro e w1 ⟨rfl,hB1⟩;dsimp only;have aZ:=hB1.size;cases q;{have HZ:=ae (Ka.out rfl);have hal:=aA w1 (.cells #[] 2);have HF:=ae (ak (OG.empty w1 w.heap.size aZ) (hB1.trans (hal.mono aZ)));clear hcon Ka bK hB1 hal;go_wp2;go_ret;exact⟨_,0,0,rfl,by rw[HZ.out];exact HF.out.1,HF.out.2⟩};have h2:=bK rfl w1 (HS.out.kept hB1);have HB:=ae hB1;clear hcon Ka bK hB1;go_wp2_with fail;refine h2.mono ?_;rintro e w2 ⟨g,c,rfl,ho,hB2⟩;dsimp only;have HF:=ae (ak (ho.mono aZ) (HB.out.trans (hB2.mono aZ)));clear ho hB2 h2;go_wp2;go_ret;exact⟨g,40,c,rfl,HF.out.1,HF.out.2⟩
theorem size_take {xs:List Int}{k:Nat}(h:k<xs.length):Hm.size (xs.take (k+1))=Hm.size (xs.take k)+(if 100<=xs.getD k 0 then 1 else 0):=by unfold Hm.size;rw[List.take_add_one,ai h,List.countP_append,Hm.qi h];show _+List.countP _ [xs[k]]=_;rw[List.countP_singleton];simp only[decide_eq_true_eq]
theorem pO (a:Option Addr)(len cap:Nat)(xs:List Int)(hlen:len<=1048576)(w:World)(hs:IL w a len xs):Calls Tryz.prog 14 #[.slice a len cap] w fun e w'=>e= .returned (.int .i64 ((Hm.size xs:Nat):Int))/\w'=w:=by have HL:=ae hs.1;have AY:(len:Int)<=1048576:=by{omega};obtain⟨R,hR⟩:∃R,Hm.size xs=R:=⟨_,rfl⟩;rw[hR];have HR:=ae hR;clear hR;go_enter Tryz.func14,Tryz.ntmps14;go_wp2;go_loopg [3,4] len (fun gk vn vi wr=>∃(k q:Nat),gk=len-k/\k<=len/\vn= .int .i64 (q:Int)/\vi= .int .i64 (k:Int)/\q<=k/\Hid (q=Hm.size (xs.take k))/\w=wr);(case atStart=>exact⟨0,0,rfl,by omega,rfl,rfl,Nat.le_refl _,(by show _=_;simp[Hm.size]),rfl⟩);case round=>obtain⟨k,q,mJ,hk,rfl,rfl,hqk,HQ,aZ⟩:=hrel;subst aZ;by_cases hlt:k<len;{have bE:(k:Int)<(len:Int):=by{omega};have hkl:k<xs.length:=by{rw[HL.out];exact hlt};obtain⟨-,-,h0|⟨lb,lo,rfl,hlb,hcc⟩⟩:=hs;{omega};have hc:=hcc k hlt;have HS:=ae (size_take hkl);generalize xs.getD k 0=y at hc HS;clear hcc hkl;by_cases hy:100<=y;{have HN:Hid (q+1=Hm.size (xs.take (k+1))):=by{show _=_;rw[HS.out,ay hy,←HQ.out]};clear HQ HS;go_wp2;go_roundg (len-(k+1));(case measure=>omega);case rel=>exact⟨k+1,q+1,rfl,hlt,by simp,by simp,by omega,HN,rfl⟩};have HN:Hid (q=Hm.size (xs.take (k+1))):=by{show _=_;rw[HS.out,ax hy,←HQ.out];rfl};clear HQ HS;go_wp2;go_roundg (len-(k+1));(case measure=>omega);case rel=>exact⟨k+1,q,rfl,hlt,rfl,by simp,by omega,HN,rfl⟩};have hke:k=len:=by{omega};have HE:Hid (q=R):=by{show _=_;rw[HQ.out,←HR.out,hke,←HL.out,List.take_length]};have bE:¬(k:Int)<(len:Int):=by{omega};clear HQ hke hs;go_wp2;go_ret;exact⟨by rw[←HE.out]<;>rfl,rfl⟩
section
open Go.RowKit

def Bytes (w:World)(a:Option Addr)(len:Nat)(zs:List Int):Prop:=
 len<=maxLen/\(len=0\/∃b off,a=some ⟨b,off,none⟩/\b<w.heap.size/\(∀j,j<len->w.cell? ⟨b,off+j,none⟩=some (.int .u8 (zs.getD j 0)))/\∀j,0<=zs.getD j 0/\zs.getD j 0<=255)

def gG (w:World)(B:Nat)(a:Option Addr)(len cap:Nat)(zs:List Int):Prop:=
 B<w.heap.size/\(len=0\/∀x,a=some x->x.block<B)/\Bytes w a len zs/\
 w.cell? ⟨B,0,none⟩=some (.slice a len cap)/\
 w.frozen? ⟨B,1,none⟩=false/\w.frozen? ⟨B,2,none⟩=false/\
 (∃i:Nat,i<=len/\w.cell? ⟨B,1,none⟩=some (.int .i64 i))/\
 ∃h:Int,w.cell? ⟨B,2,none⟩=some (.int .i64 h)

theorem ko (W:World)(p:Addr)(v:Value):W.grownBy (W.setCell p v) (some p.block):=
 ⟨rfl,rfl,rfl,by simp[World.setCell],fun i _ hne=>Below.heap_setCell _ _ _ _ (fun e=>hne (by rw[e]))⟩
theorem tJ (W:World)(n:Nat)(row:Option Nat):W.grownBy (W.drewN n) row:=⟨rfl,rfl,rfl,Nat.le_refl _,fun _ _ _=>rfl⟩
theorem dQ {a b c:World}{row:Option Nat}(h:a.grownBy b row)(k:b.grownBy c row):a.grownBy c row:=
 ⟨k.os.trans h.os,k.tape.trans h.tape,k.output.trans h.output,Nat.le_trans h.size k.size,fun i hi hn=>(k.block i (aj hi h.size) hn).trans (h.block i hi hn)⟩
theorem Bytes.kept {w w':World}{a:Option Addr}{len:Nat}{zs:List Int}(h:Bytes w a len zs){row:Option Nat}(hg:w.grownBy w' row)(hr:len=0\/∀x,a=some x->some x.block≠row):Bytes w' a len zs:=by obtain⟨hl,h0|⟨b,off,rfl,hb,hcell,hz⟩⟩:=h;{exact⟨hl, .inl h0⟩};rcases hr with hr|hr;{exact⟨hl, .inl hr⟩};refine⟨hl, .inr ⟨b,off,rfl,aj hb hg.size,fun j hj=>?_,hz⟩⟩;exact(World.grownBy.cell_far hg ⟨b,off+j,none⟩ hb (hr ⟨b,off,none⟩ rfl)).trans (hcell j hj)
theorem gG.step {w w':World}{B:Nat}{a:Option Addr}{len cap:Nat}{zs:List Int}(hc:gG w B a len cap zs)(hg:w.grownBy w' (some B))(h0:w'.cell? ⟨B,0,none⟩=w.cell? ⟨B,0,none⟩)(hf:∀o,w'.frozen? ⟨B,o,none⟩=w.frozen? ⟨B,o,none⟩)(i:Nat)(hi:i<=len)(h1:w'.cell? ⟨B,1,none⟩=some (.int .i64 i))(h:Int)(h2:w'.cell? ⟨B,2,none⟩=some (.int .i64 h)):gG w' B a len cap zs:=by obtain⟨hB,hab,hrow,hc0,hf1,hf2,_,_⟩:=hc;exact⟨aj hB hg.size,hab,hrow.kept hg (hab.imp_right fun hab x e h=>by have:=hab x e;simp only[af]at h;omega),h0.trans hc0,(hf 1).trans hf1,(hf 2).trans hf2,⟨i,hi,h1⟩,h,h2⟩
theorem gG.kept {w w':World}{B:Nat}{a:Option Addr}{len cap:Nat}{zs:List Int}(hc:gG w B a len cap zs){row:Option Nat}(hg:w.grownBy w' row)(hr:some B≠row)(hr2:len=0\/∀x,a=some x->some x.block≠row):gG w' B a len cap zs:=by obtain⟨hB,hab,hrow,hc0,hf1,hf2,⟨i,hi,h1⟩,h,h2⟩:=hc;have c:∀o,w'.cell? ⟨B,o,none⟩=w.cell? ⟨B,o,none⟩:=fun o=>World.grownBy.cell_far hg _ hB hr;have f:∀o,w'.frozen? ⟨B,o,none⟩=w.frozen? ⟨B,o,none⟩:=fun o=>World.grownBy.frozen_far hg _ hB hr;exact⟨aj hB hg.size,hab,hrow.kept hg hr2,(c 0).trans hc0,(f 1).trans hf1,(f 2).trans hf2,⟨i,hi,(c 1).trans h1⟩,h,(c 2).trans h2⟩
theorem gG.one {w:World}{B:Nat}{a:Option Addr}{len cap:Nat}{zs:List Int}(hc:gG w B a len cap zs)(v:Int)(n:Nat):gG ((w.setCell ⟨B,2,none⟩ (.int .i64 v)).drewN n) B a len cap zs/\w.grownBy ((w.setCell ⟨B,2,none⟩ (.int .i64 v)).drewN n) (some B):=by have hg:w.grownBy ((w.setCell ⟨B,2,none⟩ (.int .i64 v)).drewN n) (some B):=dQ (ko w ⟨B,2,none⟩ _) (tJ _ _ _);refine⟨?_,hg⟩;have hc':=hc;obtain⟨hB,hab,hrow,hc0,hf1,hf2,⟨i,hi,hc1⟩,h,hc2⟩:=hc';exact hc.step hg (by go_simp) (fun o=>by go_simp) i hi (by go_simp) v (by go_simp)
theorem gG.two {w:World}{B:Nat}{a:Option Addr}{len cap:Nat}{zs:List Int}(hc:gG w B a len cap zs)(v:Int)(n:Nat)(j:Nat)(hj:j+1<=len):gG (((w.setCell ⟨B,2,none⟩ (.int .i64 v)).drewN n).setCell ⟨B,1,none⟩ (.int .i64 (j+1))) B a len cap zs/\w.grownBy (((w.setCell ⟨B,2,none⟩ (.int .i64 v)).drewN n).setCell ⟨B,1,none⟩ (.int .i64 (j+1))) (some B):=by obtain⟨hc',hg⟩:=hc.one v n;have hg2:w.grownBy (((w.setCell ⟨B,2,none⟩ (.int .i64 v)).drewN n).setCell ⟨B,1,none⟩ (.int .i64 (j+1))) (some B):=dQ hg (ko _ ⟨B,1,none⟩ _);refine⟨?_,hg2⟩;have hc2:=hc;obtain⟨hB,hab,hrow,hc0,hf1,hf2,⟨i,hi,hc1⟩,h,hc3⟩:=hc2;exact hc.step hg2 (by go_simp) (fun o=>by go_simp) (j+1) hj (by go_simp) v (by go_simp)
theorem gG.new {w:World}{a:Option Addr}{len:Nat}(cap:Nat){zs:List Int}(hb:Bytes w a len zs)(v:Int)(t:TypeId):
   gG (w.alloc (.cells #[.slice a len cap, .int .i64 0, .int .i64 v] t)) w.heap.size a len cap zs:=
 ⟨by simp,hb.2.imp_right (fun⟨b,off,e,hlt,_⟩ x h=>by rw[e]at h;cases h;exact hlt),hb.kept (World.grownBy_alloc w _ none) (.inr (by simp)),by go_simp,by go_simp,by go_simp,⟨0,Nat.zero_le _,by go_simp⟩,v,by go_simp⟩
theorem Ar (B:Nat)(a:Option Addr)(len cap:Nat)(zs:List Int)(w:World)(hc:gG w B a len cap zs):Calls Tryz.prog 55 #[.pointer (some ⟨B,0,none⟩)] w fun e w'=>∃x:Int,e= .returned (.int .i64 x)/\0<=x/\x<=255/\gG w' B a len cap zs/\w.grownBy w' (some B):=by have HC:Hid (gG w B a len cap zs):=hc;obtain⟨hB,hab,⟨hlen,hrow⟩,hc0,hf1,hf2,⟨i,hi,hc1⟩,h,hc2⟩:=hc;unfold maxLen at hlen;by_cases hlt:i<len;{rcases hrow with rfl|⟨b,off,rfl,hb,hcell,hz⟩;{omega};have hcj:=hcell i hlt;have hne:b<B:=hab.elim (fun h=>by omega) fun h=>h _ rfl;have hz1:=(hz i).1;have hz2:=(hz i).2;have bE:(i:Int)<(len:Int):=by{omega};clear hcell hz hab;go_enter Tryz.func55,Tryz.ntmps55;go_wp2;go_quiet (fail);go_wp2;go_quiet (fail);go_wp2;go_quiet (fail);go_wp2;go_ret;exact⟨_,rfl,(Wd.iI _).1,(Wd.iI _).2,HC.out.two _ _ i (by omega)⟩};have bE:¬(i:Int)<(len:Int):=by{omega};go_enter Tryz.func55,Tryz.ntmps55;go_wp2;go_quiet (fail);go_wp2;go_quiet (fail);go_wp2;go_ret;exact⟨_,rfl,(Wd.iI _).1,(Wd.iI _).2,by rw[World.drewN_drewN];exact HC.out.one _ _⟩
end
section
open Go.RowKit
theorem oJ (a:Option Addr)(len cap:Nat)(zs:List Int)(w:World)(hb:Bytes w a len zs):Calls Tryz.prog 26 #[.slice a len cap] w fun e w'=>e= .returned (.pointer (some ⟨w.heap.size,0,none⟩))/\gG w' w.heap.size a len cap zs/\w.grownBy w' none:=by have HB:Hid (Bytes w a len zs):=hb;obtain⟨hlen,hrow⟩:=hb;unfold maxLen at hlen;go_enter Tryz.func26,Tryz.ntmps26;go_wp2;go_loop [3,4] (fun h i=>∃k:Nat,k<=len/\i= .int .i64 k/\∃v:Int,h= .int .i64 v) (fun _ i=>len-(intOf i).toNat);(case atStart=>exact⟨0,Nat.zero_le _,rfl,_,rfl⟩);case round=>obtain⟨k,hk,rfl,v,rfl⟩:=hrel;by_cases hlt:k<len;{rcases hrow with rfl|⟨b,off,rfl,hb,hcell,hz⟩;{omega};have hcj:=hcell k hlt;have bE:(k:Int)<(len:Int):=by{omega};clear hcell hz;go_wp2;go_round;(case rel=>exact⟨k+1,by omega,by go_num,_,rfl⟩);case measure=>simp[intOf];omega};have bE:¬(k:Int)<(len:Int):=by{omega};clear hrow;go_wp2;go_ret;exact⟨rfl,gG.new cap HB.out v _,World.grownBy_alloc _ _ _⟩
theorem Et {x n:Int}(h0:0<=x)(h1:x<=4294967295)(hn:0<n):0<=x%n/\x%n<=4294967295/\(x%n<n\/n<=0):=by have a:=Int.emod_nonneg x (show n≠0 by omega);have b:=Int.emod_lt_of_pos x hn;have c:x%n<=x:=by{have:=Int.emod_add_mul_ediv x n;have:=Int.mul_nonneg (show 0<=n by omega) (Int.ediv_nonneg h0 (show 0<=n by omega));omega};exact⟨a,by omega, .inl b⟩
def aM (w w':World)(B:Nat)(a:Option Addr)(len cap:Nat)(zs:List Int):Prop:=gG w' B a len cap zs/\w.grownBy w' (some B)
theorem aM.andThen {w w1 w2:World}{B:Nat}{a:Option Addr}{len cap:Nat}{zs:List Int}(h:aM w w1 B a len cap zs)(k:aM w1 w2 B a len cap zs):aM w w2 B a len cap zs:=
 ⟨k.1,dQ h.2 k.2⟩
theorem aM.refl {w:World}{B:Nat}{a:Option Addr}{len cap:Nat}{zs:List Int}(h:gG w B a len cap zs):aM w w B a len cap zs:=⟨h,World.grownBy.refl _ _⟩
theorem iw (B:Nat)(a:Option Addr)(len cap:Nat)(zs:List Int)(w:World)(hc:gG w B a len cap zs):
   Calls Tryz.prog 55 #[.pointer (some ⟨B,0,none⟩)] w fun e w'=>∃x:Int,e= .returned (.int .i64 x)/\0<=x/\x<=255/\aM w w' B a len cap zs:=
 (Ar B a len cap zs w hc).mono fun e w' ⟨x,h1,h2,h3,h4⟩=>⟨x,h1,h2,h3,h4⟩
theorem aD (B:Nat)(a:Option Addr)(len cap:Nat)(zs:List Int)(n:Int)(w:World)(hc:gG w B a len cap zs):Calls Tryz.prog 29 #[.pointer (some ⟨B,0,none⟩), .int .i64 n] w fun e w'=>∃x:Int,e= .returned (.int .i64 x)/\0<=x/\x<=4294967295/\(x<n\/n<=0)/\aM w w' B a len cap zs:=by by_cases h0:n<=0;{go_enter Tryz.func29,Tryz.ntmps29;go_wp2;go_ret;exact⟨0,rfl,by omega,by omega, .inr h0,aM.refl hc⟩};by_cases h1:n<=256;{go_enter Tryz.func29,Tryz.ntmps29;go_wp2_with fail;refine(iw B a len cap zs _ hc).mono ?_;rintro e w1 ⟨x,rfl,hx0,hx1,hd⟩;clear hc;go_wp2;go_ret;obtain⟨m1,m2,m3⟩:=Et hx0 (by omega:x<=4294967295) h0;exact⟨_,rfl,m1,m2,m3,hd⟩};go_enter Tryz.func29,Tryz.ntmps29;go_wp2_with fail;refine(iw B a len cap zs _ hc).mono ?_;rintro e w1 ⟨x,rfl,hx0,hx1,hd⟩;go_wp2_with fail;refine(iw B a len cap zs _ hd.1).mono ?_;rintro e w2 ⟨y,rfl,hy0,hy1,hd2⟩;go_wp2_with fail;refine(iw B a len cap zs _ hd2.1).mono ?_;rintro e w3 ⟨z,rfl,hz0,hz1,hd3⟩;go_wp2_with fail;refine(iw B a len cap zs _ hd3.1).mono ?_;rintro e w4 ⟨v,rfl,hv0,hv1,hd4⟩;go_wp2;go_ret;obtain⟨m1,m2,m3⟩:=Et (x:=x*16777216+y*65536+z*256+v) (by omega) (by omega) h0;exact⟨_,rfl,m1,m2,m3,((hd.andThen hd2).andThen hd3).andThen hd4⟩
end
section
open Go.RowKit
theorem aM.alloc {w w1:World}{B:Nat}{a:Option Addr}{len cap:Nat}{zs:List Int}(h:aM w w1 B a len cap zs)(o:Obj):aM w (w1.alloc o) B a len cap zs:=
 ⟨h.1.kept (World.grownBy_alloc w1 o none) (by simp) (.inr (by simp)),dQ h.2 (World.grownBy_alloc w1 o _)⟩
theorem aM.Od {w w1 w2:World}{B:Nat}{a:Option Addr}{len cap:Nat}{zs:List Int}{o:Obj}(h:aM w w1 B a len cap zs)(h2:aM (w1.alloc o) w2 B a len cap zs)(k:Nat):w2.cell? ⟨w1.heap.size,k,none⟩=(w1.alloc o).cell? ⟨w1.heap.size,k,none⟩:=by have hB:=h.1.1;exact World.grownBy.cell_far h2.2 ⟨w1.heap.size,k,none⟩ (by simp) (by simp only[ne_eq,af];omega)
theorem aM.behind {w w1 w2:World}{B:Nat}{a:Option Addr}{len cap:Nat}{zs:List Int}{o:Obj}(h:aM w w1 B a len cap zs)(h2:aM (w1.alloc o) w2 B a len cap zs):aM w w2 B a len cap zs:=
 (h.alloc o).andThen h2
theorem cz (B:Nat)(a:Option Addr)(len cap:Nat)(zs:List Int)(n:Int)(w:World)(hc:gG w B a len cap zs):Calls Tryz.prog 28 #[.pointer (some ⟨B,0,none⟩), .int .i64 n] w fun e w'=>∃x:Bool,e= .returned (.bool x)/\aM w w' B a len cap zs:=by go_enter Tryz.func28,Tryz.ntmps28;go_wp2_with fail;refine(aD B a len cap zs n _ hc).mono ?_;rintro e w1 ⟨x,rfl,hx0,hx1,hx2,hd⟩;clear hx2;go_wp2;go_ret;exact⟨_,rfl,hd⟩
theorem kP (B:Nat)(a:Option Addr)(len cap:Nat)(zs:List Int)(w:World)(hc:gG w B a len cap zs):Calls Tryz.prog 83 #[.pointer (some ⟨B,0,none⟩)] w fun e w'=>∃x:Int,e= .returned (.int .i64 x)/\0<=x/\x<=4294967295/\aM w w' B a len cap zs:=by go_enter Tryz.func83,Tryz.ntmps83;go_wp2_with fail;refine(aD B a len cap zs 5 _ hc).mono ?_;rintro e w1 ⟨x,rfl,hx0,hx1,hx2,hd⟩;clear hx2;by_cases h0:x=0;{subst h0;go_wp2_with fail;refine(aD B a len cap zs 8 _ (hd.alloc _).1).mono ?_;rintro e w2 ⟨y,rfl,hy0,hy1,hy2,hd2⟩;have ht:=fun k=>hd.Od hd2 k;have hy:y=0\/y=1\/y=2\/y=3\/y=4\/y=5\/y=6\/y=7:=by{omega};clear hy0 hy1 hy2;rcases hy with rfl|rfl|rfl|rfl|rfl|rfl|rfl|rfl;all_goals go_wp2;go_ret;exact⟨_,rfl,by omega,by omega,hd.behind hd2⟩};by_cases h1:x=1;{subst h1;go_wp2_with fail;refine(aD B a len cap zs 4294967296 _ hd.1).mono ?_;rintro e w2 ⟨y,rfl,hy0,hy1,hy2,hd2⟩;clear hy2;go_wp2;go_ret;exact⟨_,rfl,hy0,hy1,hd.andThen hd2⟩};go_wp2_with fail;refine(aD B a len cap zs 12 _ hd.1).mono ?_;rintro e w2 ⟨y,rfl,hy0,hy1,hy2,hd2⟩;clear hy2;go_wp2;go_ret;exact⟨_,rfl,hy0,hy1,hd.andThen hd2⟩
end
def BS (W:World)(n₀:Nat)(v:Value)(xs:List UInt8):Prop:=
 ∃g cap,v= .slice (some ⟨g,0,none⟩) xs.length cap/\n₀<=g/\g<W.heap.size/\xs.length<=cap/\(∀j (h:j<xs.length),W.cell? ⟨g,j,none⟩=some (IV xs[j]))/\(∀j,j<xs.length->W.frozen? ⟨g,j,none⟩=false)
theorem BS.kept {W W':World}{n₀:Nat}{v:Value}{xs:List UInt8}(h:BS W n₀ v xs){row:Option Nat}(hg:W.grownBy W' row)(hr:∀k,row=some k->k<n₀\/W.heap.size<=k):BS W' n₀ v xs:=by obtain⟨g,cap,hv,h0,hlt,hc,hx,hf⟩:=h;(have hne:some g≠row:=fun e=>by rcases hr g e.symm with h|h<;>omega);refine⟨g,cap,hv,h0,aj hlt hg.size,hc,fun j hj=>?_,fun j hj=>?_⟩;{exact(World.cell?_of_block (a:=⟨g,j,none⟩) (hg.block g hlt hne)).trans (hx j hj)};exact(World.frozen?_of_block (a:=⟨g,j,none⟩) (hg.block g hlt hne)).trans (hf j hj)
theorem BS.O5 {W W':World}{n₀ g n cap:Nat}{xs:List UInt8}(h:BS W n₀ (.slice (some ⟨g,0,none⟩) n cap) xs){row:Option Nat}(hg:W.grownBy W' row)(hne:some g≠row):BS W' n₀ (.slice (some ⟨g,0,none⟩) n cap) xs:=by obtain⟨g',cap',hv,h0,hlt,hc,hx,hf⟩:=h;cases hv;refine⟨g,cap,rfl,h0,aj hlt hg.size,hc,fun j hj=>?_,fun j hj=>?_⟩;{exact(World.cell?_of_block (a:=⟨g,j,none⟩) (hg.block g hlt hne)).trans (hx j hj)};exact(World.frozen?_of_block (a:=⟨g,j,none⟩) (hg.block g hlt hne)).trans (hf j hj)
theorem BS.mono {W:World}{n₀ n₁:Nat}{v:Value}{xs:List UInt8}(h:BS W n₁ v xs)(hn:n₀<=n₁):BS W n₀ v xs:=by obtain⟨g,cap,hv,h0,r⟩:=h;exact⟨g,cap,hv,Nat.le_trans hn h0,r⟩
theorem BS.qM {W:World}{n₀ g n cap:Nat}{xs:List UInt8}(h:W.ownsRow n₀ 5 1 (.slice (some ⟨g,0,none⟩) n cap) n (xs.map IV)):BS W n₀ (.slice (some ⟨g,0,none⟩) n cap) xs:=by have hn:n=xs.length:=by{have:=h.1;simp at this;omega};subst hn;have hcs:=h.cells (g:=g) rfl;rcases h.2 with⟨h0,_⟩|⟨g',cap',cur,hv,hb,hg,hc,hm,hs,ht⟩;{cases h0};cases hv;refine⟨g,cap,rfl,hb,(Array.getElem?_eq_some_iff.1 hg).1,hc,fun j hj=>?_,fun j hj=>?_⟩;{have:=hcs j (IV xs[j]) (by simp[hj]);rwa [show(⟨g,0,none⟩:Addr).add j=⟨g,j,none⟩from by unfold Addr.add;split<;>simp_all]at this};simp[World.frozen?,hg]
theorem BS.take {W:World}{n₀ g n cap k:Nat}{xs:List UInt8}(h:BS W n₀ (.slice (some ⟨g,0,none⟩) n cap) xs)(hk:k<=n):BS W n₀ (.slice (some ⟨g,0,none⟩) k cap) (xs.take k):=by obtain⟨g',cap',hv,h0,hlt,hc,hx,hf⟩:=h;cases hv;have hl:(xs.take k).length=k:=by{simp;omega};refine⟨g,cap,by rw[hl],h0,hlt,by omega,fun j hj=>?_,fun j hj=>?_⟩;{have:=hx j (by omega);rw[this,List.getElem_take]};exact hf j (by omega)
theorem BS.set {W:World}{n₀ g n cap k:Nat}{xs:List UInt8}(h:BS W n₀ (.slice (some ⟨g,0,none⟩) n cap) xs)(hk:k<n)(b:UInt8):BS (W.setCell ⟨g,k,none⟩ (IV b)) n₀ (.slice (some ⟨g,0,none⟩) n cap) (xs.set k b):=by obtain⟨g',cap',hv,h0,hlt,hc,hx,hf⟩:=h;cases hv;refine⟨g,cap,by simp,h0,by simpa[World.setCell]using hlt,by simpa using hc,fun j hj=>?_,fun j hj=>?_⟩;{have hj':j<xs.length:=by{simpa using hj};by_cases e:k=j;{subst e;rw[World.cell?_setCell_same' _ _ _ (by rw[hx k hk];rfl)];simp};rw[World.cell?_setCell_other _ _ _ _ (by simp),hx j hj'];simp[e]};rw[World.frozen?_setCell];exact hf j (by simpa using hj)
theorem BS.alloc {W:World}{n₀ g n cap:Nat}{xs:List UInt8}(h:BS W n₀ (.slice (some ⟨g,0,none⟩) n cap) xs)(o:Obj):BS (W.alloc o) n₀ (.slice (some ⟨g,0,none⟩) n cap) xs:=h.O5 (World.grownBy_alloc W o none) (by simp)
theorem aM.fresh {w w1 w2:World}{B:Nat}{a:Option Addr}{len cap:Nat}{zs:List Int}(h:aM w w1 B a len cap zs){g:Nat}(hBw:B<w.heap.size)(hg:w1.grownBy w2 (some g))(h0:w.heap.size<=g):aM w w2 B a len cap zs:=by refine⟨h.1.kept hg (by simp only[ne_eq,af];omega) ?_,?_⟩;{exact h.1.2.1.imp_right fun hab x e h'=>by have:=hab x e;simp only[af]at h';omega};exact⟨hg.os.trans h.2.os,hg.tape.trans h.2.tape,hg.output.trans h.2.output,Nat.le_trans h.2.size hg.size,fun i hi hn=>(hg.block i (aj hi h.2.size) (by simp only[ne_eq,af];omega)).trans (h.2.block i hi hn)⟩
theorem aM.plain {w w1 w2:World}{B:Nat}{a:Option Addr}{len cap:Nat}{zs:List Int}(h:aM w w1 B a len cap zs)(hg:w1.grownBy w2 none):aM w w2 B a len cap zs:=
 ⟨h.1.kept hg (by simp) (.inr (by simp)),⟨hg.os.trans h.2.os,hg.tape.trans h.2.tape,hg.output.trans h.2.output,Nat.le_trans h.2.size hg.size,fun i hi hn=>(hg.block i (aj hi h.2.size) (by simp)).trans (h.2.block i hi hn)⟩⟩
section
open Go.RowKit
def pU (w:World)(B:Nat)(a:Option Addr)(len cap:Nat)(zs:List Int)(i:Nat)(h:Int):Prop:=
 gG w B a len cap zs/\i<=len/\w.cell? ⟨B,1,none⟩=some (.int .i64 i)/\w.cell? ⟨B,2,none⟩=some (.int .i64 h)
theorem pU.of {w:World}{B:Nat}{a:Option Addr}{len cap:Nat}{zs:List Int}(hc:gG w B a len cap zs):∃i h,pU w B a len cap zs i h:=by obtain⟨i,hi,hc1⟩:=hc.2.2.2.2.2.2.1;obtain⟨h,hc2⟩:=hc.2.2.2.2.2.2.2;exact⟨i,h,hc,hi,hc1,hc2⟩
def nh (h:Int):Nat:=(h%9007199254740992).toNat
theorem FJ (h:Int):((nh h:Nat):Int)=h%9007199254740992:=Int.toNat_of_nonneg (Int.emod_nonneg _ (by decide))
theorem qV (y:Int):wrap64 y%9007199254740992=y%9007199254740992:=by have e:wrap64 y=y-18446744073709551616*((y+9223372036854775808) / 18446744073709551616):=by{unfold wrap64;omega};rw[e,show(18446744073709551616:Int)=9007199254740992*2048 from rfl,Int.mul_assoc,Int.sub_mul_emod_self_left]
def turn (h:Int):Int:=wrap64 (wrap64 (h*6364136223846793005)+1442695040888963407)
theorem BB (h:Int):nh (turn h)=oK.T (nh h):=by apply Int.ofNat_inj.1;have e1:((nh (turn h):Nat):Int)=((h%9007199254740992)*5053549999652653+1543160130404687)%9007199254740992:=by{rw[FJ,turn,qV,Int.add_emod,qV,Int.mul_emod];rw[Int.add_emod ((h%9007199254740992)*5053549999652653),Int.mul_emod (h%9007199254740992),Int.emod_emod];rfl};have e2:((oK.T (nh h):Nat):Int)=(5053549999652653*(nh h:Int)+1543160130404687)%9007199254740992:=by{show(((5053549999652653*nh h+1543160130404687)%9007199254740992:Nat):Int)=_;rw[Int.natCast_emod,Int.natCast_add,Int.natCast_mul];rfl};rw[e1,e2,FJ,Int.mul_comm]
theorem xY (a b:Nat):(a ^^^ b)%2=(a+b)%2:=by have h:=Nat.testBit_xor a b 0;simp only[Nat.testBit_zero]at h;rcases Nat.mod_two_eq_zero_or_one a with ha|ha<;>rcases Nat.mod_two_eq_zero_or_one b with hb|hb<;>rcases Nat.mod_two_eq_zero_or_one (a ^^^ b)with hc|hc<;>simp[ha,hb,hc]at h<;>omega
theorem EC (y:Int):wrap64 y%2=y%2:=by have e:wrap64 y=y-18446744073709551616*((y+9223372036854775808) / 18446744073709551616):=by{unfold wrap64;omega};rw[e];generalize(y+9223372036854775808) / 18446744073709551616=k;omega
theorem Bq (u:Int):(((u%18446744073709551616).toNat:Nat):Int)%2=u%2:=by rw[Int.toNat_of_nonneg (Int.emod_nonneg _ (by decide))];exact Int.emod_emod_of_dvd u ⟨9223372036854775808,by decide⟩
theorem xL (u:Int):(BitVec.ofInt 64 u).toNat=(u%18446744073709551616).toNat:=by rw[BitVec.toNat_ofInt];rfl
theorem Hf (u v:Int):(bits .xor .i64 u v)%2=(u+v)%2:=by have e2:=xY (u%18446744073709551616).toNat (v%18446744073709551616).toNat;have l1:=Bq u;have l2:=Bq v;have e0:bits .xor .i64 u v=IntKind.i64.wrap (((BitVec.ofInt 64 u ^^^ BitVec.ofInt 64 v).toNat:Nat):Int):=rfl;rw[e0,IntWalk.i64_left,EC,BitVec.toNat_xor,xL,xL];generalize(u%18446744073709551616).toNat ^^^ (v%18446744073709551616).toNat=z at*;generalize(u%18446744073709551616).toNat=a at*;generalize(v%18446744073709551616).toNat=b at*;omega
theorem rX (B:Nat)(a:Option Addr)(len cap:Nat)(zs:List Int)(h:Int)(w:World)(hc:pU w B a len cap zs len h):Calls Tryz.prog 55 #[.pointer (some ⟨B,0,none⟩)] w fun e w'=>∃x:Int,e= .returned (.int .i64 x)/\0<=x/\x<=255/\x%2=oK.par (nh (turn h))/\pU w' B a len cap zs len (turn h)/\w.grownBy w' (some B):=by obtain⟨hC,hi,hc1,hc2⟩:=hc;have HC:Hid (gG w B a len cap zs):=hC;obtain⟨hB,hab,⟨hlen,hrow⟩,hc0,hf1,hf2,-,-⟩:=hC;unfold maxLen at hlen;have bE:¬(len:Int)<(len:Int):=by{omega};go_enter Tryz.func55,Tryz.ntmps55;go_wp2;go_quiet (fail);go_wp2;go_quiet (fail);go_wp2;go_ret;refine⟨_,rfl,(Wd.iI _).1,(Wd.iI _).2,?_,?_⟩;{rw[Wd.Ot];have h2:=Hf (turn h / 8589934592) (turn h / 35184372088832);unfold turn at h2;unfold oK.par nh turn;generalize wrap64 (wrap64 (h*6364136223846793005)+1442695040888963407)=y at*;omega};rw[World.drewN_drewN];obtain⟨k1,k2⟩:=HC.out.one (turn h) (_+_);exact⟨⟨k1,Nat.le_refl _,by go_simp,by go_simp;rfl⟩,k2⟩
end
section
open Go.RowKit
theorem pU.two {w:World}{B:Nat}{a:Option Addr}{len cap:Nat}{zs:List Int}(hc:gG w B a len cap zs)(v:Int)(n:Nat)(j:Nat)(hj:j+1<=len)(h1:w.cell? ⟨B,1,none⟩=some (.int .i64 j))(h2:∃y,w.cell? ⟨B,2,none⟩=some (.int .i64 y)):pU (((w.setCell ⟨B,2,none⟩ (.int .i64 v)).drewN n).setCell ⟨B,1,none⟩ (.int .i64 (j+1))) B a len cap zs (j+1) v/\w.grownBy (((w.setCell ⟨B,2,none⟩ (.int .i64 v)).drewN n).setCell ⟨B,1,none⟩ (.int .i64 (j+1))) (some B):=by obtain⟨k1,k2⟩:=hc.two v n j hj;obtain⟨y,hy⟩:=h2;obtain⟨hB,-,-,hc0,hf1,hf2,-,-⟩:=id hc;exact⟨⟨k1,hj,by go_simp,by go_simp⟩,k2⟩
theorem uM (B:Nat)(a:Option Addr)(len cap:Nat)(zs:List Int)(i:Nat)(h:Int)(w:World)(hc:pU w B a len cap zs i h)(hlt:i<len):Calls Tryz.prog 55 #[.pointer (some ⟨B,0,none⟩)] w fun e w'=>∃x:Int,e= .returned (.int .i64 x)/\0<=x/\x<=255/\pU w' B a len cap zs (i+1) (turn h)/\w.grownBy w' (some B):=by obtain⟨hC,hi,hc1,hc2⟩:=hc;have HC:Hid (gG w B a len cap zs):=hC;have HC1:Hid (w.cell? ⟨B,1,none⟩=some (.int .i64 i)/\∃y,w.cell? ⟨B,2,none⟩=some (.int .i64 y)):=⟨hc1,h,hc2⟩;obtain⟨hB,hab,⟨hlen,hrow⟩,hc0,hf1,hf2,-,-⟩:=hC;unfold maxLen at hlen;rcases hrow with rfl|⟨b,off,rfl,hb,hcell,hz⟩;{omega};have hcj:=hcell i hlt;have hne:b<B:=hab.elim (fun h=>by omega) fun h=>h _ rfl;have hz1:=(hz i).1;have hz2:=(hz i).2;have bE:(i:Int)<(len:Int):=by{omega};clear hcell hz hab;go_enter Tryz.func55,Tryz.ntmps55;go_wp2;go_quiet (fail);go_wp2;go_quiet (fail);go_wp2;go_quiet (fail);go_wp2;go_ret;exact⟨_,rfl,(Wd.iI _).1,(Wd.iI _).2,pU.two HC.out _ _ i (by omega) HC1.out.1 HC1.out.2⟩
namespace oK
def Rk (h n:Nat):Prop:=∃k,k%2=0/\k<=n/\¬par (iter T k (T h))=1
theorem Ai (h:Nat):Rk h Db:=by obtain⟨k,h1,h2,h3⟩:=stops (T h) (Eu JC h);exact⟨k,h1,Nat.le_of_lt h2,h3⟩
theorem KS {f:Nat->Nat}{p:Nat->Prop}{h n:Nat}(hk:∃k,k%2=0/\k<=n/\¬p (iter f k (f h)))(hp:p (f h)):2<=n/\∃k,k%2=0/\k<=n-2/\¬p (iter f k (f (f (f h)))):=by obtain⟨k,h1,h2,h3⟩:=hk;have hn:k≠0:=by{rintro rfl;exact h3 hp};obtain⟨k',rfl⟩:∃k',k=k'+2:=⟨k-2,by omega⟩;rw[F5]at h3;exact⟨by omega,k',by omega,by omega,h3⟩
theorem LH {h n:Nat}(hk:Rk h n)(hp:par (T h)=1):2<=n/\Rk (T (T h)) (n-2):=KS (p:=fun x=>par x=1) hk hp
end oK
def KD (len i:Nat)(h:Int)(m:Nat):Prop:=(i<len/\(len-i)+oK.Db+1<=m)\/(i=len/\∃r,oK.Rk (nh h) r/\r<=m)
def AL (len i:Nat)(h:Int)(m:Nat):Prop:=(len-i)+oK.Db<m\/(i=len/\∃r,r<m/\oK.Rk (oK.T (nh h)) r)
theorem KD.next {len i:Nat}{h:Int}{m:Nat}(hf:KD len i h m)(hi:i<len):AL len (i+1) (turn h) m:=by left;rcases hf with⟨-,hf⟩|⟨rfl,-⟩<;>omega
theorem KD.jJ {len:Nat}{h:Int}{m:Nat}(hf:KD len len h m)(hp:oK.par (nh (turn h))=1):AL len len (turn h) m:=by right;rcases hf with⟨hf,-⟩|⟨-,r,hr,hf⟩;{omega};rw[BB]at hp ⊢;obtain⟨h2,h3⟩:=oK.LH hr hp;exact⟨rfl,r-2,by omega,h3⟩
theorem AL.next {len i:Nat}{h:Int}{m:Nat}(hf:AL len i h m)(hi:i<len):∃m',m'<m/\KD len (i+1) (turn h) m':=by rcases hf with hf|⟨rfl,-⟩;{refine⟨_,hf,?_⟩;by_cases e:i+1=len;{exact .inr ⟨e,oK.Db,oK.Ai _,by omega⟩};exact .inl ⟨by omega,by omega⟩};omega
theorem AL.out {len:Nat}{h:Int}{m:Nat}(hf:AL len len h m):∃m',m'<m/\KD len len (turn h) m':=by rcases hf with hf|⟨-,r,hm,hr⟩;{exact⟨oK.Db,by omega, .inr ⟨rfl,oK.Db,oK.Ai _,Nat.le_refl _⟩⟩};exact⟨r,hm, .inr ⟨rfl,r,by rw[BB];exact hr,Nat.le_refl _⟩⟩
def tH (w:World)(B:Nat)(a:Option Addr)(len cap:Nat)(zs:List Int)(m:Nat):Prop:=∃i h,pU w B a len cap zs i h/\KD len i h m
def AO (w:World)(B:Nat)(a:Option Addr)(len cap:Nat)(zs:List Int)(m:Nat):Prop:=∃i h,pU w B a len cap zs i h/\AL len i h m
theorem gG.few {w:World}{B:Nat}{a:Option Addr}{len cap:Nat}{zs:List Int}(hc:gG w B a len cap zs):tH w B a len cap zs (len+oK.Db+1):=by obtain⟨i,h,hA⟩:=pU.of hc;refine⟨i,h,hA,?_⟩;have hi:=hA.2.1;by_cases e:i=len;{exact .inr ⟨e,oK.Db,oK.Ai _,by omega⟩};exact .inl ⟨by omega,by omega⟩
theorem Ga (B:Nat)(a:Option Addr)(len cap:Nat)(zs:List Int)(m:Nat)(w:World)(hc:tH w B a len cap zs m):Calls Tryz.prog 55 #[.pointer (some ⟨B,0,none⟩)] w fun e w'=>∃x:Int,e= .returned (.int .i64 x)/\0<=x/\x<=255/\(x%10=7->AO w' B a len cap zs m)/\aM w w' B a len cap zs:=by obtain⟨i,h,hA,hf⟩:=hc;by_cases hi:i<len;{exact(uM B a len cap zs i h w hA hi).mono fun e w' ⟨x,he,h0,h1,hA',hg⟩=>⟨x,he,h0,h1,fun _=>⟨_,_,hA',hf.next hi⟩,hA'.1,hg⟩};have hil:i=len:=by{have:=hA.2.1;omega};subst hil;exact(rX B a i cap zs h w hA).mono fun e w' ⟨x,he,h0,h1,hp,hA',hg⟩=>⟨x,he,h0,h1,fun h7=>⟨_,_,hA',hf.jJ (by omega)⟩,hA'.1,hg⟩
theorem CX (B:Nat)(a:Option Addr)(len cap:Nat)(zs:List Int)(m:Nat)(w:World)(hc:AO w B a len cap zs m):Calls Tryz.prog 55 #[.pointer (some ⟨B,0,none⟩)] w fun e w'=>∃x:Int,e= .returned (.int .i64 x)/\0<=x/\x<=255/\(∃m',m'<m/\tH w' B a len cap zs m')/\aM w w' B a len cap zs:=by obtain⟨i,h,hA,hf⟩:=hc;by_cases hi:i<len;{exact(uM B a len cap zs i h w hA hi).mono fun e w' ⟨x,he,h0,h1,hA',hg⟩=>⟨x,he,h0,h1,(let⟨m',hm,hf'⟩:=hf.next hi;⟨m',hm,_,_,hA',hf'⟩),hA'.1,hg⟩};have hil:i=len:=by{have:=hA.2.1;omega};subst hil;exact(rX B a i cap zs h w hA).mono fun e w' ⟨x,he,h0,h1,hp,hA',hg⟩=>⟨x,he,h0,h1,(let⟨m',hm,hf'⟩:=hf.out;⟨m',hm,_,_,hA',hf'⟩),hA'.1,hg⟩
theorem yA (B:Nat)(a:Option Addr)(len cap:Nat)(zs:List Int)(m:Nat)(w:World)(hc:tH w B a len cap zs m):Calls Tryz.prog 29 #[.pointer (some ⟨B,0,none⟩), .int .i64 10] w fun e w'=>∃x:Int,e= .returned (.int .i64 x)/\0<=x/\x<10/\(x=7->AO w' B a len cap zs m)/\aM w w' B a len cap zs:=by have hcon:=Ga B a len cap zs m w hc;clear hc;go_enter Tryz.func29,Tryz.ntmps29;go_wp2_with fail;refine hcon.mono ?_;rintro e w1 ⟨x,rfl,hx0,hx1,h7,hd⟩;clear hcon;have H7:Hid (x%10=7->AO w1 B a len cap zs m):=h7;clear h7;go_wp2;go_ret;exact⟨_,rfl,by omega,by omega,H7.out,hd⟩
theorem AJ (B:Nat)(a:Option Addr)(len cap:Nat)(zs:List Int)(m:Nat)(n:Int)(hn0:0<n)(hn1:n<=256)(w:World)(hc:AO w B a len cap zs m):Calls Tryz.prog 29 #[.pointer (some ⟨B,0,none⟩), .int .i64 n] w fun e w'=>∃x:Int,e= .returned (.int .i64 x)/\0<=x/\x<n/\(∃m',m'<m/\tH w' B a len cap zs m')/\aM w w' B a len cap zs:=by have hcon:=CX B a len cap zs m w hc;clear hc;go_enter Tryz.func29,Tryz.ntmps29;go_wp2_with fail;refine hcon.mono ?_;rintro e w1 ⟨x,rfl,hx0,hx1,h7,hd⟩;clear hcon;have H7:Hid (∃m',m'<m/\tH w1 B a len cap zs m'):=h7;clear h7;go_wp2;go_ret;exact⟨_,rfl,Int.emod_nonneg _ (by omega),Int.emod_lt_of_pos _ hn0,H7.out,hd⟩
end
section
open Go.RowKit
namespace Lb
def V4:Nat->List UInt8->Option (List UInt8)
 |0,_=>none
 |_+1,[]=>none
 |k+1,b::r=>if b.toNat<128 then some [b]else(V4 k r).map (b::·)
def val:List UInt8->Nat
 |[]=>0
 |b::r=>b.toNat%128+128*val r
def rest (s:ByteArray)(aI:Int):List UInt8:=if aI<0 then[]else s.data.toList.drop aI.toNat
theorem rY (s:ByteArray)(a:Int):(rest s a).length<=s.size:=by have e:s.data.toList.length=s.size:=by{simp};unfold rest;split;{simp};simp only[List.length_drop];omega
theorem Iw (n:Int)(h0:0<=n)(h1:n<2 ^ 40):IntKind.i64.wrap n=n:=by rw[IntKind.wrap_i64];omega
theorem IP {n m:Nat}(hn:n<2 ^ 40)(hm:m<2 ^ 40):bits .or .i64 n m=((n|||m:Nat):Int):=(bits_nat .i64 40 (by decide) Iw n m hn hm).2
def part (x:UInt8)(pre:List UInt8):Nat:=x.toNat%128*128 ^ pre.length
end Lb
end
section
open Go.RowKit
namespace Lb
def sgn (t:List UInt8):Int:=if(val t:Int) / 2 ^ (7*t.length-1)=1 then(val t:Int)-2 ^ (7*t.length)else val t
end Lb
end
section
open Go.RowKit
variable {P : Program} {ops : Array Oper} {md : Region.Mode} {C : World → Prop} {n : Nat}
def jU (P:Program)(md:Region.Mode)(ops:Array Oper)(C:World->Prop)(n:Nat)(L:Array Bool->Act->Prop):Nat->Array Bool->Act->Prop
 |0,l,a=>L l a
 |f+1,l,a=>Region.ready md ops l≠[]/\∀i,i∈Region.ready md ops l->i<n/\qOp P ops C i (jU P md ops C n L f (l.setIfInBounds i true)) a
theorem jU.any {L:Array Bool->Act->Prop}{Q:Exit->Act->World->Prop}{g:Nat}(hL:∀l a w,C w->L l a->wpAny P md ops Q g l a w)(f:Nat):∀(l:Array Bool)(a:Act)(w:World),C w->jU P md ops C n L f l a->wpAny P md ops Q (f+g) l a w:=by
 induction f with
 |zero=>intro l a w hw h;rw[Nat.zero_add];exact hL l a w hw h
 |succ f ih=>
  intro l a w hw h
  rw[show f+1+g=(f+g)+1 by omega]
  refine⟨fun e=>absurd e h.1,fun i hi=>?_⟩
  exact wpOp_of_qOp hw (fun a' w' hw' h'=>ih _ a' w' hw' h') (h.2 i hi).2
theorem jo {l:Array Bool}(hs:Region.sinkB md ops n=true)(hc:Region.chainB md ops n=true)(hn:n<ops.size)(inv:HeadInv md ops n l){i:Nat}(hi:i<n)(hun:l.getD i true=false){j:Nat}(hj:j∈Region.ready md ops l):j<n:=by refine Nat.lt_of_not_le fun h=>?_;exact tail_waits hs hc hn inv (n-i) i rfl hi hun j h hj
theorem jU.first {L:Array Bool->Act->Prop}{i:Nat}{o:Oper}{v:Value}(mG:ops[i]?=some o)(hsel:∀(j:Nat)(o:Oper) cs b,ops[j]?=some o->o.op≠ .select cs b)(hs:Region.sinkB md ops n=true)(hc:Region.chainB md ops n=true)(hn:n<ops.size)(hin:i<n)(hdone:∀l a,L l a->∀j,j∈Region.ready md ops l->n<=j)(f:Nat):∀(l:Array Bool)(a:Act),HeadInv md ops n l->(∀j oj,ops[j]?=some oj->j≠i->l.getD j true=false->(∀e∈oj.after,Region.binds md e=true->e.on≠i)->o.apart ops oj=true)->i∈Region.ready md ops l->YieldsIn P ops C o v a->jU P md ops C n L f (l.setIfInBounds i true) (a.put o.dst v)->jU P md ops C n L (f+1) l a:=by
 induction f with
 |zero=>
  intro l a inv hfree hr hy hH
  refine⟨fun e=>by rw[e]at hr;exact absurd hr List.not_mem_nil,fun j hj=>⟨jo hs hc hn inv hin (mem_ready.1 hr).1 hj,?_⟩⟩
  rcases Nat.decEq j i with hne|he
  · have h1:=hdone _ _ hH j (ready_mono hj hne);have h2:=jo hs hc hn inv hin (mem_ready.1 hr).1 hj;omega
  · subst he;exact hy.qOp mG hH
 |succ f ih=>
  intro l a inv hfree hr hy hH
  have hun:=(mem_ready.1 hr).1
  refine⟨fun e=>by rw[e]at hr;exact absurd hr List.not_mem_nil,fun j hj=>⟨jo hs hc hn inv hin hun hj,?_⟩⟩
  rcases Nat.decEq j i with hne|he
  · obtain⟨hjun,oj,hoj,hall⟩:=mem_ready.1 hj;have hno:∀e∈oj.after,Region.binds md e=true->e.on≠i:=by{intro e he hb heq;have h1:=hall e he hb;rw[heq,getD_both hun]at h1;cases h1};have hstep:=qOp_put hoj (hfree j oj hoj hne hjun hno) (fun cs b=>hsel i o cs b mG) (fun cs b=>hsel j oj cs b hoj) hy (hH.2 j (ready_mono hj hne)).2;refine qOp_mono (fun a' h'=>?_) hstep;refine ih _ a' (inv.set hj (jo hs hc hn inv hin hun hj)) (fun k ok hk hki WN WO=>hfree k ok hk hki ?_ WO) (ready_mono hr (Ne.symm hne)) h'.1 ?_;{by_cases hjk:j=k;{rw[←hjk];exact hjun};rwa [getD_set_ne true hjk]at WN};rw[Array.setIfInBounds_comm _ _ hne];exact h'.2
  · subst he;exact hy.qOp mG hH
theorem jU.lex {g:Nat}{Lq:Act->Prop}(hsel:Region.noSelect ops=true)(hs:Region.sinkB md ops n=true)(hc:Region.chainB md ops n=true)(hn:n<ops.size):
   ∀ (hd:List Oper) (k:Nat) (l:Array Bool) (a:Act),k+hd.length=n->(∀j,j<hd.length->hd[j]?=ops[k+j]?)->HeadInv md ops n l->Region.lexHead md ops g hd.length k l=true->
     wpQuiet P ops C Lq hd a->jU P md ops C n (fun l' a'=>Region.seqB md ops g n l'=true/\Lq a') hd.length l a
 | [],k,l,a,hk,_,_,hB,h=>by
   have e:k=n:=hk
   rw[←e]
   exact⟨hB,h⟩
 | o::hd,k,l,a,hk,hl,inv,hB,h=>by
   rw[List.length_cons]at hk
   have h0:ops[k]?=some o:=(hl 0 (by simp)).symm
   simp only[List.length_cons,Region.lexHead,au]at hB
   have hr:k∈Region.ready md ops l:=by simpa using hB.1.1
   have hq:qOp P ops C k (wpQuiet P ops C Lq hd) a:=by unfold qOp;simp only[h0];exact h
   obtain⟨v,hy,hrest⟩:=yieldsIn_of_qOp h0 hq
   refine jU.first h0 (Region.noSelect_spec hsel) hs hc hn (by omega) (fun l' a' hL=>seqB_ready hL.1) hd.length l a inv (Region.free_spec h0 hB.1.2) hr hy ?_
   refine jU.lex hsel hs hc hn hd (k+1) _ _ (by omega) (fun j hj=>?_) (inv.set hr (by omega)) hB.2 hrest
   have:=hl (j+1) (by simp;omega)
   rw[show k+1+j=k+(j+1)by omega,←this]
   rfl
theorem dO {id:Nat}{Q:Exit->Act->World->Prop}{a:Act}{w:World}{l:List Oper}(n:Nat)(hm:P.follows .mixedOrders=true)(hB:Region.lexTailB .any l.toArray n=true)(h:wpQuiet P l.toArray (fun w'=>∃p:bV w,w'=p.to) (fun a'=>∀w',(∃p:bV w,w'=p.to)->wpList P l.toArray Q (l.drop n) a' w') (l.take n) a):(Code.region id l.toArray true).wp P Q a w:=by
 simp only[Region.lexTailB,au,decide_eq_true_eq]at hB
 obtain⟨⟨⟨⟨hsel,hn⟩,hs⟩,hc⟩,hlex⟩:=hB
 have hnl:n<l.length:=by simpa using hn
 have e1:(l.take n).length=n:=by rw[List.length_take];omega
 have e2:(l.drop n).length=l.toArray.size-n:=by rw[List.length_drop];simp
 have inv:HeadInv .any l.toArray n (Array.replicate l.toArray.size false):=by refine⟨by simp,fun j oj _ hl=>?_,fun t _ ht=>getD_in (by simpa using ht) (getD_replicate_false _ _)⟩;rw[getD_replicate_false]at hl;cases hl
 have H:=jU.lex (md:= .any) (g:=l.toArray.size-n) hsel hs hc hn (l.take n) 0 _ a (by rw[e1];omega) (fun j hj=>by rw[e1]at hj;simp[hj]) inv (by rw[e1];exact hlex) h
 have R:=jU.any (Q:=Q) (g:=l.toArray.size-n) (fun l' a' w' hw' hL=>by
  have:=wpAny_of_seq (md:= .any) (Q':=Q) (l.drop n) n l' a' w' (fun j=>by simp[List.getElem?_drop]) (by rw[e2];exact hL.1) (hL.2 w' hw')
  rwa [e2]at this) (l.take n).length _ a {w with drawn:=w.drawn+1} ⟨⟨w.drew,(Below.refl _ w).drew⟩,rfl⟩ H
 rw[e1,show n+(l.toArray.size-n)=l.toArray.size by omega]at R
 exact wp_region_any hm R
end
section
open Go.RowKit
variable {P : Program} {ops : Array Oper} {md : Region.Mode} {Q : Exit → Act → World → Prop} {n : Nat}
theorem aN {b:Act}{t:Nat}{v:Value}(h:b.eval (.tmp t)=v):b.tmps[t]?.getD undef=v:=by simpa[Act.eval]using h
def BL (n:Nat)(l:Array Bool):Nat:=((List.range n).filter fun i=> !l.getD i true).length
theorem jc (n:Nat)(l:Array Bool):BL (n+1) l=BL n l+(if l.getD n true=false then 1 else 0):=by unfold BL;rw[List.range_succ,List.filter_append,List.length_append];congr 1;cases h:l.getD n true<;>simp only[List.filter,h]<;>rfl
theorem rf {i:Nat}{l:Array Bool}:∀n,n<=i->BL n (l.setIfInBounds i true)=BL n l
 |0,_=>rfl
 |n+1,h=>by rw[jc,jc,rf n (by omega),getD_set_ne true (by omega)]
theorem BR {i:Nat}{l:Array Bool}(hs:l.getD i true=false):∀n,i<n->BL n (l.setIfInBounds i true)+1=BL n l
 |0,h=>by omega
 | n + 1,h=>by
   rw[jc,jc]
   by_cases e:i=n
   · subst e
     rw[rf i (Nat.le_refl _),hs]
     have hi:i<l.size:=by
       rcases Nat.lt_or_ge i l.size with h'|h'
       · exact h'
       · simp[Array.getElem?_eq_none h']at hs
     have e2:(l.setIfInBounds i true).getD i true=true:=by simp[hi]
     rw[e2]
     simp
   · rw[←BR hs n (by omega),getD_set_ne true e]
     omega
theorem za {l:Array Bool}(h:BL n l=0)(i:Nat)(hi:i<n):l.getD i true=true:=by unfold BL at h;have h2:=List.filter_eq_nil_iff.1 (List.length_eq_zero_iff.1 h) i (List.mem_range.2 hi);simpa using h2
theorem H9 {l:Array Bool}(h:BL n l≠0):∃i,i<n/\l.getD i true=false/\∀j,j<i->l.getD j true=true:=by
 induction n with
 |zero=>exact absurd rfl h
 |succ n ih=>
  by_cases e:BL n l=0
  · rw[jc,e]at h;refine⟨n,by omega,?_,fun j hj=>za e j hj⟩;cases h2:l.getD n true;{rfl};rw[h2]at h;simp at h
  · obtain⟨i,h1,h2,h3⟩:=ih e;exact⟨i,by omega,h2,h3⟩
theorem Dz (g:Nat)(I:Array Bool->Act->World->Prop)(hs:Region.sinkB md ops n=true)(hc:Region.chainB md ops n=true)(hn:n<ops.size)(hback:∀i o,i<n->ops[i]?=some o->∀e∈o.after,Region.binds md e=true->e.on<i)(hstep:∀l b x i o,HeadInv md ops n l->ops[i]?=some o->i<n->l.getD i true=false->(∀e∈o.after,Region.binds md e=true->l.getD e.on false=true)->I l b x->wpOp P ops Q i (fun b' x'=>I (l.setIfInBounds i true) b' x') b x)(hend:∀l b x,HeadInv md ops n l->(∀i,i<n->l.getD i true=true)->I l b x->wpAny P md ops Q g l b x):∀f l b x,HeadInv md ops n l->BL n l=f->I l b x->wpAny P md ops Q (f+g) l b x:=by
 intro f
 induction f with
 |zero=>intro l b x inv hu hI;rw[Nat.zero_add];exact hend l b x inv (fun i hi=>za hu i hi) hI
 |succ f ih=>
  intro l b x inv hu hI
  rw[show f+1+g=(f+g)+1 by omega]
  obtain⟨i,hin,hun,hmin⟩:=H9 (l:=l) (n:=n) (by omega)
  refine⟨fun h0=>?_,fun j hj=>?_⟩
  · have ho:∃o,ops[i]?=some o:=⟨ops[i]'(by omega),Array.getElem?_eq_getElem (by omega)⟩
    obtain⟨o,ho⟩:=ho
    have:i∈Region.ready md ops l:=mem_ready.2 ⟨hun,o,ho,fun e he hbi=>by
     have h1:=hback i o hin ho e he hbi
     have h2:=hmin e.on h1
     have h3:e.on<l.size:=by rw[inv.size];omega
     simp[h3]at h2 ⊢
     exact h2⟩
    rw[h0]at this
    cases this
  · have hjn:=jo hs hc hn inv hin hun hj;obtain⟨hjun,o,ho,hall⟩:=mem_ready.1 hj;refine wpOp_mono (fun b' x' h'=>ih _ b' x' (inv.set hj hjn) ?_ h') (hstep l b x j o inv ho hjn hjun hall hI);have:=BR hjun n hjn;omega
def JX (l:List Oper)(n:Nat)(ds:List Nat):Bool:=
 decide (ds.length=n)&&ds.Nodup&&(List.range n).all fun i=>match l[i]? with
   |some o=>o.dst==ds[i]?&&o.guard.isNone&&o.after.all fun e=> !Region.binds .any e||decide (e.on<i)
   |none=>false
def DD (size n:Nat):Array Bool:=((List.replicate n true)++List.replicate (size-n) false).toArray
def JU (P:Program)(Q:Exit->Act->World->Prop)(a:Act)(ds:List Nat)(A:World->Prop)(R:World->World->Prop)(F:Nat->Value->World->Prop)(k:Nat)(o:Oper):Prop:=
 ∀ (b:Act) (x:World),A x->(∀t,t∉ds->b.eval (.tmp t)=a.eval (.tmp t))->(∀j,(o.after.any fun e=>Region.binds .any e&&e.on==j)=true->F j (b.eval (.tmp (ds.getD j 0))) x)->
   o.wp P b x (fun b' x'=>∃y,b'=b.put o.dst y/\A x'/\F k y x'/\R x x') Q
def qZ (P:Program)(Q:Exit->Act->World->Prop)(a:Act)(ds:List Nat)(A:World->Prop)(R:World->World->Prop)(F:Nat->Value->World->Prop):Nat->List Oper->Prop
 |_,[]=>True
 |k,o::r=>JU P Q a ds A R F k o/\qZ P Q a ds A R F (k+1) r
theorem qZ.at {a:Act}{ds:List Nat}{A:World->Prop}{R:World->World->Prop}{F:Nat->Value->World->Prop}:∀{r:List Oper}{k:Nat},qZ P Q a ds A R F k r->∀i o,r[i]?=some o->JU P Q a ds A R F (k+i) o
 |[],_,_,i,o,h=>by simp at h
 |q::r,k,h,0,o,e=>by cases e;exact h.1
 | q::r,k,h,i+1,o,e=>by
   have:=qZ.at h.2 i o (by simpa using e)
   rwa [show k+1+i=k+(i+1)by omega]at this
theorem yx (b:Act)(d:Nat)(v:Value)(t:Nat)(hd:d<b.tmps.size):(b.put (some d) v).eval (.tmp t)=if d=t then v else b.eval (.tmp t):=by unfold Act.put Act.eval;by_cases e:d=t;{subst e;simp[hd]};simp[Array.getElem?_setIfInBounds_ne e,e]
theorem uR (f:Nat->Value):∀(ds:List Nat)(a:Act),(ds.foldl (fun a' t=>a'.put (some t) (f t)) a).tmps.size=a.tmps.size/\(ds.foldl (fun a' t=>a'.put (some t) (f t)) a).defers=a.defers/\
   ∀t,(ds.foldl (fun a' t=>a'.put (some t) (f t)) a).tmps[t]?=if t∈ds/\t<a.tmps.size then some (f t)else a.tmps[t]?
 |[],a=>⟨rfl,rfl,fun t=>by simp⟩
 | d ::ds,a=>by
   obtain⟨h1,h2,h3⟩:=uR f ds (a.put (some d) (f d))
   have s1:(a.put (some d) (f d)).tmps.size=a.tmps.size:=by simp[Act.put]
   refine⟨by rw[List.foldl_cons,h1,s1],by rw[List.foldl_cons,h2];rfl,fun t=>?_⟩
   rw[List.foldl_cons,h3 t,s1]
   by_cases e:t∈ds/\t<a.tmps.size
   · rw[ay e,ay ⟨List.mem_cons_of_mem _ e.1,e.2⟩]
   · rw[ax e]
     by_cases e2:t=d
     · subst e2
       by_cases e3:t<a.tmps.size
       · rw[ay ⟨List.mem_cons_self ..,e3⟩]
         simp[Act.put,e3]
       · rw[ax (fun h=>e3 h.2)]
         have h4:a.tmps[t]?=none:=Array.getElem?_eq_none (by omega)
         have h5:(a.put (some t) (f t)).tmps[t]?=none:=Array.getElem?_eq_none (by rw[s1];omega)
         rw[h4,h5]
     · rw[ax (fun h=>by rcases List.mem_cons.1 h.1 with h'|h';exact e2 h';exact e ⟨h',h.2⟩)]
       simp[Act.put,Array.getElem?_setIfInBounds_ne (Ne.symm e2)]
theorem dD {id:Nat}{a:Act}{w:World}{l:List Oper}(n:Nat)(ds:List Nat)(A:World->Prop)(R:World->World->Prop)(F:Nat->Value->World->Prop)(hm:P.follows .mixedOrders=true)(hB:(Region.noSelect l.toArray&&decide (n<l.length)&&Region.sinkB .any l.toArray n&&Region.chainB .any l.toArray n&&JX l n ds&&Region.seqB .any l.toArray (l.length-n) n (DD l.length n))=true)(hsz:∀d∈ds,d<a.tmps.size)(h0:A w.drew)(hR:∀i y x x',R x x'->F i y x->F i y x')(hall:qZ P Q a ds A R F 0 (l.take n))(hend:∀b x,A x->(∀j,j<n->F j (b.eval (.tmp (ds.getD j 0))) x)->b=ds.foldl (fun a' t=>a'.put (some t) (b.eval (.tmp t))) a->wpList P l.toArray Q (l.drop n) b x):(Code.region id l.toArray true).wp P Q a w:=by
 simp only[au,decide_eq_true_eq]at hB
 obtain⟨⟨⟨⟨⟨hsel,hn⟩,hs⟩,hc⟩,hhd⟩,hseq⟩:=hB
 have hn':n<l.toArray.size:=by simpa using hn
 simp only[JX,au,decide_eq_true_eq,List.all_eq_true,List.mem_range]at hhd
 obtain⟨⟨hdl,hnd⟩,hops⟩:=hhd
 have hop:∀i o,i<n->l.toArray[i]?=some o->o.dst=some (ds.getD i 0)/\o.guard=none/\(∀e∈o.after,Region.binds .any e=true->e.on<i)/\ds.getD i 0∈ds:=by intro i o hi ho;have h1:=hops i hi;have ho':l[i]?=some o:=by{simpa using ho};rw[ho']at h1;simp only[au,beq_iff_eq,Option.isNone_iff_eq_none,Array.all_eq_true',decide_eq_true_eq,Bool.or_eq_true,Bool.not_eq_true']at h1;have h2:ds[i]?=some (ds.getD i 0):=by{rw[ah,ai (by omega)];rfl};exact⟨by rw[h1.1.1,h2],h1.1.2,fun e he hbi=>(h1.2 e he).elim (fun h=>by rw[hbi]at h;cases h) (fun h=>h),List.mem_of_getElem? h2⟩
 have hinj:∀i j,i<n->j<n->ds.getD i 0=ds.getD j 0->i=j:=by intro i j hi hj e;rw[ah,ah,ai (by omega),ai (by omega)]at e;have e':ds[i]'(by omega)=ds[j]'(by omega):=e;rcases Nat.lt_trichotomy i j with h|h|h;{exact absurd e' (List.pairwise_iff_getElem.1 hnd i j (by omega) (by omega) h)};{exact h};exact absurd e'.symm (List.pairwise_iff_getElem.1 hnd j i (by omega) (by omega) h)
 let I:Array Bool->Act->World->Prop:=fun q b x=>A x/\b.defers=a.defers/\b.tmps.size=a.tmps.size/\(∀t,t∉ds->b.eval (.tmp t)=a.eval (.tmp t))/\∀j,j<n->q.getD j false=true->F j (b.eval (.tmp (ds.getD j 0))) x
 have inv:HeadInv .any l.toArray n (Array.replicate l.toArray.size false):=by refine⟨by simp,fun j oj _ hl=>?_,fun t _ ht=>getD_in (by simpa using ht) (getD_replicate_false _ _)⟩;rw[getD_replicate_false]at hl;cases hl
 have hu:BL n (Array.replicate l.toArray.size false)=n:=by
  have:∀m,m<=l.toArray.size->BL m (Array.replicate l.toArray.size false)=m:=by
   intro m
   induction m with
   |zero=>intro _;rfl
   |succ m ih=>
    intro hm
    rw[jc,ih (by omega)]
    have:(Array.replicate l.toArray.size false).getD m true=false:=getD_in (by simp at hm ⊢;omega) (getD_replicate_false _ _)
    rw[ay this]
  exact this n (by omega)
 have H := Dz (P:=P) (Q:=Q) (md:= .any) (l.toArray.size-n) I hs hc hn' (fun i o hi ho=>(hop i o hi ho).2.2.1)
   (fun q b x i o hq ho hi hun hafter hI=>by
     obtain⟨hA,hdf,hsize,hfr,hF⟩:=hI
     obtain⟨hd,hg,hb,hmem⟩:=hop i o hi ho
     have zw:=hall.at i o (by rw[List.getElem?_take_of_lt hi];simpa using ho)
     rw[Nat.zero_add]at zw
     have hwp:=zw b x hA hfr (fun j hj=>by
       obtain⟨e,he,hbe⟩:=Array.any_eq_true'.1 hj
       simp only[au,beq_iff_eq]at hbe
       have h1:=hafter e he hbe.1
       have h2:=hb e he hbe.1
       rw[hbe.2]at h1 h2
       exact hF j (by omega) h1)
     unfold wpOp
     simp only[ho]
     have hw:Region.wanted o (yielded l.toArray b.tmps)=true:=by simp[Region.wanted,hg]
     rw[ay hw]
     refine .inl (Oper.wp_mono (fun b' x' h'=>?_) hwp)
     obtain⟨y,rfl,hA',hF',hRx⟩:=h'
     have hds:ds.getD i 0<b.tmps.size:=by rw[hsize];exact hsz _ hmem
     rw[hd]
     refine⟨hA',hdf,by simpa[Act.put]using hsize,fun t ht=>?_,fun j hj hq'=>?_⟩
     · rw[yx _ _ _ _ hds,ax (fun e=>ht (by rw[←e];exact hmem))]
       exact hfr t ht
     · rw[yx _ _ _ _ hds]
       by_cases e:i=j
       · subst e
         rw[ay rfl]
         exact hF'
       · rw[ax (fun e2=>e (hinj i j hi hj e2))]
         rw[getD_set_ne false e]at hq'
         exact hR j _ x x' hRx (hF j hj hq'))
   (fun q b x hq Kc hI=>by
     obtain⟨hA,hdf,hsize,hfr,hF⟩:=hI
     have hqf:q=DD l.length n:=by
       apply Array.ext
       · rw[hq.size];simp[DD];omega
       · intro i h1 h2
         have e1:q.getD i true=q[i]:=by simp[h1]
         have e2:q.getD i false=q[i]:=by simp[h1]
         by_cases e:i<n
         · have:=Kc i e
           rw[e1]at this
           rw[this]
           simp only[DD,List.getElem_toArray]
           rw[List.getElem_append_left (by simpa using e)]
           simp
         · have h3:i<l.toArray.size:=by rw[←hq.size];exact h1
           have:=hq.tail i (by omega) h3
           rw[e1]at this
           rw[this]
           simp only[DD,List.getElem_toArray]
           rw[List.getElem_append_right (by simpa using e)]
           simp
     have hF2:∀j,j<n->F j (b.eval (.tmp (ds.getD j 0))) x:=fun j hj=>hF j hj (by
       have:=Kc j hj
       have h1:j<q.size:=by rw[hq.size];omega
       simp[h1]at this ⊢
       exact this)
     have hbf:b=ds.foldl (fun a' t=>a'.put (some t) (b.eval (.tmp t))) a:=by
       obtain⟨s1,s2,s3⟩:=uR (fun t=>b.eval (.tmp t)) ds a
       have ht:b.tmps=(ds.foldl (fun a' t=>a'.put (some t) (b.eval (.tmp t))) a).tmps:=by
         apply Array.ext_getElem?
         intro t
         rw[s3 t]
         by_cases e:t<a.tmps.size
         · have eb:b.tmps[t]?=some (b.eval (.tmp t)):=by
             have h1:t<b.tmps.size:=by omega
             simp[Act.eval,h1]
           by_cases e2:t∈ds
           · rw[ay ⟨e2,e⟩,eb]
           · rw[ax (fun h=>e2 h.1),eb,hfr t e2]
             simp[Act.eval,e]
         · rw[ax (fun h=>e h.2),Array.getElem?_eq_none (by omega),Array.getElem?_eq_none (by omega)]
       have e3:∀c d:Act,c.tmps=d.tmps->c.defers=d.defers->c=d:=by
         rintro⟨c1,c2⟩ ⟨d1,d2⟩ h1 h2
         simp only at h1 h2
         rw[h1,h2]
       exact e3 _ _ ht (hdf.trans s2.symm)
     have:=hend b x hA hF2 hbf
     rw[hqf]
     have e2:(l.drop n).length=l.toArray.size-n:=by rw[List.length_drop];simp
     have R2:=wpAny_of_seq (md:= .any) (Q':=Q) (l.drop n) n (DD l.length n) b x (fun j=>by simp[List.getElem?_drop]) (by rw[e2];simpa using hseq) this
     rwa [e2]at R2)
   n _ a w.drew inv hu ⟨h0,rfl,rfl,fun t _=>rfl,fun j hj h=>by rw[getD_replicate_false]at h;cases h⟩
 rw[show n+(l.toArray.size-n)=l.toArray.size by omega]at H
 exact wp_region_any hm H
end
end Go.Proofs.YthamlonlgnjljaaGreat
