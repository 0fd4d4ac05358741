/-
  Own texts for a law: Sp3 Hs2 HpA HpP HpQ SpP SpI0 SpI4 Hp0 Hp1 Hp2 Hp3
-/
import Derived.Test.YtpipjiinmhopmaaGreatMA04
namespace Go.Proofs.YtpipjiinmhopmaaGreat
open Go.RowKit Go.Shelf
set_option linter.all false
set_option maxRecDepth 100000
set_option maxHeartbeats 16000000
def Ba (s:Sp.S):List Value:=[.int .i64 s.b, .int .i64 s.f, .int .i64 s.t, .bool s.c]
theorem NV (m k:Nat):((m:Int) / 2 ^ k).tmod 2=if m.testBit k=true then 1 else 0:=by have e:(m:Int) / 2 ^ k=((m / 2 ^ k:Nat):Int):=by{simp};rw[e,Int.tmod_eq_emod_of_nonneg (Int.natCast_nonneg _),Nat.testBit_eq_decide_div_mod_eq];generalize m / 2 ^ k=q;by_cases h:q%2=1;{simp[h];omega};simp[h];omega
theorem gL (a:Option Addr)(len cap:Nat)(ls:List Ln)(hok:Ln.isOk ls=true)(w:World)(hs:LL w a len ls):Calls Tryz.prog 46 #[.slice a len cap] w fun e w'=>∃g n c,e= .returned (.slice (some ⟨g,0,none⟩) n c)/\SG w' w.heap.size g n c (Sp.out ls 40)/\Below w.heap.size w w':=by have hl:=hs.1;have hlen:=Ln.eH hok;rw[hl]at hlen;have hcon:=zn a len cap ls hok w hs;have Od:=ae hs;have gN:=ae hok;have HL:=ae hl;have Oe:=ae (Fl.yw hok).lt;have Cr:(len:Int)<=300:=by{omega};have hl1:(1:Int)<=(len:Int):=by{omega};clear hok hl hlen;go_enter Tryz.func46,Tryz.ntmps46;go_wp2_with fail;refine hcon.mono ?_;rintro e w1 ⟨gi,ci,rfl,hoi,hB1⟩;dsimp only;have hs1:=hs.kept hB1;have hgi:=hoi.lt;have hb2:=aA w1 (.cells #[] 39);have HS:=ae (hs1.kept hb2);have HI:=ae (hoi.kept hb2);have HO:=ae (SG.empty w1 w1.heap.size (Nat.le_refl _));have HB:=ae (hB1.trans (hb2.mono hB1.size));have bq:=hB1.size;clear hcon hs hs1 hoi hB1 hb2;go_wp2;go_loopg [4,5] 40 (fun gk vo vb wr=>∃(k g n c:Nat),gk=40-k/\k<=40/\vo= .slice (some ⟨g,0,none⟩) n c/\vb= .int .i64 (k:Int)/\SG wr w1.heap.size g n c (Sp.out ls k)/\OG wr w.heap.size gi len ci (nz (Fl.live ls))/\LL wr a len ls/\Below w.heap.size w wr/\w1.heap.size<=wr.heap.size);(case atStart=>exact⟨0,_,0,0,rfl,by omega,rfl,rfl,HO.out,HI.out,HS.out,HB.out,by simp⟩);case round=>obtain⟨k,g,n,c,nP,hk,rfl,rfl,hor,hoi,mZ,hBr,hwr⟩:=hrel;obtain⟨w0,rfl⟩:∃x,x=wr:=⟨_,rfl⟩;clear HO HI HS HB;by_cases hlt:k<40;{have bN:(k:Int)<40:=by{omega};have HR:=ae (ak hor (ak hoi (ak mZ (ak hBr hwr))));clear hor hoi mZ hBr;have hal:=aA w0 (.cells (Ba (Sp.row ls k 0)).toArray 39);have HX0:=ae (bu.new w0 (Ba (Sp.row ls k 0)) 39);have RU:=ae hal;clear hal;have MB:(0:Int)<=(k:Int):=by{omega};go_wp2;go_loopg [7] len (fun gj vi wx=>∃(i:Nat),gj=len-i/\i<=len/\vi= .int .i64 (i:Int)/\bu wx w0.heap.size (Ba (Sp.row ls k i))/\Below w0.heap.size w0 wx);(case atStart=>exact⟨0,by omega,by omega,rfl,HX0.out,RU.out⟩);case round=>obtain⟨i,hgj,hi,rfl,hbx,hBx⟩:=hrel;clear HX0 RU;by_cases hil:i<len;{have ain:(i:Int)<(len:Int):=by{omega};have Qr:=HR.out.2.2.1.kept hBx;have hoi:=HR.out.2.1.kept hBx;have mg:=rz a len cap ls gN.out i hil (Fl.live ls) Oe.out w.heap.size gi ci wr Qr hoi;obtain⟨b,off,rfl,hb,hc⟩:=Qr.at hil;have hb0:b<w0.heap.size:=by{obtain⟨b',o',e,h,-⟩:=HR.out.2.2.1.at hil;cases e;exact h};have hbn:¬w0.heap.size=b:=by{omega};have MO:Hid (Sp.ha ls k i=((((Fl.live ls).getD i 0|||Fl.ou ls (Fl.live ls) i).testBit k)||decide (Ln.st (ls.getD i .z)=(k:Int)))):=rfl;have Ct:Hid (Sp.cr ls k i=(decide ((ls.getD i .z).k=7)&&(decide (Ln.st (ls.getD i .z)≠(k:Int))&&(Fl.ou ls (Fl.live ls) i).testBit k))):=rfl;obtain⟨x,hx⟩:∃x,ls.getD i .z=x:=⟨_,rfl⟩;rw[hx]at hc MO Ct;have HX0:Hid (Fl.ou ls (Fl.live ls) i<2 ^ 40):=Fl.uR Oe.out _;obtain⟨X0,hX0⟩:∃X0,Fl.ou ls (Fl.live ls) i=X0:=⟨_,rfl⟩;rw[hX0]at mg MO Ct HX0;have hci:=hoi.cell hil;rw[EQ]at hci;have HZ0:=ae (Oe.out i);obtain⟨Z0,hZ0⟩:∃Z0,(Fl.live ls).getD i 0=Z0:=⟨_,rfl⟩;rw[hZ0]at hci MO HZ0;have hrow:Sp.row ls k (i+1)=Sp.iL ls k i (Sp.row ls k i):=rfl;have HRW:Hid (Sp.row ls k (i+1)=Sp.iL ls k i (Sp.row ls k i)):=hrow;obtain⟨s,hss⟩:∃s,Sp.row ls k i=s:=⟨_,rfl⟩;rw[hss]at hbx HRW;clear hx hX0 hZ0 Qr hrow hss;obtain⟨c0,c1,c2,c3,c4,la,ln,lc,c5,r9⟩:=hc;go_wp2_with fail;refine mg.mono ?_;rintro e w2 ⟨rfl,hB2⟩;dsimp only;have e0:=(hB2.cell (p:=⟨b,off+i*6,none⟩) hb).trans c0;have e1:=(hB2.cell (p:=⟨b,off+i*6+1,none⟩) hb).trans c1;have e2:=(hB2.cell (p:=⟨b,off+i*6+2,none⟩) hb).trans c2;have e3:=(hB2.cell (p:=⟨b,off+i*6+3,none⟩) hb).trans c3;have e4:=(hB2.cell (p:=⟨b,off+i*6+4,none⟩) hb).trans c4;have e5:=(hB2.cell (p:=⟨b,off+i*6+5,none⟩) hb).trans c5;have hgl:=hoi.lt;have ei:=(hB2.cell (p:=⟨gi,i,none⟩) hgl.2).trans hci;have Ul:=hbx.kept hB2;have hBx2:=hBx.trans (hB2.mono hBx.size);have bF:=rq x la ln lc w2;have hb2:=aj hb hB2.size;have hg2:=aj hgl.2 hB2.size;clear mg c0 c1 c2 c3 c4 c5 hci hB2 hbx hBx hoi;go_wp2_with fail;refine bF.mono ?_;rintro e w3 ⟨rfl,hB3⟩;dsimp only;have c0:=(hB3.cell (p:=⟨b,off+i*6,none⟩) hb2).trans e0;have c1:=(hB3.cell (p:=⟨b,off+i*6+1,none⟩) hb2).trans e1;have c2:=(hB3.cell (p:=⟨b,off+i*6+2,none⟩) hb2).trans e2;have c3:=(hB3.cell (p:=⟨b,off+i*6+3,none⟩) hb2).trans e3;have c4:=(hB3.cell (p:=⟨b,off+i*6+4,none⟩) hb2).trans e4;have c5:=(hB3.cell (p:=⟨b,off+i*6+5,none⟩) hb2).trans e5;have hci:=(hB3.cell (p:=⟨gi,i,none⟩) hg2).trans ei;have uZ:=Ul.kept hB3;have hBx3:=hBx2.trans (hB3.mono hBx2.size);clear bF e0 e1 e2 e3 e4 e5 ei Ul hBx2 hB3 hb2 hg2;obtain⟨d,hd⟩:∃d,Ln.st x=d:=⟨_,rfl⟩;rw[hd]at MO Ct ⊢;clear hd;obtain⟨xk,hxk⟩:∃xk,x.k=xk:=⟨_,rfl⟩;rw[hxk]at c0 Ct;clear hxk;have hor:bits .or .i64 (Z0:Int) (X0:Int)=((Z0|||X0:Nat):Int):=LJ HZ0.out HX0.out;have aa9:Hid (Z0|||X0<2 ^ 40):=Nat.or_lt_two_pow HZ0.out HX0.out;obtain⟨M,hM⟩:∃M,Z0|||X0=M:=⟨_,rfl⟩;rw[hM]at hor MO aa9;clear hM;obtain⟨sb,sf,st,sc⟩:=s;have b1:=(uZ.2 1 _ rfl).1;have b2:=(uZ.2 2 _ rfl).1;have b3:=(uZ.2 3 _ rfl).1;have f1:=(uZ.2 1 _ rfl).2;have f2:=(uZ.2 2 _ rfl).2;have f3:=(uZ.2 3 _ rfl).2;have hLw:=uZ.1;have qJ:Hid (∀(x:Int)(c:Bool),bu ((w3.setCell ⟨w0.heap.size,2,none⟩ (.int .i64 x)).setCell ⟨w0.heap.size,3,none⟩ (.bool c)) w0.heap.size (Ba ⟨sb,sf,x,c⟩)/\Below w0.heap.size w0 ((w3.setCell ⟨w0.heap.size,2,none⟩ (.int .i64 x)).setCell ⟨w0.heap.size,3,none⟩ (.bool c))):=fun x c=>⟨(uZ.set 2 _).set 3 _,(hBx3.setCell (p:=⟨w0.heap.size,2,none⟩) (Nat.le_refl _) _).setCell (p:=⟨w0.heap.size,3,none⟩) (Nat.le_refl _) _⟩;have BM:Hid (∀(y x:Int)(c:Bool),bu (((w3.setCell ⟨w0.heap.size,1,none⟩ (.int .i64 y)).setCell ⟨w0.heap.size,2,none⟩ (.int .i64 x)).setCell ⟨w0.heap.size,3,none⟩ (.bool c)) w0.heap.size (Ba ⟨sb,y,x,c⟩)/\Below w0.heap.size w0 (((w3.setCell ⟨w0.heap.size,1,none⟩ (.int .i64 y)).setCell ⟨w0.heap.size,2,none⟩ (.int .i64 x)).setCell ⟨w0.heap.size,3,none⟩ (.bool c))):=fun y x c=>⟨((uZ.set 1 _).set 2 _).set 3 _,((hBx3.setCell (p:=⟨w0.heap.size,1,none⟩) (Nat.le_refl _) _).setCell (p:=⟨w0.heap.size,2,none⟩) (Nat.le_refl _) _).setCell (p:=⟨w0.heap.size,3,none⟩) (Nat.le_refl _) _⟩;have Um:=ae (ak uZ hBx3);have hTM:=NV M k;have hTX:=NV X0 k;obtain⟨z,hz⟩:∃z,M.testBit k=z:=⟨_,rfl⟩;obtain⟨y,hy⟩:∃y,X0.testBit k=y:=⟨_,rfl⟩;obtain⟨u,hu⟩:∃u,(d !=(k:Int))=u:=⟨_,rfl⟩;(have hu2:decide (d=(k:Int))= !u:=by rw[←hu];by_cases h:d=(k:Int)<;>simp[bne,h]);(have hu3:decide (d≠(k:Int))=u:=by rw[←hu];by_cases h:d=(k:Int)<;>simp[bne,h]);rw[hz,hu2]at MO;rw[hy,hu3]at Ct;rw[hz]at hTM;rw[hy]at hTX;clear hz hy hu2 hu3 uZ hBx3;have HN:Hid (∀r:Sp.S,Sp.iL ls k i ⟨sb,sf,st,sc⟩=r->Sp.row ls k (i+1)=r):=fun r h=>HRW.out.trans h;clear HRW;have stay:z=false->u=true->Hid (Sp.row ls k (i+1)=⟨sb,sf,st,sc⟩):=fun h1 h2=>HN.out _ (by unfold Sp.iL;rw[MO.out,h1,h2];rfl);have turn:(z|| !u)=true->∀(f:Int)(c:Bool),(if sf<0 then(i:Int)else sf)=f->(sc||(decide (xk=7)&&(u&&y)))=c->Hid (Sp.row ls k (i+1)=⟨sb,f,(i:Int),c⟩):=fun h1 f c hf hc=>HN.out _ (by unfold Sp.iL;rw[MO.out,h1,Ct.out,hc];simp only[if_true];rw[hf]);have ST:=ae stay;have TN:=ae turn;clear stay turn MO Ct HN;cases z<;>cases u<;>simp only[if_true,if_false,Bool.false_eq_true]at hTM;rotate_left;{have HE:=ST.out rfl rfl;clear qJ BM TN;go_wp2;go_roundg (len-(i+1));(case measure=>omega);case rel=>exact⟨i+1,rfl,hil,by simp,by rw[HE.out];exact Um.out.1,Um.out.2⟩};all_goals clear Um ST;cases sc;rotate_left;{by_cases hf:sf<0;{have HE:=TN.out rfl (i:Int) true (by simp[hf]) (by simp);clear TN qJ;go_wp2;go_roundg (len-(i+1));(case measure=>omega);case rel=>exact⟨i+1,rfl,hil,by simp,by rw[HE.out];exact(BM.out _ _ _).1,(BM.out _ _ _).2⟩};have HE:=TN.out rfl sf true (by simp[hf]) (by simp);clear TN BM;go_wp2;go_roundg (len-(i+1));(case measure=>omega);case rel=>exact⟨i+1,rfl,hil,by simp,by rw[HE.out];exact(qJ.out _ _).1,(qJ.out _ _).2⟩};by_cases hx:xk=7;rotate_left;{have hx7:(xk==7)=false:=by{simpa using hx};by_cases hf:sf<0;{have HE:=TN.out rfl (i:Int) false (by simp[hf]) (by simp[hx]);clear TN qJ;go_wp2;go_roundg (len-(i+1));(case measure=>omega);case rel=>exact⟨i+1,rfl,hil,by simp,by rw[HE.out];exact(BM.out _ _ _).1,(BM.out _ _ _).2⟩};have HE:=TN.out rfl sf false (by simp[hf]) (by simp[hx]);clear TN BM;go_wp2;go_roundg (len-(i+1));(case measure=>omega);case rel=>exact⟨i+1,rfl,hil,by simp,by rw[HE.out];exact(qJ.out _ _).1,(qJ.out _ _).2⟩};subst hx;cases y<;>simp only[if_true,if_false,Bool.false_eq_true]at hTX;{by_cases hf:sf<0;{have HE:=TN.out rfl (i:Int) false (by simp[hf]) (by simp);clear TN qJ;go_wp2;go_roundg (len-(i+1));(case measure=>omega);case rel=>exact⟨i+1,rfl,hil,by simp,by rw[HE.out];exact(BM.out _ _ _).1,(BM.out _ _ _).2⟩};have HE:=TN.out rfl sf false (by simp[hf]) (by simp);clear TN BM;go_wp2;go_roundg (len-(i+1));(case measure=>omega);case rel=>exact⟨i+1,rfl,hil,by simp,by rw[HE.out];exact(qJ.out _ _).1,(qJ.out _ _).2⟩};by_cases hf:sf<0;{have HE:=TN.out rfl (i:Int) _ (by simp[hf]) rfl;clear TN qJ;go_wp2;go_roundg (len-(i+1));(case measure=>omega);case rel=>exact⟨i+1,rfl,hil,by simp,by rw[HE.out];exact(BM.out _ _ _).1,(BM.out _ _ _).2⟩};have HE:=TN.out rfl sf _ (by simp[hf]) rfl;clear TN BM;go_wp2;go_roundg (len-(i+1));(case measure=>omega);case rel=>exact⟨i+1,rfl,hil,by simp,by rw[HE.out];exact(qJ.out _ _).1,(qJ.out _ _).2⟩};have hie:i=len:=by{omega};subst hie;have rZ:=ae (HR.out.1.kept hBx);have HI3:=ae (HR.out.2.1.kept hBx);have Uo:=ae (HR.out.2.2.1.kept hBx);have hBw:=HR.out.2.2.2.1.trans (hBx.mono HR.out.2.2.2.1.size);have HB3:=ae hBw;have hw3:w1.heap.size<=wr.heap.size:=Nat.le_trans hwr hBx.size;have HW3:=ae hw3;have hN:n<=40:=by{have h1:=HR.out.1.1;have h2:=Sp.oD ls k;omega};have HQ:Hid (Sp.out ls (k+1)=if 0<=(Sp.row ls k i).f then Sp.out ls k++[Sp.row ls k i]else Sp.out ls k):=by{show _=_;rw[←HL.out];rfl};obtain⟨s,hss⟩:∃s,Sp.row ls k i=s:=⟨_,rfl⟩;rw[hss]at hbx HQ;clear hss hBw;obtain⟨sb,sf,st,sc⟩:=s;have b0:=(hbx.2 0 _ rfl).1;have b1:=(hbx.2 1 _ rfl).1;have b2:=(hbx.2 2 _ rfl).1;have b3:=(hbx.2 3 _ rfl).1;have hLw:=hbx.1;simp only at HQ;clear hbx hBx;by_cases hf:0<=sf;{have HE:Hid (Sp.out ls (k+1)=Sp.out ls k++[⟨sb,sf,st,sc⟩]):=by{show _=_;rw[HQ.out,ay hf]};clear HQ;have hal:=aA wr (.cells #[.int .i64 sb, .int .i64 sf, .int .i64 st, .bool sc] 39);have hwl:w.heap.size<=wr.heap.size:=HB3.out.size;have ky:=ae (rZ.out.kept hal);have HI4:=ae (HI3.out.kept hal);have He:=ae (Uo.out.kept hal);have vM:=ae (HB3.out.trans (hal.mono hwl));have HC:Hid (∀j u,[Value.int .i64 sb, .int .i64 sf, .int .i64 st, .bool sc][j]?=some u->(wr.alloc (.cells #[.int .i64 sb, .int .i64 sf, .int .i64 st, .bool sc] 39)).cell? ((⟨wr.heap.size,0,none⟩:Addr).add j)=some u):=nS wr _ _ _ _ _;have hg:=rZ.out.lt;have hcp:=rZ.out.cap;clear hal rZ HI3 Uo HB3;go_wp2_with(at_builtin;refine Be _ rfl _ _ rfl w1.heap.size _ _ _ _ rfl ky.out wr.heap.size ⟨sb,sf,st,sc⟩ rfl HC.out (by omega) (by simp only[World.size_alloc];omega) ?_;intro g4 c4 N4 w4 Ob nN gY;have HF:=ae (ak nN (ak (HI4.out.bT gY (by omega)) (ak (Od.out.kept (aC vM.out gY (by omega))) (ak (aC vM.out gY (by omega)) (Nat.le_trans (show w1.heap.size<=_ by simp only[World.size_alloc];omega) gY.size)))));clear nN gY);go_roundg (40-(k+1));(case measure=>omega);case rel=>exact⟨k+1,g4,N4,c4,rfl,hlt,rfl,by simp,by rw[HE.out];exact HF.out.1,HF.out.2.1,HF.out.2.2.1,HF.out.2.2.2.1,HF.out.2.2.2.2⟩};have HE:Hid (Sp.out ls (k+1)=Sp.out ls k):=by{show _=_;rw[HQ.out,ax hf]};clear HQ;go_wp2;go_roundg (40-(k+1));(case measure=>omega);case rel=>exact⟨k+1,g,n,c,rfl,hlt,rfl,by simp,by rw[HE.out];exact rZ.out,HI3.out,Uo.out,HB3.out,HW3.out⟩};have hke:k=40:=by{omega};subst hke;have HE:=ae (ak (hor.mono bq) hBr);clear hor hoi mZ hBr;go_wp2;go_ret;exact⟨g,n,c,rfl,HE.out.1,HE.out.2⟩
theorem wz (a:Option Addr)(len cap:Nat)(ls:List Ln)(hok:Ln.isOk ls=true)(w:World)(hs:LL w a len ls):Calls Tryz.prog 41 #[.slice a len cap] w fun e w'=>∃g c,e= .returned (.slice (some ⟨g,0,none⟩) 40 c)/\OG w' w.heap.size g 40 c (Hm.homes ls)/\Below w.heap.size w w':=by
 have hcon:=fun W (h:LL W a len ls)=>gL a len cap ls hok W h
 have Zu:Hid (Hm.homes ls=Hm.eY (Sp.out ls 40) (Hm.run (Sp.out ls 40) (Sp.out ls 40).length) (Sp.out ls 40).length):=by show _=_;unfold Hm.homes;rw[ay hok,show Sp.bB ls=Sp.out ls 40 from by unfold Sp.bB;rw[ay hok]]
 have gZ:=ae (Hm.kM ls)
 have HS:=ae hs
 generalize Sp.out ls 40=l at hcon Zu gZ
 have Uq:=gZ.out.len
 generalize Hm.homes ls=hz at Zu ⊢
 clear hs hok
 go_enter Tryz.func41,Tryz.ntmps41
 go_wp2_with fail
 refine(jq 40 (by omega) _).mono ?_
 rintro e w1 ⟨go,co,rfl,hoi,hB1⟩
 dsimp only
 have Hf:OG w1 w.heap.size go 40 co (Hm.eY l (Hm.run l l.length) 0):=⟨by simp[Hm.eY],by
  have h2:=hoi
  unfold OI at h2
  exact h2⟩
 have HO:=ae Hf
 have bq:=hB1.size
 have hgo:=Hf.lt
 have hs1:=HS.out.kept hB1
 have HB1:=ae hB1
 clear hoi Hf hB1
 go_wp2_with fail
 refine(hcon w1 hs1).mono ?_
 rintro e w2 ⟨gs,ns,cs,rfl,hsg,hB2⟩
 dsimp only
 have hnl:=hsg.1
 have hns:ns<=40:=by omega
 have Cu:=ae hsg
 have HB2:=ae hB2
 have hgs:=hsg.lt
 have qK:=ae hnl
 have hcs:=hsg.cap
 clear hcon hs1 hsg hB2 hnl
 go_wp2_with fail
 refine(rX w1.heap.size gs ns cs l hns w2 Cu.out).mono ?_
 rintro e w3 ⟨gh,ch,rfl,hho,hB3⟩
 dsimp only
 have hgh:=hho.lt
 have hch:=hho.cap
 have hsz2:=HB2.out.size
 have MC:=hB3.size
 have HX:=ae (ak ((HO.out.kept HB2.out).kept hB3) (ak (Cu.out.kept hB3) (ak hho (HB1.out.trans ((HB2.out.trans (hB3.mono hsz2)).mono bq)))))
 have Ol:Hid (hz=Hm.eY l (Hm.run l ns) ns):=by show _=_;rw[Zu.out,qK.out]
 have RL:=ae (Hm.Inv.run l ns (by rw[qK.out];exact Nat.le_refl _))
 have hco:=HO.out.cap
 have iZ:Hid (Hm.eY l (Hm.run l l.length) 0=Hm.eY l (Hm.run l ns) 0):=rfl
 generalize Hm.run l ns=h0 at HX Ol RL iZ
 rw[iZ.out]at HX
 have hne1:go≠gh:=by omega
 have hne2:go≠gs:=by omega
 have Qt:(ns:Int)<=40:=by omega
 clear hho hB3 HO Cu HB1 HB2 Zu iZ
 go_wp2
 go_loopg [6,7] ns (fun gk vp vi wr=>∃(i:Nat),gk=ns-i/\i<=ns/\vi= .int .i64 (i:Int)/\vp= .int .i64 (100+(Hm.dD h0 i:Int))/\OG wr w.heap.size go 40 co (Hm.eY l h0 i)/\SG wr w1.heap.size gs ns cs l/\OG wr w2.heap.size gh ns ch h0/\Below w.heap.size w wr)
 case atStart=>exact⟨0,rfl,by omega,rfl,rfl,HX.out.1,HX.out.2.1,HX.out.2.2.1,HX.out.2.2.2⟩
 case round=>
  obtain⟨i,nP,hi,rfl,rfl,Hf,hsg,hho,hB⟩:=hrel
  obtain⟨w4,rfl⟩:∃x,x=wr:=⟨_,rfl⟩
  clear HX
  by_cases hlt:i<ns
  · have bN:(i:Int)<(ns:Int):=by omega
    have hlo:=gZ.out.lo i (by rw[qK.out];exact hlt)
    obtain⟨d0,-,-,-⟩:=hsg.cell hlt
    have aba:=hho.cell hlt
    have ik:Hid (Hm.eY l h0 (i+1)=(Hm.eY l h0 i).set (l.getD i .z).b.toNat (Hm.val h0 i)):=rfl
    have Ur:Hid (Hm.dD h0 (i+1)=if h0.getD i 0=-2 then Hm.dD h0 i+1 else Hm.dD h0 i):=rfl
    have Qu:Hid (Hm.val h0 i=if h0.getD i 0=-2 then 100+(Hm.dD h0 i:Int)else h0.getD i 0):=rfl
    have hcl:=Hm.zz h0 i
    generalize(l.getD i .z).b=b at d0 hlo ik
    obtain⟨bn,rfl⟩:=Int.eq_ofNat_of_zero_le hlo.1
    rw[az]at ik
    have GL:bn<40:=by omega
    have Om:(bn:Int)<40:=by omega
    have hcb:=Hf.cell GL
    have hfz:=fun j=>World.ownsRow.frozenAt Hf.2 j
    have aa2:=Hf.lt
    have aa3:=hho.lt
    have aa5:=hsg.lt
    have HST:Hid (∀W (xs:List Int)(y:Int),OG W w.heap.size go 40 co xs->SG W w1.heap.size gs ns cs l->OG W w2.heap.size gh ns ch h0->Below w.heap.size w W->OG (W.setCell ⟨go,bn,none⟩ (.int .i64 y)) w.heap.size go 40 co (xs.set bn y)/\SG (W.setCell ⟨go,bn,none⟩ (.int .i64 y)) w1.heap.size gs ns cs l/\OG (W.setCell ⟨go,bn,none⟩ (.int .i64 y)) w2.heap.size gh ns ch h0/\Below w.heap.size w (W.setCell ⟨go,bn,none⟩ (.int .i64 y))):=fun W xs y h1 h2 h3 h4=>
     ⟨OG.Ev h1 bn y,h2.bT (aB W ⟨go,bn,none⟩ (.int .i64 y)) (fun e=>hne2 e.symm),h3.bT (aB W ⟨go,bn,none⟩ (.int .i64 y)) (fun e=>hne1 e.symm),aC h4 (aB W ⟨go,bn,none⟩ (.int .i64 y)) (show w.heap.size<=go by omega)⟩
    obtain⟨v,hv⟩:∃v,h0.getD i 0=v:=⟨_,rfl⟩
    rw[hv]at aba Ur Qu
    have h1:=HST.out w4 _ v Hf hsg hho hB
    by_cases hv2:v=-2
    · subst hv2;have h2:=HST.out _ _ (100+(Hm.dD h0 i:Int)) h1.1 h1.2.1 h1.2.2.1 h1.2.2.2;rw[List.set_set]at h2;have HF:=ae h2;have HN:Hid (Hm.eY l h0 (i+1)=(Hm.eY l h0 i).set bn (100+(Hm.dD h0 i:Int))/\Hm.dD h0 (i+1)=Hm.dD h0 i+1):=⟨by rw[ik.out,Qu.out,ay rfl],by rw[Ur.out,ay rfl]⟩;clear Hf hsg hho hB h1 h2 hv ik Qu Ur;go_wp2_with fail;go_region;all_goals go_wp2;go_roundg (ns-(i+1));(case measure=>omega);case rel=>exact⟨i+1,rfl,hlt,by simp,by rw[HN.out.2];simp;omega,by rw[HN.out.1];exact HF.out.1,HF.out.2.1,HF.out.2.2.1,HF.out.2.2.2.drew⟩
    · have HF:=ae h1;have HN:Hid (Hm.eY l h0 (i+1)=(Hm.eY l h0 i).set bn v/\Hm.dD h0 (i+1)=Hm.dD h0 i):=⟨by rw[ik.out,Qu.out,ax hv2],by rw[Ur.out,ax hv2]⟩;clear Hf hsg hho hB h1 hv ik Qu Ur;go_wp2_with fail;go_region;all_goals go_wp2;go_roundg (ns-(i+1));(case measure=>omega);case rel=>exact⟨i+1,rfl,hlt,by simp,by rw[HN.out.2],by rw[HN.out.1];exact HF.out.1,HF.out.2.1,HF.out.2.2.1,HF.out.2.2.2.drew⟩
  · have hie:i=ns:=by{omega};have HF:Hid (OG w4 w.heap.size go 40 co hz/\Below w.heap.size w w4):=⟨by rw[Ol.out,←hie];exact Hf,hB⟩;have bN:¬(i:Int)<(ns:Int):=by{omega};clear Hf hsg hho hB hie;go_wp2;go_ret;exact⟨go,co,rfl,HF.out.1,HF.out.2⟩
theorem kI (a:Option Addr)(len cap:Nat)(ls:List Ln)(w:World)(hs:LL w a len ls):Calls Tryz.prog 12 #[.slice a len cap] w fun e w'=>∃g n c,e= .returned (.slice (some ⟨g,0,none⟩) n c)/\OG w' w.heap.size g n c (Hm.homes ls)/\Below w.heap.size w w':=by have hcon:=fM a len cap ls w hs;have HS:=ae hs;have Ol:Hid (Ln.isOk ls=false->Hm.homes ls=[]):=fun h=>by{unfold Hm.homes;rw[ax (by rw[h];decide)]};have bF:=fun h=>wz a len cap ls h;generalize Hm.homes ls=hz at Ol bF ⊢;generalize Ln.isOk ls=q at hcon Ol bF;clear hs;go_enter Tryz.func12,Tryz.ntmps12;go_wp2_with fail;refine hcon.mono ?_;rintro e w1 ⟨rfl,hB1⟩;dsimp only;have bq:=hB1.size;cases q;{have HZ:=ae (Ol.out rfl);have hal:=aA w1 (.cells #[] 2);have HF:=ae (ak (OG.empty w1 w.heap.size bq) (hB1.trans (hal.mono bq)));clear hcon Ol bF hB1 hal;go_wp2;go_ret;exact⟨_,0,0,rfl,by rw[HZ.out];exact HF.out.1,HF.out.2⟩};have h2:=bF rfl w1 (HS.out.kept hB1);have HB:=ae hB1;clear hcon Ol bF hB1;go_wp2_with fail;refine h2.mono ?_;rintro e w2 ⟨g,c,rfl,ho,hB2⟩;dsimp only;have HF:=ae (ak (ho.mono bq) (HB.out.trans (hB2.mono bq)));clear ho hB2 h2;go_wp2;go_ret;exact⟨g,40,c,rfl,HF.out.1,HF.out.2⟩
theorem size_take {xs:List Int}{k:Nat}(h:k<xs.length):Hm.size (xs.take (k+1))=Hm.size (xs.take k)+(if 100<=xs.getD k 0 then 1 else 0):=by unfold Hm.size;rw[List.take_add_one,ai h,List.countP_append,Hm.sP h];show _+List.countP _ [xs[k]]=_;rw[List.countP_singleton];simp only[decide_eq_true_eq]
theorem rJ (a:Option Addr)(len cap:Nat)(xs:List Int)(hlen:len<=1048576)(w:World)(hs:IL w a len xs):Calls Tryz.prog 16 #[.slice a len cap] w fun e w'=>e= .returned (.int .i64 ((Hm.size xs:Nat):Int))/\w'=w:=by have HL:=ae hs.1;have Cr:(len:Int)<=1048576:=by{omega};obtain⟨R,hR⟩:∃R,Hm.size xs=R:=⟨_,rfl⟩;rw[hR];have HR:=ae hR;clear hR;go_enter Tryz.func16,Tryz.ntmps16;go_wp2;go_loopg [3,4] len (fun gk vn vi wr=>∃(k q:Nat),gk=len-k/\k<=len/\vn= .int .i64 (q:Int)/\vi= .int .i64 (k:Int)/\q<=k/\Hid (q=Hm.size (xs.take k))/\w=wr);(case atStart=>exact⟨0,0,rfl,by omega,rfl,rfl,Nat.le_refl _,(by show _=_;simp[Hm.size]),rfl⟩);case round=>obtain⟨k,q,nP,hk,rfl,rfl,hqk,HQ,bq⟩:=hrel;subst bq;by_cases hlt:k<len;{have bN:(k:Int)<(len:Int):=by{omega};have hkl:k<xs.length:=by{rw[HL.out];exact hlt};obtain⟨-,-,h0|⟨lb,lo,rfl,hlb,hcc⟩⟩:=hs;{omega};have hc:=hcc k hlt;have HS:=ae (size_take hkl);generalize xs.getD k 0=y at hc HS;clear hcc hkl;by_cases hy:100<=y;{have HN:Hid (q+1=Hm.size (xs.take (k+1))):=by{show _=_;rw[HS.out,ay hy,←HQ.out]};clear HQ HS;go_wp2;go_roundg (len-(k+1));(case measure=>omega);case rel=>exact⟨k+1,q+1,rfl,hlt,by simp,by simp,by omega,HN,rfl⟩};have HN:Hid (q=Hm.size (xs.take (k+1))):=by{show _=_;rw[HS.out,ax hy,←HQ.out];rfl};clear HQ HS;go_wp2;go_roundg (len-(k+1));(case measure=>omega);case rel=>exact⟨k+1,q,rfl,hlt,rfl,by simp,by omega,HN,rfl⟩};have hke:k=len:=by{omega};have HE:Hid (q=R):=by{show _=_;rw[HQ.out,←HR.out,hke,←HL.out,List.take_length]};have bN:¬(k:Int)<(len:Int):=by{omega};clear HQ hke hs;go_wp2;go_ret;exact⟨by rw[←HE.out]<;>rfl,rfl⟩
section
open Go.RowKit
set_option linter.unusedSimpArgs false
namespace Hp
open Sp
def lt (x y:S):Bool:=if x.f=y.f then decide (x.b<y.b)else decide (x.f<y.f)
def le (x y:S):Prop:=x.f<y.f\/x.f=y.f/\x.b<=y.b
def sw (l:List S)(i j:Nat):List S:=(l.set i (l.getD j .z)).set j (l.getD i .z)
def up:Nat->List S->Nat->List S
 |0,l,_=>l
 |k+1,l,j=>if(j-1) / 2=j then l else if lt (l.getD j .z) (l.getD ((j-1) / 2) .z)=true then up k (sw l ((j-1) / 2) j) ((j-1) / 2)else l
def ch (l:List S)(i n:Nat):Nat:=if 2*i+2<n/\lt (l.getD (2*i+2) .z) (l.getD (2*i+1) .z)=true then 2*i+2 else 2*i+1
def down:Nat->List S->Nat->Nat->List S
 |0,l,_,_=>l
 |k+1,l,i,n=>if n<=2*i+1 then l else if lt (l.getD (ch l i n) .z) (l.getD i .z)=true then down k (sw l i (ch l i n)) (ch l i n) n else l
def push (l:List S)(x:S):List S:=up (l.length+1) (l++[x]) l.length
def low (l:List S):List S:=down l.length (sw l 0 (l.length-1)) 0 (l.length-1)
def iI (l:List S):S:=(low l).getD (l.length-1) .z
def rest (l:List S):List S:=(low l).take (l.length-1)
theorem qW {x y:S}:lt x y=true↔x.f<y.f\/x.f=y.f/\x.b<y.b:=by unfold lt;split<;>rw[decide_eq_true_eq]<;>omega
theorem Hy {x y:S}:¬lt x y=true↔le y x:=by rw[qW];unfold le;omega
theorem le_trans {x y z:S}(h:le x y)(h':le y z):le x z:=by unfold le at*;omega
theorem le_rfl (x:S):le x x:=by unfold le;omega
theorem CZ {x y:S}(h:lt x y=true):le x y:=by rw[qW]at h;unfold le;omega
theorem get_at {l:List S}{j:Nat}(h:j<l.length):l.getD j .z=l[j]:=by rw[ah,ai h];rfl
theorem df (l:List S)(i j:Nat):(sw l i j).length=l.length:=by unfold sw;rw[List.length_set,List.length_set]
theorem zZ {l:List S}{i j:Nat}(hi:i<l.length)(hj:j<l.length)(k:Nat):(sw l i j).getD k .z=if k=j then l.getD i .z else if k=i then l.getD j .z else l.getD k .z:=by unfold sw;rw[ah,List.getElem?_set];by_cases e:k=j;{rw[ay e.symm,ay e,ay (by rw[List.length_set];exact hj)];rfl};rw[ax (fun h=>e h.symm),ax e,List.getElem?_set];by_cases e2:k=i;{rw[ay e2.symm,ay e2,ay hi];rfl};rw[ax (fun h=>e2 h.symm),ax e2,ah]
theorem yM {l:List S}{i j:Nat}(hi:i<l.length)(hj:j<l.length):(sw l i j).Perm l:=by unfold sw;rw[get_at hi,get_at hj];exact List.set_set_perm hi hj
theorem Eo:∀(k:Nat){l:List S}{j:Nat},j<l.length->(up k l j).Perm l
 |0,l,j,hj=>List.Perm.refl _
 | k +1,l,j,hj=>by
   unfold up
   split
   · exact List.Perm.refl _
   · split
     · exact(Eo k (by rw[df];omega)).trans (yM (by omega) hj)
     · exact List.Perm.refl _
theorem Iq (l:List S)(i n:Nat):ch l i n=2*i+1\/ch l i n=2*i+2/\2*i+2<n:=by unfold ch;split;{rename_i h;exact .inr ⟨rfl,h.1⟩};exact .inl rfl
theorem xN {n:Nat}:∀(k:Nat){l:List S}{i:Nat},i<l.length->n<=l.length->(down k l i n).Perm l
 |0,l,i,hi,hn=>List.Perm.refl _
 | k +1,l,i,hi,hn=>by
   unfold down
   split
   · exact List.Perm.refl _
   · have h:=Iq l i n
     split
     · exact(xN k (by rw[df];omega) (by rw[df];exact hn)).trans (yM hi (by omega))
     · exact List.Perm.refl _
def H (l:List S)(n:Nat):Prop:=∀i,0<i->i<n->le (l.getD ((i-1) / 2) .z) (l.getD i .z)
theorem H.root {l:List S}{n:Nat}(h:H l n):∀i,i<n->le (l.getD 0 .z) (l.getD i .z):=by
 intro i
 induction i using Nat.strongRecOn with
 |_ i ih=>
  intro hi
  by_cases h0:i=0
  · rw[h0];exact le_rfl _
  · exact le_trans (ih ((i-1) / 2) (by omega) (by omega)) (h i (by omega) hi)
structure Hu (l:List S)(n j:Nat):Prop where
 each:∀i,0<i->i<n->i≠j->le (l.getD ((i-1) / 2) .z) (l.getD i .z)
 Da:0<j->∀i,0<i->i<n->(i-1) / 2=j->le (l.getD ((j-1) / 2) .z) (l.getD i .z)
theorem ED:∀(k:Nat){l:List S}{j:Nat},j<l.length->j<k->Hu l l.length j->H (up k l j) l.length
 |0,l,j,hj,hk,h=>absurd hk (by omega)
 | k + 1, l, j,hj,hk,h=>by
   unfold up
   split
   · intro i h0 hi
     exact h.each i h0 hi (by omega)
   · rename_i hne
     split
     · rename_i hl
       have hp:(j-1) / 2<l.length:=by omega
       have hs:=zZ hp hj
       have h1:=ED k (l:=sw l ((j-1) / 2) j) (j:=(j-1) / 2) (by rw[df];omega) (by omega) ?_
       · rw[df]at h1;exact h1
       · rw[df]
         have hl1:=CZ hl
         refine⟨fun i h0 hi hij=>?_,fun hj0 i h0 hi hij=>?_⟩
         · rw[hs,hs]
           by_cases e1:i=j
           · rw[ax (by omega),ay (by omega),ay e1];exact hl1
           · rw[ax e1,ax hij]
             by_cases e2:(i-1) / 2=j
             · rw[ay e2];exact h.Da (by omega) i h0 hi e2
             · rw[ax e2]
               by_cases e3:(i-1) / 2=(j-1) / 2
               · rw[ay e3]
                 have h4:=h.each i h0 hi e1
                 rw[e3]at h4
                 exact le_trans hl1 h4
               · rw[ax e3];exact h.each i h0 hi e1
         · rw[hs,hs,ax (by omega),ax (by omega)]
           have h5:=h.each ((j-1) / 2) hj0 (by omega) (by omega)
           by_cases e1:i=j
           · rw[ay e1];exact h5
           · rw[ax e1,ax (by omega)]
             have h6:=h.each i h0 hi e1
             rw[hij]at h6
             exact le_trans h5 h6
     · rename_i hl
       have h1:=Hy.1 hl
       intro i h0 hi
       by_cases e:i=j
       · rw[e];exact h1
       · exact h.each i h0 hi e
structure Hd (l:List S)(n i:Nat):Prop where
 each:∀j,0<j->j<n->(j-1) / 2≠i->le (l.getD ((j-1) / 2) .z) (l.getD j .z)
 Da:0<i->∀j,0<j->j<n->(j-1) / 2=i->le (l.getD ((i-1) / 2) .z) (l.getD j .z)
theorem Sj {l:List S}{i n:Nat}:∀j,0<j->j<n->(j-1) / 2=i->le (l.getD (ch l i n) .z) (l.getD j .z):=by intro j h0 hj e;unfold ch;split;{rename_i h;rcases(show j=2*i+1\/j=2*i+2 by omega)with rfl|rfl;{exact CZ h.2};exact le_rfl _};rename_i h;rcases(show j=2*i+1\/j=2*i+2 by omega)with rfl|rfl;{exact le_rfl _};exact Hy.1 fun hl=>h ⟨hj,hl⟩
theorem wU {n:Nat}:∀(k:Nat){l:List S}{i:Nat},i<l.length->n<=l.length->n<i+k+1->Hd l n i->H (down k l i n) n
 | 0,l,i,hi,hn,hk,h=>by
   intro j h0 hj
   exact h.each j h0 hj (by omega)
 | k + 1, l, i,hi,hn,hk,h=>by
   unfold down
   split
   · intro j h0 hj
     exact h.each j h0 hj (by omega)
   · rename_i hlt
     have hci:=Iq l i n
     have hcl:=Sj (l:=l) (i:=i) (n:=n)
     generalize ch l i n=c at hci hcl
     split
     · rename_i hl
       have hl1:=CZ hl
       have hs:=zZ hi (show c<l.length by omega)
       refine wU k (by rw[df];omega) (by rw[df];exact hn) (by omega) ⟨fun j h0 hj hij=>?_,fun hc0 j h0 hj hij=>?_⟩
       · rw[hs,hs,ax hij]
         by_cases e1:j=c
         · rw[ay (by omega),ay e1];exact hl1
         · rw[ax e1]
           by_cases e2:j=i
           · rw[ax (by omega),ay e2]
             subst e2
             exact h.Da h0 c (by omega) (by omega) (by omega)
           · rw[ax e2]
             by_cases e3:(j-1) / 2=i
             · rw[ay e3];exact hcl j h0 hj e3
             · rw[ax e3];exact h.each j h0 hj e3
       · have h7:=h.each j h0 hj (by omega)
         rw[hij]at h7
         rw[hs,hs,ax (by omega),ay (by omega),ax (by omega),ax (by omega)]
         exact h7
     · rename_i hl
       have h1:=Hy.1 hl
       intro j h0 hj
       by_cases e:(j-1) / 2=i
       · rw[e];exact le_trans h1 (hcl j h0 hj e)
       · exact h.each j h0 hj e
theorem Fq (l:List S)(x:S):(push l x).Perm (l++[x]):=Eo _ (by simp)
theorem Iy (l:List S)(x:S){i:Nat}(h:i<l.length):(l++[x]).getD i .z=l.getD i .z:=by rw[ah,List.getElem?_append_left h,ah]
theorem Gs {l:List S}(x:S)(h:H l l.length):H (push l x) (l.length+1):=by have h1:=ED (l.length+1) (l:=l++[x]) (j:=l.length) (by simp) (by omega) ?_;{rw[List.length_append]at h1;exact h1};rw[List.length_append];refine⟨fun i h0 hi hne=>?_,fun hj0 i h0 hi e=>?_⟩;{have hi:i<l.length+1:=hi;rw[Iy l x (by omega),Iy l x (by omega)];exact h i h0 (by omega)};have hi:i<l.length+1:=hi;omega
theorem AX {l:List S}(h:l≠[]):(low l).Perm l:=by have:=List.length_pos_iff.2 h;exact(xN _ (by rw[df];exact this) (by rw[df];omega)).trans (yM this (by omega))
theorem Bu {n:Nat}:∀(k:Nat){l:List S}{i:Nat},i<l.length->n<=l.length->∀j,n<=j->i<n\/n=0->(down k l i n).getD j .z=l.getD j .z
 |0,l,i,hi,hn,j,hj,hin=>rfl
 | k +1,l,i,hi,hn,j,hj,hin=>by
   unfold down
   split
   · rfl
   · have h:=Iq l i n
     split
     · rw[Bu k (by rw[df];omega) (by rw[df];exact hn) j hj (by omega),zZ hi (by omega),ax (by omega),ax (by omega)]
     · rfl
theorem JF {l:List S}(h:l≠[]):iI l=l.getD 0 .z:=by have:=List.length_pos_iff.2 h;unfold iI low;rw[Bu _ (by rw[df];exact this) (by rw[df];omega) _ (Nat.le_refl _) (by omega),zZ this (by omega),ay rfl]
theorem sM {l:List S}(h:l≠[]):(low l).length=l.length:=(AX h).length_eq
theorem uz {l:List S}(h:l≠[]):(rest l).length=l.length-1:=by unfold rest;rw[List.length_take,sM h];omega
theorem Gc {l:List S}(h:l≠[]):low l=rest l++[iI l]:=by have:=List.length_pos_iff.2 h;have hl:=sM h;unfold rest iI;rw[get_at (by omega)];(conv=>lhs;rw[←List.take_append_drop (l.length-1) (low l)]);congr 1;rw[List.drop_eq_getElem_cons (by omega),List.drop_eq_nil_of_le (by omega)]
theorem IG {l:List S}(h:l≠[]):(iI l::rest l).Perm l:=by have h1:=AX h;rw[Gc h]at h1;exact(List.perm_append_comm (l₁:=[iI l]) (l₂:=rest l)).trans h1
theorem EM (l:List S){i n:Nat}(h:i<n):(l.take n).getD i .z=l.getD i .z:=by rw[ah,List.getElem?_take_of_lt h,ah]
theorem FE {l:List S}(hne:l≠[])(h:H l l.length):H (rest l) (l.length-1):=by have h0:=List.length_pos_iff.2 hne;have hs:=zZ h0 (show l.length-1<l.length by omega);have h1:H (low l) (l.length-1):=by{refine wU _ (by rw[df];exact h0) (by rw[df];omega) (by omega) ⟨fun j h1 hj hij=>?_,fun hc=>absurd hc (by omega)⟩;rw[hs,hs,ax (by omega),ax (by omega),ax (by omega),ax (by omega)];exact h j h1 (by omega)};intro i h2 hi;unfold rest;rw[EM _ (by omega),EM _ hi];exact h1 i h2 hi
theorem Gz {l:List S}(hne:l≠[])(h:H l l.length):∀x∈l,le (iI l) x:=by intro x hx;obtain⟨j,hj,e⟩:=List.getElem_of_mem hx;rw[JF hne,←e,←get_at hj];exact h.root j hj
def Un (l:List S):Prop:=l.Pairwise fun x y=>x.b≠y.b
theorem Un.perm {l m:List S}(h:Un l)(hp:m.Perm l):Un m:=(hp.pairwise_iff fun h=>fun e=>h e.symm).2 h
def drain:Nat->List S->List S
 |0,_=>[]
 |n+1,l=>iI l::drain n (rest l)
theorem I6 {l:List S}{n:Nat}(h:l.length=n+1):l≠[]:=by intro e;rw[e]at h;simp at h
theorem AA:∀(n:Nat)(l:List S),l.length=n->H l n->Un l->(drain n l).Perm l/\(drain n l).Pairwise fun x y=>lt x y=true
 | 0,l,hl,h,hu=>by
   rw[List.length_eq_zero_iff.1 hl]
   exact⟨List.Perm.refl _,List.Pairwise.nil⟩
 | n+1,l,hl,h,hu=>by
   have hne:=I6 hl
   have hp:=IG hne
   have hu':=hu.perm hp
   have hr:=FE hne (by rw[hl];exact h)
   rw[hl]at hr
   obtain⟨h1,h2⟩:=AA n (rest l) (by rw[uz hne,hl];rfl) hr (List.pairwise_cons.1 hu').2
   refine⟨(h1.cons _).trans hp,List.pairwise_cons.2 ⟨fun y hy=>?_,h2⟩⟩
   have h3:=h1.mem_iff.1 hy
   have h4:=Gz hne (by rw[hl];exact h) y (hp.mem_iff.1 (List.mem_cons_of_mem _ h3))
   have h5:=(List.pairwise_cons.1 hu').1 y h3
   rw[qW]
   unfold le at h4
   omega
def left (l:List S):Nat->List S
 |0=>l
 |n+1=>rest (left l n)
theorem Bj:∀(n:Nat)(l:List S)(i:Nat),i<n->(drain n l).getD i .z=iI (left l i)
 |0,l,i,h=>absurd h (by omega)
 |n+1,l,0,h=>rfl
 | n + 1,l,i+1,h=>by
   have e:∀j,left l (j+1)=left (rest l) j:=fun j=>by
     induction j with
     |zero=>rfl
     | succ j ih=>
       show rest (left l (j+1))=rest (left (rest l) j)
       rw[ih]
   rw[e i,←Bj n (rest l) i (by omega)]
   rfl
theorem Av (l:List S):∀n,n<=l.length->(left l n).length=l.length-n
 |0,_=>rfl
 | n+1,h=>by
   have ih:=Av l n (by omega)
   show(rest (left l n)).length=_
   rw[uz (I6 (n:=l.length-n-1) (by omega)),ih]
   omega
def wait (l:List S)(k:Nat):List S:=(l.take k).foldl push []
theorem xM {l:List S}{k:Nat}(h:k<l.length):wait l (k+1)=push (wait l k) (l.getD k .z):=by unfold wait;rw[List.take_add_one,List.foldl_append,get_at h,ai h];rfl
theorem yP (l:List S):∀k,k<=l.length->(wait l k).Perm (l.take k)/\H (wait l k) k
 |0,_=>⟨List.Perm.refl _,fun i h0 hi=>absurd hi (by omega)⟩
 | k+1,hk=>by
   obtain⟨h1,h2⟩:=yP l k (by omega)
   have hl:(wait l k).length=k:=by rw[h1.length_eq,List.length_take];omega
   rw[xM (by omega)]
   have h3:=Gs (l.getD k .z) (l:=wait l k) (by rw[hl];exact h2)
   rw[hl]at h3
   refine⟨(Fq _ _).trans ?_,h3⟩
   rw[List.take_add_one,get_at (by omega),ai (by omega)]
   exact h1.append_right _
theorem same:∀{l m:List S},(l.Pairwise fun x y=>lt x y=true)->(m.Pairwise fun x y=>lt x y=true)->(∀x,x∈l↔x∈m)->l=m
 |[],[],_,_,_=>rfl
 |[],y::m,_,_,h=>absurd ((h y).2 (List.mem_cons_self ..)) (by simp)
 |x::l,[],_,_,h=>absurd ((h x).1 (List.mem_cons_self ..)) (by simp)
 | x ::l,y::m,h1,h2,h=>by
   have a1:=List.pairwise_cons.1 h1
   have a2:=List.pairwise_cons.1 h2
   have e:x=y:=by
     rcases List.mem_cons.1 ((h x).1 (List.mem_cons_self ..))with e|hx
     · exact e
     · rcases List.mem_cons.1 ((h y).2 (List.mem_cons_self ..))with e|hy
       · exact e.symm
       · have b1:=qW.1 (a2.1 x hx)
         have b2:=qW.1 (a1.1 y hy)
         omega
   subst e
   rw[same a1.2 a2.2 fun z=>?_]
   have hz:=h z
   rw[List.mem_cons,List.mem_cons]at hz
   constructor
   · intro hl
     rcases hz.1 (.inr hl)with e|hm
     · subst e
       have:=qW.1 (a1.1 _ hl)
       omega
     · exact hm
   · intro hl
     rcases hz.2 (.inr hl)with e|hm
     · subst e
       have:=qW.1 (a2.1 _ hl)
       omega
     · exact hm
theorem KY {l:List S}(hB:Hm.Bx l){i:Nat}(hi:i<l.length):iI (left (wait l l.length) i)=l.getD ((Hm.ord l l.length).getD i 0) .z:=by obtain⟨hp,hH⟩:=yP l l.length (Nat.le_refl _);rw[List.take_length]at hp;have hun:Un l:=by{rw[Un,List.pairwise_iff_getElem];intro j k hj hk hjk;have:=hB.one j k hjk hk;rw[get_at hj,get_at hk]at this;omega};obtain⟨h1,h2⟩:=AA l.length (wait l l.length) hp.length_eq hH (hun.perm hp);have h3:drain l.length (wait l l.length)=(Hm.ord l l.length).map fun k=>l.getD k .z:=by{refine same h2 ?_ fun x=>?_;{rw[List.pairwise_map];refine(List.pairwise_iff_getElem.2 fun a b ha hb hab=>?_);have h4:=List.pairwise_iff_getElem.1 (Hm.uC l l.length) a b ha hb hab;have h5:=Hm.gK.1 (List.getElem_mem ha);have h6:=Hm.gK.1 (List.getElem_mem hb);rw[qW];unfold Hm.Ky at h4;rcases h4 with h4|⟨h4,h7⟩;{exact .inl h4};exact .inr ⟨h4,hB.one _ _ h7 h6⟩};rw[(h1.trans hp).mem_iff,List.mem_map];constructor;{intro hx;obtain⟨j,hj,e⟩:=List.getElem_of_mem hx;exact⟨j,Hm.gK.2 hj,by rw[get_at hj];exact e⟩};rintro⟨j,hj,rfl⟩;exact Hm.at_mem (Hm.gK.1 hj)};rw[←Bj l.length _ i hi,h3];have h8:i<(Hm.ord l l.length).length:=by{rw[Hm.dF];exact hi};rw[ah,List.getElem?_map,ai h8,Hm.kD h8];rfl
end Hp
end
section
open Go.RowKit
set_option linter.unusedSimpArgs false
namespace Hp
open Sp
open Hm (Bx Inv hold late go dn val dD eY bS)
def eb (a b:S):Bool:=decide (b.t<a.t)||(decide (a.t=b.t)&&decide (b.b<a.b))
def Gq:S:=⟨-1,-1,-1,false⟩
def free (L:List S)(s:S):Nat->Nat->Int
 |0,_=>-1
 |n+1,k=>if bH s (L.getD k .z)=false then(k:Int)else free L s n (k+1)
def jQ (L:List S):Nat->Nat
 |0=>0
 |k+1=>if eb (L.getD k .z) (L.getD (jQ L k) .z)=true then k else jQ L k
structure P where
 L:List S
 h:List Int
def dZ (p:P)(s:S):P:=⟨p.L,p.h.set s.b.toNat 100⟩
def lZ (p:P)(s:S)(k:Nat):P:=⟨p.L.set k s,p.h.set s.b.toNat (k:Int)⟩
def jh (p:P)(s:S):P:=
 if eb s (p.L.getD (jQ p.L 5) .z)=true then dZ p s else lZ (dZ p (p.L.getD (jQ p.L 5) .z)) s (jQ p.L 5)
def tK (p:P)(s:S):P:=
 if s.c=true then dZ p s
 else if free p.L s 5 0=-1 then jh p s else lZ p s (free p.L s 5 0).toNat
def new:P:=⟨List.replicate 5 Gq,List.replicate 40 (-1)⟩
def aH (l:List S):Nat->P
 |0=>new
 |n+1=>tK (aH l n) (l.getD ((Hm.ord l l.length).getD n 0) .z)
def tp (h:List Int):Nat->Nat
 |0=>0
 |b+1=>if 100<=h.getD b 0 then tp h b+1 else tp h b
def lM (h:List Int)(b:Nat):Int:=if 100<=h.getD b 0 then 100+(tp h b:Int)else h.getD b 0
def told (h:List Int):List Int:=(List.range 40).map (lM h)
def jF (x:Int):Int:=if x=-2 then 100 else x
theorem EC (L:List S)(k j:Nat)(s:S)(hk:k<L.length):(L.set k s).getD j .z=if k=j then s else L.getD j .z:=by rw[ah,List.getElem?_set];by_cases e:k=j;{rw[ay e,ay hk,ay e];rfl};rw[ax e,ax e,←ah]
structure R (l:List S)(n:Nat)(r:List Int)(p:P):Prop where
 len:p.L.length=5
 hlen:p.h.length=40
 E5:∀k,k<l.length->p.h.getD (l.getD k .z).b.toNat 0=jF (r.getD k 0)
 non:∀b:Nat,b<40->(∀k,k<l.length->(l.getD k .z).b≠(b:Int))->p.h.getD b 0=-1
 lu:∀sh:Nat,sh<5->(p.L.getD sh .z=Gq/\∀k,dn l n k->r.getD k 0≠(sh:Int))\/
   ∃z,dn l n z/\p.L.getD sh .z=l.getD z .z/\r.getD z 0=(sh:Int)/\∀k,dn l n k->k≠z->r.getD k 0=(sh:Int)->(l.getD k .z).t<(l.getD z .z).f
theorem R.zero (l:List S)(hB:Bx l):R l 0 (Hm.run l 0) new:=by refine⟨by simp[new],by simp[new],fun k hk=>?_,fun b hb _=>?_,fun sh hsh=> .inl ⟨?_,?_⟩⟩;{have h1:=hB.lo k hk;have e:(Hm.run l 0).getD k 0=-1:=by{show(List.replicate l.length (-1:Int)).getD k 0=-1;rw[ah,List.getElem?_replicate,ay hk];rfl};rw[e];show(List.replicate 40 (-1:Int)).getD _ 0=_;rw[ah,List.getElem?_replicate,ay (by omega)];rfl};{show(List.replicate 40 (-1:Int)).getD _ 0=_;rw[ah,List.getElem?_replicate,ay hb];rfl};{show(List.replicate 5 Gq).getD _ .z=_;rw[ah,List.getElem?_replicate,ay hsh];rfl};rintro k ⟨j,h1,-⟩;omega
theorem Mt {l:List S}{n:Nat}{r:List Int}{p:P}(hI:Inv l n r)(hR:R l n r p)(hn:n<l.length)(h0:∀k,k<l.length->0<=(l.getD k .z).f/\(l.getD k .z).f<=(l.getD k .z).t)(sh:Nat)(hsh:sh<5):(bH (l.getD ((Hm.ord l l.length).getD n 0) .z) (p.L.getD sh .z)=false/\hold l r ((Hm.ord l l.length).getD n 0) (sh:Int) l.length<0)\/(bH (l.getD ((Hm.ord l l.length).getD n 0) .z) (p.L.getD sh .z)=true/\¬hold l r ((Hm.ord l l.length).getD n 0) (sh:Int) l.length<0/\dn l n (hold l r ((Hm.ord l l.length).getD n 0) (sh:Int) l.length).toNat/\p.L.getD sh .z=l.getD (hold l r ((Hm.ord l l.length).getD n 0) (sh:Int) l.length).toNat .z/\r.getD (hold l r ((Hm.ord l l.length).getD n 0) (sh:Int) l.length).toNat 0=(sh:Int)):=by have hbef:=fun k hk=>Hm.zA (k:=k) hn hk;have hil:(Hm.ord l l.length).getD n 0<l.length:=Hm.kU ⟨n,Nat.lt_succ_self n,hn,rfl⟩;generalize(Hm.ord l l.length).getD n 0=i at hbef hil;have hdn:∀k,k<l.length->0<=r.getD k 0->dn l n k:=fun k hk h0=>by{refine Classical.byContradiction fun hc=>?_;have:=hI.un k hk hc;omega};have hi:=h0 i hil;rcases hR.lu sh hsh with⟨e,hno⟩|⟨z,hz,e,hrz,hlast⟩;{refine .inl ⟨?_,Classical.byContradiction fun hc=>?_⟩;{rw[e];unfold bH Gq;simp only[Bool.and_eq_false_iff,decide_eq_false_iff_not];omega};obtain⟨h1,h2,h3⟩:=Hm.kg hc;exact hno _ (hdn _ h1 (by omega)) h2};have hzl:=Hm.kU hz;have abb:∀k,k<l.length->r.getD k 0=(sh:Int)->bH (l.getD k .z) (l.getD i .z)=true->k=z:=fun k hk e1 e2=>by{refine Classical.byContradiction fun hne=>?_;have h1:=hlast k (hdn k hk (by omega)) hne e1;have h2:=hbef z hz;unfold bH at e2;simp only[au,decide_eq_true_eq]at e2;omega};by_cases hc:hold l r i (sh:Int) l.length<0;{refine .inl ⟨?_,hc⟩;rw[e,meet_comm];exact Hm.sO hc z hzl hrz};obtain⟨h1,h2,h3⟩:=Hm.kg hc;have h4:=abb _ h1 h2 h3;refine .inr ⟨?_,hc,?_,?_,h2⟩;{rw[e,meet_comm,←h4];exact h3};{rw[h4];exact hz};rw[h4];exact e
theorem Mg (l:List S)(k j:Nat):late l k j=eb (l.getD k .z) (l.getD j .z):=rfl
theorem qV {a b:S}:eb a b=true↔b.t<a.t\/a.t=b.t/\b.b<a.b:=by unfold eb;simp only[Bool.or_eq_true,au,decide_eq_true_eq]
theorem y9 {l:List S}{r:List Int}{i z:Nat}:∀{n:Nat}{sh:Int}{last:Nat},go l r i n sh last=(none,z)->
   ¬eb (l.getD last .z) (l.getD z .z)=true/\∀y,sh<=y->y<sh+n->¬eb (l.getD (hold l r i y l.length).toNat .z) (l.getD z .z)=true
 | 0,sh,last,hg=>by
   simp only[go,Prod.mk.injEq,true_and]at hg
   subst hg
   exact⟨by rw[qV];omega,fun y h1 h2=>absurd h2 (by omega)⟩
 | n + 1,sh,last,hg=>by
   unfold go at hg
   split at hg
   · simp at hg
   · obtain⟨h1,h2⟩:=y9 hg
     rw[Mg]at h1
     refine⟨?_,fun y hy1 hy2=>?_⟩
     · split at h1
       · rename_i hx
         rw[qV]at*
         omega
       · exact h1
     · by_cases e:y=sh
       · subst e
         split at h1
         · exact h1
         · rename_i hx
           rw[qV]at*
           omega
       · exact h2 y (by omega) (by omega)
theorem uI (L:List S):∀k,jQ L k<=k-1
 |0=>Nat.le_refl _
 | k+1=>by
   have:=uI L k
   unfold jQ
   split<;>omega
theorem yT (L:List S):∀k y,y<k->¬eb (L.getD y .z) (L.getD (jQ L k) .z)=true
 |0,y,hy=>absurd hy (by omega)
 | k + 1,y,hy=>by
   unfold jQ
   split
   · rename_i hx
     by_cases e:y=k
     · rw[e,qV];omega
     · have:=yT L k y (by omega)
       rw[qV]at*
       omega
   · rename_i hx
     by_cases e:y=k
     · rw[e];exact hx
     · exact yT L k y (by omega)
theorem ER {l:List S}{r:List Int}{i:Nat}{L:List S}{s:S}(hh:∀sh:Nat,sh<5->(bH s (L.getD sh .z)=false↔hold l r i (sh:Int) l.length<0)):
   ∀(n k last:Nat),k+n=5->(∃(x z:Nat),go l r i n (k:Int) last=(some (x:Int),z)/\free L s n k=(x:Int)/\x<5)\/(∃z,go l r i n (k:Int) last=(none,z)/\free L s n k=-1)
 |0,k,last,_=> .inr ⟨last,rfl,rfl⟩
 | n +1,k,last,hk=>by
   unfold go free
   by_cases h1:hold l r i (k:Int) l.length<0
   · rw[ay h1,ay ((hh k (by omega)).2 h1)]
     exact .inl ⟨k,last,rfl,rfl,by omega⟩
   · rw[ax h1,ax (fun e=>h1 ((hh k (by omega)).1 e))]
     exact ER hh n (k+1) _ (by omega)
section
variable {l : List S} {n : Nat} {r : List Int} {p : P}
theorem og (hB:Bx l){j k:Nat}(hj:j<l.length)(hk:k<l.length)(h:(l.getD j .z).b.toNat=(l.getD k .z).b.toNat):j=k:=by have h1:=hB.lo j hj;have h2:=hB.lo k hk;rcases Nat.lt_trichotomy j k with h3|h3|h3;{have:=hB.one j k h3 hk;omega};{exact h3};have:=hB.one k j h3 hj;omega
theorem EY (hB:Bx l)(hR:R l n r p)(hrl:r.length=l.length){i:Nat}(hi:i<l.length)(x:Int):(∀k,k<l.length->(p.h.set (l.getD i .z).b.toNat (jF x)).getD (l.getD k .z).b.toNat 0=jF ((r.set i x).getD k 0))/\(∀b:Nat,b<40->(∀k,k<l.length->(l.getD k .z).b≠(b:Int))->(p.h.set (l.getD i .z).b.toNat (jF x)).getD b 0=-1):=by have h1:=hB.lo i hi;refine⟨fun k hk=>?_,fun b hb hno=>?_⟩;{rw[bS _ _ _ _ (by rw[hR.hlen];omega),bS _ _ _ _ (by omega)];by_cases e:i=k;{rw[ay (by rw[e]),ay e]};rw[ax (fun h=>e (og hB hi hk h)),ax e];exact hR.E5 k hk};have h2:=hno i hi;rw[bS _ _ _ _ (by rw[hR.hlen];omega),ax (by omega)];exact hR.non b hb hno
theorem R.next (hB:Bx l) (hI:Inv l n r) (hR:R l n r p) (hn:n<l.length) (h0:∀k,k<l.length->0<=(l.getD k .z).f/\(l.getD k .z).f<=(l.getD k .z).t):R l (n+1) (Hm.put l r ((Hm.ord l l.length).getD n 0)) (tK p (l.getD ((Hm.ord l l.length).getD n 0) .z)):=by
 have hH:=Mt hI hR hn h0
 have hnew:=Hm.yl hn
 have hbef:=fun k hk=>Hm.zA (k:=k) hn hk
 have hsucc:=fun k=>Hm.Eu (k:=k) hn
 have hil:(Hm.ord l l.length).getD n 0<l.length:=Hm.kU ⟨n,Nat.lt_succ_self n,hn,rfl⟩
 generalize(Hm.ord l l.length).getD n 0=i at hnew hbef hsucc hil hH
 have hrl:=hI.len
 have hi1:=hI.un i hil hnew
 have hrs:=fun(x:Int) k=>bS r i k x (by omega)
 have stay:∀(x:Int),x<0->∀sh:Nat,sh<5->(p.L.getD sh .z=Gq/\∀k,dn l (n+1) k->(r.set i x).getD k 0≠(sh:Int))\/
     ∃z,dn l (n+1) z/\p.L.getD sh .z=l.getD z .z/\(r.set i x).getD z 0=(sh:Int)/\∀k,dn l (n+1) k->k≠z->(r.set i x).getD k 0=(sh:Int)->(l.getD k .z).t<(l.getD z .z).f:=by
   intro x hx sh hsh
   rcases hR.lu sh hsh with⟨e,hno⟩|⟨z,hz,e,hrz,hlast⟩
   · refine .inl ⟨e,fun k hk=>?_⟩
     rw[hrs]
     split
     · omega
     · rename_i hne
       rcases(hsucc k).1 hk with h|h
       · exact hno k h
       · exact absurd h.symm hne
   · have hzi:i≠z:=fun h=>hnew (h▸hz)
     refine .inr ⟨z,(hsucc z).2 (.inl hz),e,by rw[hrs,ax hzi];exact hrz,fun k hk hkz=>?_⟩
     rw[hrs]
     split
     · omega
     · rename_i hne
       rcases(hsucc k).1 hk with h|h
       · exact hlast k h hkz
       · exact absurd h.symm hne
 have BN:R l (n+1) (r.set i (-2)) (dZ p (l.getD i .z)):=by obtain⟨h1,h2⟩:=EY hB hR hrl hil (-2);exact⟨hR.len,by show(List.set _ _ _).length=40;rw[List.length_set];exact hR.hlen,h1,h2,stay (-2) (by omega)⟩
 unfold Hm.put tK
 split
 · exact BN
 · rename_i hc
   have hcf:(l.getD i .z).c=false:=by simpa using hc
   have hiff:∀sh:Nat,sh<5->(bH (l.getD i .z) (p.L.getD sh .z)=false↔hold l r i (sh:Int) l.length<0):=fun sh hsh=>by rcases hH sh hsh with⟨h1,h2⟩|⟨h1,h2,-⟩;{exact⟨fun _=>h2,fun _=>h1⟩};exact⟨fun h=>absurd (h1.symm.trans h) (by decide),fun h=>absurd h h2⟩
   rcases ER hiff 5 0 i (by omega)with⟨x,z,hg,hf,hx5⟩|⟨z,hg,hf⟩
   ·
     have hg':go l r i 5 0 i=(some (x:Int),z):=hg
     rw[hg',hf,ax (by omega),az]
     show R l (n+1) (r.set i (x:Int)) (lZ p (l.getD i .z) x)
     have hxe:jF (x:Int)=(x:Int):=by unfold jF;rw[ax (by omega)]
     obtain⟨h1,h2⟩:=EY hB hR hrl hil (x:Int)
     rw[hxe]at h1 h2
     have hfree:=(hiff x hx5)
     obtain⟨g1,g2,g3⟩:=Hm.kQ hg'
     have hno:=Hm.sO g3
     refine⟨by show(List.set _ _ _).length=5;rw[List.length_set];exact hR.len,by show(List.set _ _ _).length=40;rw[List.length_set];exact hR.hlen,h1,h2,fun sh hsh=>?_⟩
     show(((p.L.set x (l.getD i .z)).getD sh .z=Gq/\_)\/∃z,_/\(p.L.set x (l.getD i .z)).getD sh .z=_/\_)
     rw[EC _ _ _ _ (by rw[hR.len];exact hx5)]
     by_cases hxs:x=sh
     · rw[ay hxs]
       refine .inr ⟨i,(hsucc i).2 (.inr rfl),rfl,by rw[hrs,ay rfl,hxs],fun k hk hki=>?_⟩
       rw[hrs,ax (fun h=>hki h.symm)]
       intro hks
       have hkd:dn l n k:=by
         rcases(hsucc k).1 hk with h|h
         · exact h
         · exact absurd h hki
       have hkl:=Hm.kU hkd
       have hm:=hno k hkl (by rw[hks,hxs])
       have h3:=hbef k hkd
       have h4:=h0 k hkl
       have h5:=h0 i hil
       unfold bH at hm
       simp only[Bool.and_eq_false_iff,decide_eq_false_iff_not]at hm
       omega
     · rw[ax hxs]
       rcases hR.lu sh hsh with⟨e,hno'⟩|⟨z,hz,e,hrz,hlast⟩
       · refine .inl ⟨e,fun k hk=>?_⟩
         rw[hrs]
         split
         · omega
         · rename_i hne
           rcases(hsucc k).1 hk with h|h
           · exact hno' k h
           · exact absurd h.symm hne
       · have hzi:i≠z:=fun h=>hnew (h▸hz)
         refine .inr ⟨z,(hsucc z).2 (.inl hz),e,by rw[hrs,ax hzi];exact hrz,fun k hk hkz=>?_⟩
         rw[hrs]
         split
         · omega
         · rename_i hne
           rcases(hsucc k).1 hk with h|h
           · exact hlast k h hkz
           · exact absurd h.symm hne
   ·
     have hg':go l r i 5 0 i=(none,z):=hg
     rw[hg',hf,ay rfl]
     obtain⟨g1,g2⟩:=Hm.mY hg'
     obtain⟨m1,m2⟩:=y9 hg'
     have hq:jQ p.L 5<5:=by have:=uI p.L 5;omega
     have hmax:=yT p.L 5
     show R l (n+1) (if z≠i then(r.set i (r.getD z 0)).set z (-2)else r.set i (-2)) (jh p (l.getD i .z))
     unfold jh
     generalize jQ p.L 5=q at hq hmax
     have hall:∀sh:Nat,sh<5->dn l n (hold l r i (sh:Int) l.length).toNat/\p.L.getD sh .z=l.getD (hold l r i (sh:Int) l.length).toNat .z/\r.getD (hold l r i (sh:Int) l.length).toNat 0=(sh:Int):=fun sh hsh=>by
       rcases hH sh hsh with⟨h1,h2⟩|⟨h1,h2,h3,h4,h5⟩
       · exact absurd h2 (g1 (sh:Int) (by omega) (by omega))
       · exact⟨h3,h4,h5⟩
     obtain⟨q1,q2,q3⟩:=hall q hq
     have Oo:=Hm.kU q1
     have hqi:(hold l r i (q:Int) l.length).toNat≠i:=fun h=>hnew (h▸q1)
     have m3:=m2 (q:Int) (by omega) (by omega)
     by_cases hgt:eb (l.getD i .z) (p.L.getD q .z)=true
     · have hzi:z=i:=by
         rcases g2 with h|⟨y,hy1,hy2,h⟩
         · exact h
         · obtain⟨y',rfl⟩:∃y':Nat,y=(y':Int):=⟨y.toNat,by omega⟩
           obtain⟨-,w2,-⟩:=hall y' (by omega)
           have w3:=hmax y' (by omega)
           rw[w2,←h]at w3
           rw[qV]at*
           omega
       rw[hzi,ax (fun h=>h rfl),ay hgt]
       exact BN
     · have hzq:z=(hold l r i (q:Int) l.length).toNat:=by
         rcases g2 with h|⟨y,hy1,hy2,h⟩
         · exfalso
           rw[h]at m3
           rw[q2]at hgt
           rw[qV]at m3 hgt
           exact hqi (og hB Oo hil (by omega))
         · obtain⟨y',rfl⟩:∃y':Nat,y=(y':Int):=⟨y.toNat,by omega⟩
           obtain⟨w1,w2,-⟩:=hall y' (by omega)
           have w3:=hmax y' (by omega)
           rw[w2,q2]at w3
           rw[h]at m3 ⊢
           rw[qV]at m3 w3
           exact(og hB (Hm.kU w1) Oo (by omega))
       rw[ax hgt,hzq,q2]
       generalize(hold l r i (q:Int) l.length).toNat=o at q1 q2 q3 Oo hqi
       rw[ay hqi,q3]
       have GM:∀k,((r.set i (q:Int)).set o (-2)).getD k 0=if o=k then -2 else if i=k then(q:Int)else r.getD k 0:=fun k=>by
         rw[bS _ o k _ (by rw[List.length_set];omega),hrs]
       have Zv:=hB.lo o Oo
       have hbi:=hB.lo i hil
       have Us:∀b,((p.h.set (l.getD o .z).b.toNat 100).set (l.getD i .z).b.toNat (q:Int)).getD b 0=if(l.getD i .z).b.toNat=b then(q:Int)else if(l.getD o .z).b.toNat=b then 100 else p.h.getD b 0:=fun b=>by
         rw[bS _ _ b _ (by rw[List.length_set,hR.hlen];omega),bS _ _ b _ (by rw[hR.hlen];omega)]
       refine⟨?_,?_,fun k hk=>?_,fun b hb hno=>?_,fun sh hsh=>?_⟩
       · show(List.set _ _ _).length=5;rw[List.length_set];exact hR.len
       · show(List.set (List.set _ _ _) _ _).length=40;rw[List.length_set,List.length_set];exact hR.hlen
       · show((p.h.set (l.getD o .z).b.toNat 100).set (l.getD i .z).b.toNat (q:Int)).getD _ 0=_
         rw[Us,GM]
         by_cases e1:o=k
         · rw[ax (fun h=>hqi (e1.trans (og hB hil hk h).symm)),ay (by rw[e1]),ay e1]
           rfl
         · by_cases e2:i=k
           · rw[ay (by rw[e2]),ax e1,ay e2]
             unfold jF
             rw[ax (by omega)]
           · rw[ax (fun h=>e2 (og hB hil hk h)),ax (fun h=>e1 (og hB Oo hk h)),ax e1,ax e2]
             exact hR.E5 k hk
       · show((p.h.set (l.getD o .z).b.toNat 100).set (l.getD i .z).b.toNat (q:Int)).getD _ 0=_
         have n1:=hno i hil
         have n2:=hno o Oo
         rw[Us,ax (by omega),ax (by omega)]
         exact hR.non b hb hno
       · show (((p.L.set q (l.getD i .z)).getD sh .z=Gq/\_)\/∃z,_/\(p.L.set q (l.getD i .z)).getD sh .z=_/\_)
         rw[EC _ _ _ _ (by rw[hR.len];exact hq)]
         by_cases Zw:q=sh
         · rw[ay Zw]
           refine .inr ⟨i,(hsucc i).2 (.inr rfl),rfl,by rw[GM,ax hqi,ay rfl,Zw],fun k hk hki=>?_⟩
           rw[GM]
           by_cases e1:o=k
           · rw[ay e1];omega
           · rw[ax e1,ax (fun h=>hki h.symm)]
             intro hks
             have hkd:dn l n k:=by
               rcases(hsucc k).1 hk with h|h
               · exact h
               · exact absurd h hki
             have hkl:=Hm.kU hkd
             rcases hR.lu q hq with⟨e,hno'⟩|⟨z',hz',e,hrz,hlast⟩
             · exact absurd q3 (hno' o q1)
             · have Ut:z'=o:=by
                 have abd:=Hm.kU hz'
                 refine og hB abd Oo ?_
                 rw[←e,q2]
               have h3:=hlast k hkd (by rw[Ut];exact fun h=>e1 h.symm) (by rw[hks,Zw])
               have h4:=hbef o q1
               rw[Ut]at h3
               omega
         · rw[ax Zw]
           rcases hR.lu sh hsh with⟨e,hno'⟩|⟨z',hz',e,hrz,hlast⟩
           · refine .inl ⟨e,fun k hk=>?_⟩
             rw[GM]
             split
             · omega
             · split
               · omega
               · rename_i hne
                 rcases(hsucc k).1 hk with h|h
                 · exact hno' k h
                 · exact absurd h.symm hne
           · have hzi:i≠z':=fun h=>hnew (h▸hz')
             have hzo:o≠z':=by
               intro h
               rw[←h,q3]at hrz
               omega
             refine .inr ⟨z',(hsucc z').2 (.inl hz'),e,by rw[GM,ax hzo,ax hzi];exact hrz,fun k hk hkz=>?_⟩
             rw[GM]
             split
             · omega
             · split
               · omega
               · rename_i hne
                 rcases(hsucc k).1 hk with h|h
                 · exact hlast k h hkz
                 · exact absurd h.symm hne
end
theorem R.all {l:List S}(hB:Bx l)(h0:∀k,k<l.length->0<=(l.getD k .z).f/\(l.getD k .z).f<=(l.getD k .z).t):∀n,n<=l.length->R l n (Hm.run l n) (aH l n)
 |0,_=>R.zero l hB
 |n+1,hn=>R.next hB (Inv.run l n (by omega)) (R.all hB h0 n (by omega)) (by omega) h0
theorem tF (h:List Int):(told h).length=40:=by simp[told]
theorem Jh {l:List S}{r:List Int}{h:List Int}(hB:Bx l)(E5:∀k,k<l.length->h.getD (l.getD k .z).b.toNat 0=jF (r.getD k 0))(hr:∀k,k<l.length->r.getD k 0<100)
   (non:∀b:Nat,b<40->(∀k,k<l.length->(l.getD k .z).b≠(b:Int))->h.getD b 0=-1):
   ∀(b k:Nat),b<=40->k<=l.length->(∀j,j<k->(l.getD j .z).b<(b:Int))->(∀j,k<=j->j<l.length->(b:Int)<=(l.getD j .z).b)->tp h b=dD r k
 | 0,k,hb,hk,h1,h2=>by
   cases k with
   |zero=>rfl
   |succ k=>have:=h1 k (by omega);have:=hB.lo k (by omega);omega
 | b + 1,k,hb,hk,h1,h2=>by
   by_cases hx:0<k/\(l.getD (k-1) .z).b=(b:Int)
   · obtain⟨hk0,hxb⟩:=hx
     obtain⟨k',rfl⟩:∃k',k=k'+1:=⟨k-1,by omega⟩
     rw[Nat.add_sub_cancel]at hxb
     have ih:=Jh hB E5 hr non b k' (by omega) (by omega) (fun j hj=>by have:=hB.one j k' hj (by omega);omega) (fun j hj hjl=>by
       by_cases e:j=k'
       · rw[e];omega
       · have:=hB.one k' j (by omega) hjl;omega)
     have h3:=E5 k' (by omega)
     rw[hxb,az]at h3
     have h4:=hr k' (by omega)
     unfold tp dD
     rw[ih,h3]
     unfold jF
     by_cases e:r.getD k' 0=-2
     · rw[ay e,ay (by omega),ay e]
     · rw[ax e,ax (by omega),ax e]
   · have hlo:∀j,j<k->(l.getD j .z).b<(b:Int):=fun j hj=>by
       have a1:=h1 j hj
       by_cases e:j=k-1
       · subst e
         have:(l.getD (k-1) .z).b≠(b:Int):=fun h=>hx ⟨by omega,h⟩
         omega
       · have:=hB.one j (k-1) (by omega) (by omega)
         have:=h1 (k-1) (by omega)
         omega
     have ih:=Jh hB E5 hr non b k (by omega) hk hlo (fun j hj hjl=>by have:=h2 j hj hjl;omega)
     have h3:=non b (by omega) (fun j hj=>by
       by_cases e:j<k
       · have:=hlo j e;omega
       · have:=h2 j (by omega) hj;omega)
     unfold tp
     rw[h3,ax (by omega)]
     exact ih
theorem LY {l:List S}(hB:Bx l)(h0:∀k,k<l.length->0<=(l.getD k .z).f/\(l.getD k .z).f<=(l.getD k .z).t):told (aH l l.length).h=eY l (Hm.run l l.length) l.length:=by
 have hR:=R.all hB h0 l.length (Nat.le_refl _)
 have hI:=Inv.run l l.length (Nat.le_refl _)
 generalize Hm.run l l.length=r at hR hI
 generalize aH l l.length=p at hR
 have hr:∀k,k<l.length->r.getD k 0<100:=fun k hk=>by rcases hI.val k (Hm.zL hk)with h|⟨h1,h2,-⟩<;>omega
 refine List.ext_getElem (by rw[tF,Hm.gU]) fun b h1 h2=>?_
 rw[tF]at h1
 rw[←Hm.sP h2]
 have e1:(told p.h)[b]'(by rw[tF];exact h1)=lM p.h b:=by simp[told]
 rw[e1]
 by_cases hx:∃k,k<l.length/\(l.getD k .z).b=(b:Int)
 · obtain⟨k,hk,hkb⟩:=hx
   have h3:=hR.E5 k hk
   have h4:=Hm.oF (h:=r) hB l.length (Nat.le_refl _) k hk
   rw[hkb,az]at h3 h4
   have h5:=Jh hB hR.E5 hr hR.non b k (by omega) (by omega) (fun j hj=>by have:=hB.one j k hj hk;omega) (fun j hj hjl=>by
    by_cases e:j=k
    · rw[e];omega
    · have:=hB.one k j (by omega) hjl;omega)
   rw[h4]
   unfold lM val
   rw[h3,h5]
   have h6:=hr k hk
   unfold jF
   by_cases e:r.getD k 0=-2
   · rw[ay e,ay (by omega),ay e]
   · rw[ax e,ax (by omega),ax e]
 · have hno:∀k,k<l.length->(l.getD k .z).b≠(b:Int):=fun k hk h=>hx ⟨k,hk,h⟩;rw[Hm.kG hB l.length (Nat.le_refl _) b h1 hno];unfold lM;rw[hR.non b h1 hno,ax (by omega)]
end Hp
end
section
open Go.RowKit
set_option linter.unusedSimpArgs false
namespace Hp
open Sp
open Hm (Bx Inv dn)
theorem Bo (L:List S)(s:S):∀n k,free L s n k=-1\/((k:Int)<=free L s n k/\free L s n k<(k:Int)+n)
 |0,k=> .inl rfl
 | n +1,k=>by
   unfold free
   split
   · exact .inr ⟨by omega,by omega⟩
   · rcases Bo L s n (k+1)with h|⟨h1,h2⟩
     · exact .inl h
     · exact .inr ⟨by omega,by omega⟩
theorem EX (L:List S)(s:S):∀n k,free L s n k=-1->∀j,k<=j->j<k+n->bH s (L.getD j .z)=true
 |0,k,h,j,h1,h2=>absurd h2 (by omega)
 | n +1,k,h,j,h1,h2=>by
   unfold free at h
   split at h
   · omega
   · rename_i hx
     by_cases e:j=k
     · rw[e];simpa using hx
     · exact EX L s n (k+1) h j (by omega) (by omega)
theorem Iz {s:S}(h:0<=s.f):bH s Gq=false:=by unfold bH Gq;simp only[Bool.and_eq_false_iff,decide_eq_false_iff_not];omega
theorem NK (ls:List Ln):∀k,k<(out ls 40).length->0<=((out ls 40).getD k .z).f/\((out ls 40).getD k .z).f<=((out ls 40).getD k .z).t:=fun k hk=>by
 obtain⟨b,f,t,hI⟩:=xR (Hm.at_mem hk)
 have:=hI.fr
 have:=hI.to
 have:=hI.le
 omega
theorem R.box {l:List S}{n:Nat}{r:List Int}{p:P}(hB:Bx l)(hR:R l n r p){s:S}(hs:0<=s.f)(hf:free p.L s 5 0=-1):0<=(p.L.getD (jQ p.L 5) .z).b/\(p.L.getD (jQ p.L 5) .z).b<40:=by have hq:jQ p.L 5<5:=by{have:=uI p.L 5;omega};rcases hR.lu _ hq with⟨e,-⟩|⟨z,hz,e,-⟩;{have h:=EX p.L s 5 0 hf _ (Nat.zero_le _) (by omega);rw[e,Iz hs]at h;cases h};rw[e];exact hB.lo z (Hm.kU hz)
theorem O6 {l:List S}{k:Nat}(h:k<l.length):(Hm.ord l l.length).getD k 0<l.length:=Hm.kU ⟨k,Nat.lt_succ_self k,h,rfl⟩
theorem KM {ls:List Ln}{k:Nat}(h:k<(out ls 40).length):(0<=((out ls 40).getD ((Hm.ord (out ls 40) (out ls 40).length).getD k 0) .z).b/\((out ls 40).getD ((Hm.ord (out ls 40) (out ls 40).length).getD k 0) .z).b<40)/\(free (aH (out ls 40) k).L ((out ls 40).getD ((Hm.ord (out ls 40) (out ls 40).length).getD k 0) .z) 5 0=-1->0<=((aH (out ls 40) k).L.getD (jQ (aH (out ls 40) k).L 5) .z).b/\((aH (out ls 40) k).L.getD (jQ (aH (out ls 40) k).L 5) .z).b<40)/\(free (aH (out ls 40) k).L ((out ls 40).getD ((Hm.ord (out ls 40) (out ls 40).length).getD k 0) .z) 5 0=-1\/0<=free (aH (out ls 40) k).L ((out ls 40).getD ((Hm.ord (out ls 40) (out ls 40).length).getD k 0) .z) 5 0/\free (aH (out ls 40) k).L ((out ls 40).getD ((Hm.ord (out ls 40) (out ls 40).length).getD k 0) .z) 5 0<5):=by have hB:=Hm.kM ls;have h0:=NK ls;have hi:=O6 h;have hR:=R.all hB h0 k (by omega);refine⟨hB.lo _ hi,fun hf=>hR.box hB (h0 _ hi).1 hf,?_⟩;rcases Bo (aH (out ls 40) k).L ((out ls 40).getD ((Hm.ord (out ls 40) (out ls 40).length).getD k 0) .z) 5 0 with h1|⟨h1,h2⟩;{exact .inl h1};exact .inr ⟨by omega,by omega⟩
theorem IW {ls:List Ln}(hok:Ln.isOk ls=true):Hm.homes ls=told (aH (out ls 40) (out ls 40).length).h:=by have e:bB ls=out ls 40:=by{unfold bB;rw[ay hok]};unfold Hm.homes;rw[ay hok,e,LY (Hm.kM ls) (NK ls)]
end Hp
end
section
open Go.RowKit
set_option linter.unusedSimpArgs false
namespace Sp
def Ck (s:S):S:=if s.f<0 then⟨s.b,-1,-1,false⟩else s
def rc (n:Int)(s:S):S:=if s.f<0 then⟨s.b,n,n,s.c⟩else⟨s.b,s.f,n,s.c⟩
def xd (s:S):S:=⟨s.b,s.f,s.t,true⟩
def on (F:S->S)(l:List S)(b:Int):List S:=l.set b.toNat (F (l.getD b.toNat .z))
def rows (ls:List Ln)(i:Nat):List S:=(List.range 40).map fun b=>Ck (row ls b i)
theorem lN (ls:List Ln)(i:Nat):(rows ls i).length=40:=by simp[rows]
theorem oW (ls:List Ln)(i:Nat){b:Nat}(hb:b<40):(rows ls i).getD b .z=Ck (row ls b i):=by unfold rows;rw[ah,List.getElem?_map,List.getElem?_range hb];rfl
theorem Dq (F:S->S)(l:List S)(b:Int):(on F l b).length=l.length:=by simp[on]
theorem uo (F:S->S):∀(bs:List Int)(l:List S),(bs.foldl (on F) l).length=l.length
 |[],l=>rfl
 |b::bs,l=>by rw[List.foldl_cons,uo F bs,Dq]
theorem JH (F:S->S)(l:List S)(b:Int)(h0:0<=b)(h1:b<(l.length:Int))(j:Nat):(on F l b).getD j .z=if b=(j:Int)then F (l.getD j .z)else l.getD j .z:=by unfold on;rw[ah,List.getElem?_set];by_cases e:b.toNat=j;{rw[ay e,ay (show b.toNat<l.length by omega),ay (by omega),←e];rfl};rw[ax e,ax (by omega),←ah]
theorem yV (F:S->S):∀(bs:List Int)(l:List S)(j:Nat),bs.Nodup->(∀b∈bs,0<=b/\b<(l.length:Int))->(bs.foldl (on F) l).getD j .z=if(j:Int)∈bs then F (l.getD j .z)else l.getD j .z
 |[],l,j,_,_=>by simp
 | b ::bs,l,j,hn,hb=>by
   have hb0:=hb b (by simp)
   rw[List.foldl_cons,yV F bs _ j (List.nodup_cons.1 hn).2 (fun x hx=>by rw[Dq];exact hb x (by simp[hx])),JH F l b hb0.1 hb0.2]
   by_cases e:b=(j:Int)
   · have hj:¬(j:Int)∈bs:=by rw[←e];exact(List.nodup_cons.1 hn).1
     rw[ax hj,ay e,ay (by simp[e])]
   · rw[ax e]
     by_cases hj:(j:Int)∈bs
     · rw[ay hj,ay (by simp[hj])]
     · rw[ax hj,ax (by simp only[List.mem_cons,not_or];exact⟨fun h=>e h.symm,hj⟩)]
theorem wT (F:S->S){bs:List Int}{k:Nat}(hk:k<bs.length)(l:List S):(bs.take (k+1)).foldl (on F) l=on F ((bs.take k).foldl (on F) l) (bs.getD k 0):=by rw[List.take_add_one,ai hk,List.foldl_append,ah,ai hk];rfl
theorem xK (m:Nat):∀k,(Fl.zo m k).Nodup
 |0=>by simp[Fl.zo]
 | k +1=>by
   have ih:=xK m k
   unfold Fl.zo
   split
   · rw[List.nodup_append]
     refine⟨ih,by simp,fun x hx y hy=>?_⟩
     have h:=(Fl.sQ m x k).1 hx
     have e:y=(k:Int):=by simpa using hy
     omega
   · exact ih
theorem xI (m:Nat):(Fl.nX m).Nodup:=xK m 40
theorem Eg (m:Nat){b:Nat}(hb:b<40):((b:Int)∈Fl.nX m)↔m.testBit b=true:=by rw[←Fl.uN,Fl.O0 m hb]
theorem yJ (m:Nat):∀b∈Fl.nX m,0<=b/\b<40:=fun b hb=>by
 have h:=(Fl.sQ m b 40).1 hb
 exact⟨h.1,h.2.1⟩
theorem Tk {ls:List Ln}{b k:Nat}(h:(row ls b k).f<0):(row ls b k).c=false:=by have hT:=jJ ls b k;rcases hT.at_ with⟨-,-,h3⟩|⟨f,t,h3,-⟩;{rw[hT.jl,List.any_eq_false];intro i hi;have:=h3 i (List.mem_range.1 hi);rcases e:cr ls b i with _|_;{simp};rw[I9 e]at this;cases this};omega
theorem ND (ls:List Ln)(b k:Nat):(row ls b k).b=(b:Int):=(jJ ls b k).bx
def more (ls:List Ln)(i:Nat)(l:List S):List S:=(Fl.nX (((Fl.live ls).getD i 0|||Fl.ou ls (Fl.live ls) i)|||Fl.sm (ls.getD i .z))).foldl (on (rc (i:Int))) l
def jl (ls:List Ln)(i:Nat)(l:List S):List S:=if(ls.getD i .z).k=7 then(Fl.nX (Fl.an (Fl.ou ls (Fl.live ls) i) (Fl.sm (ls.getD i .z)))).foldl (on xd) l else l
theorem Ip (s:S):((Ck s).f<0↔s.f<0)/\(Ck s).b=s.b:=by unfold Ck;split;{exact⟨⟨fun _=>by assumption,fun _=>by show(-1:Int)<0;decide⟩,rfl⟩};exact⟨Iff.rfl,rfl⟩
theorem FP {ls:List Ln}(hok:Ln.isOk ls=true){i:Nat}(hi:i<ls.length):rows ls (i+1)=jl ls i (more ls i (rows ls i)):=by have Cs:(more ls i (rows ls i)).length=40:=by{unfold more;rw[uo,lN]};have hcl:(jl ls i (more ls i (rows ls i))).length=40:=by{unfold jl;split;{rw[uo,Cs]};exact Cs};have key:∀j,j<40->(jl ls i (more ls i (rows ls i))).getD j .z=Ck (row ls j (i+1)):=by{intro j hj;have hm:(more ls i (rows ls i)).getD j .z=if ha ls j i=true then rc (i:Int) (Ck (row ls j i))else Ck (row ls j i):=by{unfold more;rw[yV _ _ _ _ (xI _) (fun b hb=>by rw[lN];exact yJ _ b hb),oW ls i hj];have e:((j:Int)∈Fl.nX (((Fl.live ls).getD i 0|||Fl.ou ls (Fl.live ls) i)|||Fl.sm (ls.getD i .z)))↔ha ls j i=true:=by{rw[Eg _ hj,Nat.testBit_or,Fl.JB (Ln.iq hok hi)];exact Iff.rfl};by_cases h:ha ls j i=true;{rw[ay h,ay (e.2 h)]};rw[ax h,ax (fun h2=>h (e.1 h2))]};have hc:(jl ls i (more ls i (rows ls i))).getD j .z=if cr ls j i=true then xd ((more ls i (rows ls i)).getD j .z)else(more ls i (rows ls i)).getD j .z:=by{unfold jl;by_cases h7:(ls.getD i .z).k=7;{rw[ay h7,yV _ _ _ _ (xI _) (fun b hb=>by rw[Cs];exact yJ _ b hb)];have e:((j:Int)∈Fl.nX (Fl.an (Fl.ou ls (Fl.live ls) i) (Fl.sm (ls.getD i .z))))↔cr ls j i=true:=by{rw[Eg _ hj,Fl.pY,Fl.JB (Ln.iq hok hi)];unfold cr;rw[decide_eq_true h7,Bool.true_and,decide_not];rw[Bool.and_comm]};by_cases h:cr ls j i=true;{rw[ay h,ay (e.2 h)]};rw[ax h,ax (fun h2=>h (e.1 h2))]};rw[ax h7,ax];unfold cr;rw[decide_eq_false h7];simp};rw[hc,hm];show _=Ck (iL ls j i (row ls j i));have hcz:=@Tk ls j i;generalize row ls j i=r at hcz ⊢;obtain⟨b,f,t,c⟩:=r;dsimp only at hcz;unfold iL;by_cases h:ha ls j i=true;{rw[ay h,ay h];by_cases hf:f<0;{have hcz:=hcz hf;subst hcz;rcases hx:cr ls j i with _|_;{simp[Ck,rc,hf,xd]};simp[Ck,rc,hf,xd]};rcases hx:cr ls j i with _|_;{simp[Ck,rc,hf,xd]};simp[Ck,rc,hf,xd]};rw[ax h,ax h];rw[ax];intro hx;exact h (I9 hx)};refine List.ext_getElem (by rw[lN,hcl]) fun j h1 h2=>?_;have hj:j<40:=by{rw[lN]at h1;exact h1};have a:=oW ls (i+1) hj;have b:=key j hj;rw[ah,ai h1]at a;rw[ah,ai h2]at b;exact a.trans b.symm
theorem FI (ls:List Ln):rows ls 0=(List.range 40).map fun(b:Nat)=>⟨(b:Int),-1,-1,false⟩:=rfl
structure Vs (l:List S):Prop where
 len:l.length=40
 bx:∀b:Nat,b<40->(l.getD b .z).b=(b:Int)
 un:∀b:Nat,b<40->(l.getD b .z).f<0->l.getD b .z=⟨(b:Int),-1,-1,false⟩
theorem zH (ls:List Ln)(i:Nat):Vs (rows ls i):=by refine⟨lN ls i,fun b hb=>?_,fun b hb h=>?_⟩;{rw[oW ls i hb,(Ip _).2,ND]};rw[oW ls i hb]at h ⊢;unfold Ck;rw[ay ((Ip _).1.1 h),ND]
theorem Vs.on {F:S->S}{l:List S}(h:Vs l){b:Int}(h0:0<=b)(h1:b<40)(hb:∀s,(F s).b=s.b)(hf:∀s,0<=(F s).f\/(F s).f<0/\s.f<0/\F s=s):Vs (Sp.on F l b):=by have hl:=h.len;refine⟨by rw[Dq,hl],fun j hj=>?_,fun j hj hn=>?_⟩;{rw[JH F l b h0 (by omega)];split;{rw[hb,h.bx j hj]};exact h.bx j hj};rw[JH F l b h0 (by omega)]at hn ⊢;split at hn;{rcases hf (l.getD j .z)with h2|⟨_,h2,h3⟩;{omega};rw[ay (by assumption),h3];exact h.un j hj h2};rw[ax (by assumption)];exact h.un j hj hn
theorem Vs.fold {F:S->S}(hb:∀s,(F s).b=s.b)(hf:∀s,0<=(F s).f\/(F s).f<0/\s.f<0/\F s=s):∀(bs:List Int)(l:List S),(∀b∈bs,0<=b/\b<40)->Vs l->Vs (bs.foldl (Sp.on F) l)
 |[],l,_,h=>h
 |b::bs,l,hi,h=>Vs.fold hb hf bs _ (fun x hx=>hi x (by simp[hx])) (h.on (hi b (by simp)).1 (hi b (by simp)).2 hb hf)
theorem aav (n:Int)(s:S):(rc n s).b=s.b:=by unfold rc;split<;>rfl
theorem aaA {n:Int}(hn:0<=n)(s:S):0<=(rc n s).f\/(rc n s).f<0/\s.f<0/\rc n s=s:=by unfold rc;split;{exact .inl hn};refine .inl ?_;dsimp only;omega
def bg (l:List S):Nat->List S
 |0=>[]
 |k+1=>if 0<=(l.getD k .z).f then bg l k++[l.getD k .z]else bg l k
theorem IK (l:List S):∀k,(bg l k).length<=k
 |0=>by simp[bg]
 | k+1=>by
   have:=IK l k
   unfold bg
   split
   · rw[List.length_append];simp;omega
   · omega
theorem CX (ls:List Ln):∀k,k<=40->bg (rows ls ls.length) k=out ls k
 |0,_=>rfl
 | k +1,h=>by
   unfold bg out
   rw[CX ls k (by omega),oW ls _ (by omega)]
   by_cases hf:(row ls k ls.length).f<0
   · have h1:=(Ip (row ls k ls.length)).1.2 hf
     rw[ax (by omega),ax (by omega)]
   · have e:Ck (row ls k ls.length)=row ls k ls.length:=by unfold Ck;rw[ax hf]
     rw[e]
end Sp
end
section
set_option linter.unusedSimpArgs false
def Ns (b:Int):Value:= .agg #[.int .i64 b, .int .i64 (-1), .int .i64 (-1), .bool false]
theorem fw:∀(l:List Sp.S)(k:Nat)(y:Sp.S),k<l.length->aY (l.set k y)=((((aY l).set (k*4) (.int .i64 y.b)).set (k*4+1) (.int .i64 y.f)).set (k*4+2) (.int .i64 y.t)).set (k*4+3) (.bool y.c)
 |[],k,y,h=>by simp at h
 |s::l,0,y,_=>rfl
 | s::l,k+1,y,h=>by
   have ih:=fw l k y (by simpa using h)
   rw[List.set_cons_succ,iY,iY,show(k+1)*4=k*4+1+1+1+1 by omega,show k*4+1+1+1+1+1=(k*4+1)+1+1+1+1 by omega,show k*4+1+1+1+1+2=(k*4+2)+1+1+1+1 by omega,show k*4+1+1+1+1+3=(k*4+3)+1+1+1+1 by omega]
   simp only[List.set_cons_succ]
   rw[ih]
theorem kP {α:Type _}{l:List α}{j:Nat}{x:α}(h:l[j]?=some x):l.set j x=l:=by obtain⟨h1,h2⟩:=List.getElem?_eq_some_iff.1 h;rw[←h2];exact List.set_getElem_self h1
theorem yZ {α:Type _}{l:List α}{i j:Nat}{x:α}(h:i≠j):(l.set i x)[j]?=l[j]?:=List.getElem?_set_ne h
def SA (W:World)(g:Nat)(l:List Sp.S):Prop:=l.length=40/\gP W g 125 (aY l)
theorem SA.lt {W:World}{g:Nat}{l:List Sp.S}(h:SA W g l):g<W.heap.size:=h.2.lt
theorem SA.kept {W W':World}{g:Nat}{l:List Sp.S}(h:SA W g l)(hB:Below W.heap.size W W'):SA W' g l:=⟨h.1,h.2.kept hB⟩
theorem SA.bT {W W':World}{g:Nat}{l:List Sp.S}{row:Option Nat}(h:SA W g l)(hg:W.grownBy W' row)(hne:some g≠row):SA W' g l:=⟨h.1,h.2.bT hg hne⟩
theorem SA.frozen {W:World}{g:Nat}{l:List Sp.S}(h:SA W g l)(j:Nat):W.frozen? ⟨g,j,none⟩=false:=h.2.frozen j
theorem SA.cell {W:World}{g:Nat}{l:List Sp.S}(h:SA W g l){j:Nat}(hj:j<40):W.cell? ⟨g,j*4,none⟩=some (.int .i64 (l.getD j .z).b)/\W.cell? ⟨g,j*4+1,none⟩=some (.int .i64 (l.getD j .z).f)/\W.cell? ⟨g,j*4+2,none⟩=some (.int .i64 (l.getD j .z).t)/\W.cell? ⟨g,j*4+3,none⟩=some (.bool (l.getD j .z).c):=by obtain⟨h0,h1,h2,h3⟩:=gm l j (by rw[h.1];exact hj);exact⟨h.2.cell h0,h.2.cell h1,h.2.cell h2,h.2.cell h3⟩
theorem SA.put {W:World}{g:Nat}{l:List Sp.S}(h:SA W g l){j:Nat}(hj:j<40)(b f t:Int)(c:Bool):SA ((((W.setCell ⟨g,j*4,none⟩ (.int .i64 b)).setCell ⟨g,j*4+1,none⟩ (.int .i64 f)).setCell ⟨g,j*4+2,none⟩ (.int .i64 t)).setCell ⟨g,j*4+3,none⟩ (.bool c)) g (l.set j ⟨b,f,t,c⟩):=by refine⟨by rw[List.length_set];exact h.1,?_⟩;rw[fw l j ⟨b,f,t,c⟩ (by rw[h.1];exact hj)];exact(((h.2.set _ _).set _ _).set _ _).set _ _
theorem SA.to {W:World}{g:Nat}{l:List Sp.S}(h:SA W g l){j:Nat}(hj:j<40)(t:Int):SA (W.setCell ⟨g,j*4+2,none⟩ (.int .i64 t)) g (l.set j ⟨(l.getD j .z).b,(l.getD j .z).f,t,(l.getD j .z).c⟩):=by refine⟨by rw[List.length_set];exact h.1,?_⟩;have hlt:j<l.length:=by{rw[h.1];exact hj};rw[fw l j _ hlt];obtain⟨h0,h1,h2,h3⟩:=gm l j hlt;rw[kP h0,kP h1];have e:(((aY l).set (j*4+2) (.int .i64 t)).set (j*4+3) (.bool (l.getD j .z).c))=(aY l).set (j*4+2) (.int .i64 t):=kP (by rw[yZ (by omega)];exact h3);dsimp only;rw[e];exact h.2.set _ _
theorem SA.fr {W:World}{g:Nat}{l:List Sp.S}(h:SA W g l){j:Nat}(hj:j<40)(f:Int):SA (W.setCell ⟨g,j*4+1,none⟩ (.int .i64 f)) g (l.set j ⟨(l.getD j .z).b,f,(l.getD j .z).t,(l.getD j .z).c⟩):=by refine⟨by rw[List.length_set];exact h.1,?_⟩;have hlt:j<l.length:=by{rw[h.1];exact hj};rw[fw l j _ hlt];obtain⟨h0,h1,h2,h3⟩:=gm l j hlt;rw[kP h0];dsimp only;have e2:((aY l).set (j*4+1) (.int .i64 f)).set (j*4+2) (.int .i64 (l.getD j .z).t)=(aY l).set (j*4+1) (.int .i64 f):=kP (by rw[yZ (by omega)];exact h2);rw[e2];have e3:((aY l).set (j*4+1) (.int .i64 f)).set (j*4+3) (.bool (l.getD j .z).c)=(aY l).set (j*4+1) (.int .i64 f):=kP (by rw[yZ (by omega)];exact h3);rw[e3];exact h.2.set _ _
theorem SA.cr {W:World}{g:Nat}{l:List Sp.S}(h:SA W g l){j:Nat}(hj:j<40):SA (W.setCell ⟨g,j*4+3,none⟩ (.bool true)) g (l.set j (Sp.xd (l.getD j .z))):=by refine⟨by rw[List.length_set];exact h.1,?_⟩;have hlt:j<l.length:=by{rw[h.1];exact hj};unfold Sp.xd;rw[fw l j _ hlt];obtain⟨h0,h1,h2,h3⟩:=gm l j hlt;rw[kP h0];dsimp only;rw[kP h1,kP h2];exact h.2.set _ _
theorem F6 {l:List Sp.S}{j:Nat}(hj:j<l.length)(y:Sp.S):(l.set j y).getD j .z=y:=by rw[ah,List.getElem?_set_self hj];rfl
theorem SA.both {W:World}{g:Nat}{l:List Sp.S}(h:SA W g l){j:Nat}(hj:j<40)(f t:Int):SA ((W.setCell ⟨g,j*4+1,none⟩ (.int .i64 f)).setCell ⟨g,j*4+2,none⟩ (.int .i64 t)) g (l.set j ⟨(l.getD j .z).b,f,t,(l.getD j .z).c⟩):=by have h1:=(h.fr hj f).to hj t;have e:∀y,(l.set j y).getD j .z=y:=fun y=>F6 (by rw[h.1];exact hj) y;simp only[e,List.set_set]at h1;exact h1
theorem iK (W:World)(g a b c d:Nat)(u v x y:Value):W.grownBy ((((W.setCell ⟨g,a,none⟩ u).setCell ⟨g,b,none⟩ v).setCell ⟨g,c,none⟩ x).setCell ⟨g,d,none⟩ y) (some g):=
 (((aB W ⟨g,a,none⟩ u).trans (aB _ ⟨g,b,none⟩ v)).trans (aB _ ⟨g,c,none⟩ x)).trans (aB _ ⟨g,d,none⟩ y)
theorem Dc (W:World)(g a b:Nat)(u v:Value):W.grownBy ((W.setCell ⟨g,a,none⟩ u).setCell ⟨g,b,none⟩ v) (some g):=(aB W ⟨g,a,none⟩ u).trans (aB _ ⟨g,b,none⟩ v)
theorem nZ {W W1 W2:World}{g:Nat}(hB:Below W.heap.size W W1)(hg:W1.grownBy W2 (some g)):W.grownBy W2 (some g):=
 ⟨hg.os.trans hB.os,hg.tape.trans hB.tape,hg.output.trans hB.output,Nat.le_trans hB.size hg.size,fun k hk hne=>(hg.block k (aj hk hB.size) hne).trans (hB.block k hk)⟩
theorem dh {W W1:World}{n:Nat}(hB:Below (W.drewN n).heap.size (W.drewN n) W1):Below W.heap.size W W1:=⟨hB.os,hB.tape,hB.output,hB.size,fun k hk=>hB.block k hk⟩
def NL (k:Nat):List Sp.S:=(List.range 40).map fun(b:Nat)=>if b<k then⟨(b:Int),-1,-1,false⟩else⟨0,0,0,false⟩
theorem Qc:NL 40=(List.range 40).map fun(b:Nat)=>⟨(b:Int),-1,-1,false⟩:=by refine List.map_congr_left fun b hb=>?_;rw[ay (List.mem_range.1 hb)]
theorem Mj (k:Nat)(hk:k<40):NL (k+1)=(NL k).set k ⟨(k:Int),-1,-1,false⟩:=by refine List.ext_getElem? fun j=>?_;by_cases h:k=j;{subst h;rw[List.getElem?_set_self (by simp[NL];exact hk)];simp[NL,hk]};rw[List.getElem?_set_ne h];unfold NL;rw[List.getElem?_map,List.getElem?_map];by_cases hj:j<40;{rw[List.getElem?_range hj];simp only[Option.map_some];by_cases h2:j<k;{rw[ay (by omega),ay h2]};rw[ax (by omega),ax h2]};rw[List.getElem?_eq_none (by simp;omega)];rfl
theorem eT (b:Int)(w:World):Calls Tryz.prog 60 #[.int .i64 b] w fun e w'=>e= .returned (Ns b)/\Below w.heap.size w w':=by go_enter Tryz.func60,Tryz.ntmps60;go_wp2;refine bodyPost_ret (v:=Ns b) ?_ rfl ⟨rfl,aA w _⟩;rw[aD rfl];go_simp;rfl
theorem IY:Tryz.prog.built 125 []=some (aY (NL 0)).toArray:=by kernel_rfl
theorem Dj {ops:Array Oper}{rest:List Oper}{o:Oper}{a:Act}{w:World}{Q:Exit->Act->World->Prop}(hgd:o.guard=none)(ho:o.op= .build 125 #[])(zs:List Value)(hz:aY (NL 0)=zs)(h:wpList Tryz.prog ops Q rest (a.put o.dst (.agg zs.toArray)) w):wpList Tryz.prog ops Q (o::rest) a w:=by refine wpList_plain hgd fun K hK=>?_;have hrun:=run_build (P:=Tryz.prog) w 125 #[] _ IY;rw[hz]at hrun;unfold Oper.wp execOp;simp only[ho,Sem.run_bind];rw[show(Array.map (fun x:Nat×Operand=>(x.fst,a.eval x.snd)) #[])=#[]from by simp,hrun];simp only[Result.andThen_ok];exact hK _ _ h
theorem jW (w:World):Calls Tryz.prog 57 #[] w fun e w'=>∃g,e= .returned (.pointer (some ⟨g,0,none⟩))/\w.heap.size<=g/\SA w' g (NL 40)/\Below w.heap.size w w':=by obtain⟨zs,hzs⟩:∃zs,aY (NL 0)=zs:=⟨_,rfl⟩;have HZ:=ae hzs;go_enter Tryz.func57,Tryz.ntmps57;go_wp2_with(refine uW 125 _ rfl ?_);refine⟨?_⟩;refine Dj rfl rfl zs hzs ?_;go_wp2_with(refine Bz 125 _ rfl ?_);refine⟨?_⟩;refine qR rfl _ _ rfl zs rfl ?_;intro g1 w1 hg1 hA1 hB1;have HA:=ae (show SA w1 g1 (NL 0)/\Below w.heap.size w w1 from⟨⟨by simp[NL],by rw[HZ.out];exact hA1⟩,hB1⟩);have hge:w.heap.size<=g1:=Nat.le_of_eq hg1.out.symm;clear hg1 hA1 hB1 hzs HZ;go_wp2;go_loopg [5] 40 (fun gk vi wr=>∃(k:Nat),gk=40-k/\k<=40/\vi= .int .i64 (k:Int)/\SA wr g1 (NL k)/\Below w.heap.size w wr);(case atStart=>exact⟨0,rfl,by omega,rfl,HA.out.1,HA.out.2⟩);case round=>obtain⟨k,nP,hk,rfl,hs,hB⟩:=hrel;clear HA;have HH:=ae (ak hs hB);by_cases hlt:k<40;{have bN:(k:Int)<40:=by{omega};have hgl:=hs.lt;have hfz:=hs.frozen;have bq:=hB.size;obtain⟨d0,d1,d2,d3⟩:=hs.cell hlt;clear hs hB;go_wp2_with fail;go_region_with (go_at_call 60;refine(eT _ _).mono ?_;rintro e w4 ⟨rfl,hB4⟩;unfold Ns;have hs4:=HH.out.1.kept (dh hB4);have bE:=HH.out.2.trans ((dh hB4).mono bq);have MP:=hs4.lt;have MQ:=hs4.frozen;obtain⟨e0,e1,e2,e3⟩:=hs4.cell hlt;have He:=ae (ak hs4 bE);clear hs4 bE hB4);have HF:=ae (ak (He.out.1.put hlt (k:Int) (-1) (-1) false) (aC He.out.2 (iK _ g1 (k*4) (k*4+1) (k*4+2) (k*4+3) (.int .i64 (k:Int)) (.int .i64 (-1)) (.int .i64 (-1)) (.bool false)) hge));rw[←Mj k hlt]at HF;go_wp2;go_roundg (40-(k+1));(case measure=>omega);case rel=>exact⟨k+1,rfl,hlt,by simp,HF.out.1,HF.out.2⟩};have hke:k=40:=by{omega};subst hke;clear hs hB;go_wp2;go_ret;exact⟨g1,rfl,hge,HH.out.1,HH.out.2⟩
theorem Db (l:List Sp.S)(hv:Sp.Vs l)(j:Nat)(hj:j<40)(n:Int)(g:Nat)(w:World)(hs:SA w g l):Calls Tryz.prog 92 #[.pointer (some ⟨g,0,none⟩), .int .i64 (j:Int), .int .i64 n] w fun e w'=>e= .returned (.tuple #[])/\SA w' g (Sp.on (Sp.rc n) l (j:Int))/\w.grownBy w' (some g):=by have MJ:(j:Int)<40:=by{omega};have HH:=ae hs;have hgl:=hs.lt;have hfz:=hs.frozen;obtain⟨d0,d1,d2,d3⟩:=hs.cell hj;have Qv:Hid (Sp.on (Sp.rc n) l (j:Int)=l.set j (Sp.rc n (l.getD j .z))):=rfl;have hbx:=hv.bx j hj;have hun:=hv.un j hj;have HX:Hid (∀W t,SA W g l->SA (W.setCell ⟨g,j*4+2,none⟩ (.int .i64 t)) g (l.set j ⟨(l.getD j .z).b,(l.getD j .z).f,t,(l.getD j .z).c⟩)):=fun W t h=>h.to hj t;have HY:Hid (∀W f t,SA W g l->SA ((W.setCell ⟨g,j*4+1,none⟩ (.int .i64 f)).setCell ⟨g,j*4+2,none⟩ (.int .i64 t)) g (l.set j ⟨(l.getD j .z).b,f,t,(l.getD j .z).c⟩)):=fun W f t h=>h.both hj f t;have HCE:Hid (∀W,SA W g l->W.cell? ⟨g,j*4,none⟩=some (.int .i64 (l.getD j .z).b)/\W.cell? ⟨g,j*4+1,none⟩=some (.int .i64 (l.getD j .z).f)/\W.cell? ⟨g,j*4+2,none⟩=some (.int .i64 (l.getD j .z).t)/\W.cell? ⟨g,j*4+3,none⟩=some (.bool (l.getD j .z).c)):=fun W h=>h.cell hj;generalize l.getD j .z=s at d0 d1 d2 d3 hbx hun HX HY Qv HCE;obtain⟨l2,hl2⟩:∃l2,Sp.on (Sp.rc n) l (j:Int)=l2:=⟨_,rfl⟩;rw[hl2]at Qv ⊢;obtain⟨sb,sf,st,sc⟩:=s;dsimp only at hbx hun d0 d1 d2 d3;subst hbx;clear hs hv hl2;by_cases hf:sf<0;{have h2:=hun hf;injection h2 with _ h3 h4 h5;subst h3 h4 h5;clear hun hf;go_enter Tryz.func92,Tryz.ntmps92;go_wp2;go_region_with (go_at_call 60;refine(eT _ _).mono ?_;rintro e w4 ⟨rfl,hB4⟩;unfold Ns;have hs4:=HH.out.kept (dh hB4);have MP:=hs4.lt;have MQ:=hs4.frozen;obtain⟨e0,e1,e2,e3⟩:=HCE.out _ hs4;have He:=ae (ak hs4 (dh hB4));clear hs4 hB4);all_goals go_wp2;refine bodyPost_end (results_none rfl _ _ _) rfl ⟨rfl,?_,nZ He.out.2 (Dc _ _ _ _ _ _)⟩;rw[Qv.out];have e:Sp.rc n ⟨(j:Int),-1,-1,false⟩=⟨(j:Int),n,n,false⟩:=by{unfold Sp.rc;rw[ay (show(-1:Int)<0 by decide)]};rw[e];exact HY.out _ n n He.out.1};have hq:¬sf=-1:=by{omega};have HRC:Hid (Sp.rc n ⟨(j:Int),sf,st,sc⟩=⟨(j:Int),sf,n,sc⟩):=by{show _=_;unfold Sp.rc;rw[ax (by simpa using hf)]};clear hun hf;go_enter Tryz.func92,Tryz.ntmps92;go_wp2;go_region_with (go_at_call 60;refine(eT _ _).mono ?_;rintro e w4 ⟨rfl,hB4⟩;unfold Ns;have hs4:=HH.out.kept (dh hB4);have MP:=hs4.lt;have MQ:=hs4.frozen;obtain⟨e0,e1,e2,e3⟩:=HCE.out _ hs4;have He:=ae (ak hs4 (dh hB4));clear hs4 hB4);all_goals go_wp2;refine bodyPost_end (results_none rfl _ _ _) rfl ⟨rfl,?_,nZ He.out.2 (aB _ ⟨g,j*4+2,none⟩ _)⟩;rw[Qv.out,HRC.out];exact HX.out _ n He.out.1
end
theorem xY (x y:Sp.S)(w:World):Calls Tryz.prog 44 #[.agg #[.int .i64 x.b, .int .i64 x.f, .int .i64 x.t, .bool x.c], .agg #[.int .i64 y.b, .int .i64 y.f, .int .i64 y.t, .bool y.c]] w fun e w'=>e= .returned (.bool (Sp.bH x y))/\Below w.heap.size w w':=by
 have HM:Hid (Sp.bH x y=decide (max x.f y.f<=min x.t y.t)):=by show _=_;unfold Sp.bH;rw[Bool.eq_iff_iff];simp only[au,decide_eq_true_eq];omega
 obtain⟨xb,xf,xt,xc⟩:=x
 obtain⟨yb,yf,yt,yc⟩:=y
 dsimp only at HM ⊢
 obtain⟨q,hq⟩:∃q,Sp.bH ⟨xb,xf,xt,xc⟩ ⟨yb,yf,yt,yc⟩=q:=⟨_,rfl⟩
 rw[hq]at HM ⊢
 clear hq
 have hal:=aA w (.cells #[.int .i64 xb, .int .i64 xf, .int .i64 xt, .bool xc] 39)
 have HB:=ae (hal.trans ((aA (w.alloc (.cells #[.int .i64 xb, .int .i64 xf, .int .i64 xt, .bool xc] 39)) (.cells #[.int .i64 yb, .int .i64 yf, .int .i64 yt, .bool yc] 39)).mono hal.size))
 clear hal
 go_enter Tryz.func44,Tryz.ntmps44
 go_wp2
 all_goals
  go_ret
  refine⟨?_,HB.out⟩
  first
    |exact(show Ending.returned (.bool (decide (max xf yf<=min xt yt)))=Ending.returned (.bool q)from by rw[HM.out])
    |exact(show Ending.returned (.bool (decide (xf<=xt)))=Ending.returned (.bool q)from by rw[HM.out,show decide (xf<=xt)=decide (max xf yf<=min xt yt)from decide_eq_decide.2 (by omega)])
    |exact(show Ending.returned (.bool (decide (xf<=yt)))=Ending.returned (.bool q)from by rw[HM.out,show decide (xf<=yt)=decide (max xf yf<=min xt yt)from decide_eq_decide.2 (by omega)])
    |exact(show Ending.returned (.bool (decide (yf<=xt)))=Ending.returned (.bool q)from by rw[HM.out,show decide (yf<=xt)=decide (max xf yf<=min xt yt)from decide_eq_decide.2 (by omega)])
    |exact(show Ending.returned (.bool (decide (yf<=yt)))=Ending.returned (.bool q)from by rw[HM.out,show decide (yf<=yt)=decide (max xf yf<=min xt yt)from decide_eq_decide.2 (by omega)])
section
set_option linter.unusedSimpArgs false
structure ng (W W':World)(a b:Nat):Prop where
 os:W'.os=W.os
 tape:W'.tape=W.tape
 output:W'.output=W.output
 size:W.heap.size<=W'.heap.size
 block:∀k,k<W.heap.size->k≠a->k≠b->W'.heap[k]?=W.heap[k]?
theorem ng.ma {W W':World}(h:Below W.heap.size W W')(a b:Nat):ng W W' a b:=⟨h.os,h.tape,h.output,h.size,fun k hk _ _=>h.block k hk⟩
theorem ng.EE {W W':World}{a:Nat}(h:W.grownBy W' (some a))(b:Nat):ng W W' a b:=⟨h.os,h.tape,h.output,h.size,fun k hk hne _=>h.block k hk (by simpa using hne)⟩
theorem ng.AV {W W':World}{b:Nat}(h:W.grownBy W' (some b))(a:Nat):ng W W' a b:=⟨h.os,h.tape,h.output,h.size,fun k hk _ hne=>h.block k hk (by simpa using hne)⟩
theorem ng.trans {W W' W'':World}{a b:Nat}(h:ng W W' a b)(h':ng W' W'' a b):ng W W'' a b:=
 ⟨h'.os.trans h.os,h'.tape.trans h.tape,h'.output.trans h.output,Nat.le_trans h.size h'.size,fun k hk h1 h2=>(h'.block k (aj hk h.size) h1 h2).trans (h.block k hk h1 h2)⟩
theorem ng.below {W0 W W':World}{a b n:Nat}(hB:Below n W0 W)(h:ng W W' a b)(hn:n<=W.heap.size)(ha:n<=a)(hb:n<=b):Below n W0 W':=
 ⟨h.os.trans hB.os,h.tape.trans hB.tape,h.output.trans hB.output,Nat.le_trans hB.size h.size,fun k hk=>(h.block k (by omega) (by omega) (by omega)).trans (hB.block k hk)⟩
theorem gP.two {W W':World}{g a b:Nat}{t:TypeId}{vs:List Value}(h:gP W g t vs)(hT:ng W W' a b)(ha:g≠a)(hb:g≠b):gP W' g t vs:=(hT.block g h.lt ha hb).trans h
theorem SG.Ar {W W':World}{n₀ g n c:Nat}{l:List Sp.S}(h:SG W n₀ g n c l)(hb:W'.heap[g]?=W.heap[g]?):SG W' n₀ g n c l:=by refine⟨h.1,h.2.1,?_⟩;rcases h.2.2 with⟨e,-⟩|⟨g',cap,cur,e,h1,h2,r⟩;{cases e};cases e;exact .inr ⟨g,c,cur,rfl,h1,hb.trans h2,r⟩
theorem SG.two {W W':World}{n₀ g n c a b:Nat}{l:List Sp.S}(h:SG W n₀ g n c l)(hT:ng W W' a b)(ha:g≠a)(hb:g≠b):SG W' n₀ g n c l:=h.Ar (hT.block g h.lt.2 ha hb)
theorem SG.under {W W':World}{n₀ g n c m:Nat}{l:List Sp.S}(h:SG W n₀ g n c l)(hB:Below m W W')(hg:g<m):SG W' n₀ g n c l:=h.Ar (hB.block g hg)
theorem SG.frozen {W:World}{n₀ g n c:Nat}{l:List Sp.S}(h:SG W n₀ g n c l)(j:Nat):W.frozen? ⟨g,j,none⟩=false:=by rcases h.2.2 with⟨e,-⟩|⟨g',cap,cur,e,h1,h2,r⟩;{cases e};cases e;exact frozen_of_row W g j _ _ h2
theorem SG.take {W:World}{n₀ g n c:Nat}{l:List Sp.S}(h:SG W n₀ g n c l){m:Nat}(hm:m<=n):SG W n₀ g m c (l.take m):=by have hl:(l.take m).length=m:=by{rw[List.length_take,h.1];omega};refine⟨hl,by rw[iw,hl],?_⟩;rcases h.2.2 with⟨e,-⟩|⟨g',cap,cur,e,h1,h2,h3,h4,h5,h6⟩;{cases e};cases e;refine .inr ⟨g,c,cur,rfl,h1,h2,by omega,h4,h5,?_⟩;have e1:aY l=aY (l.take m)++aY (l.drop m):=by{rw[←kH,List.take_append_drop]};have e2:(aY (l.take m)).length=m*4:=by{rw[iw,hl]};have e3:cur.toList.take (m*4)=(cur.toList.take (n*4)).take (m*4):=by{rw[List.take_take,Nat.min_eq_left (by omega)]};rw[e3,h6,e1,List.take_append_of_le_length (by omega),List.take_of_length_le (by omega)]
theorem SG.put {W:World}{n₀ g n c:Nat}{l:List Sp.S}(h:SG W n₀ g n c l){j:Nat}(hj:j<n)(y:Sp.S):SG ((((W.setCell ⟨g,j*4,none⟩ (.int .i64 y.b)).setCell ⟨g,j*4+1,none⟩ (.int .i64 y.f)).setCell ⟨g,j*4+2,none⟩ (.int .i64 y.t)).setCell ⟨g,j*4+3,none⟩ (.bool y.c)) n₀ g n c (l.set j y):=by refine⟨by rw[List.length_set];exact h.1,by rw[iw,List.length_set,h.1],?_⟩;rcases h.2.2 with⟨e,-⟩|⟨g',cap,cur,e,h1,h2,h3,h4,h5,h6⟩;{cases e};cases e;have st:∀(W:World)(cur:Array Value)(k:Nat)(v:Value),W.heap[g]?=some (.cells cur 39 (0,0))->(W.setCell ⟨g,k,none⟩ v).heap[g]?=some (.cells (cur.setIfInBounds k v) 39 (0,0)):=fun W cur k v h=>heap_setCell_same W g k cur _ v h;refine .inr ⟨g,c,_,rfl,h1,st _ _ _ _ (st _ _ _ _ (st _ _ _ _ (st _ _ _ _ h2))),h3,h4,by simp[h5],?_⟩;rw[fw l j y (by rw[h.1];exact hj),←h6];simp only[Array.toList_setIfInBounds,List.take_set]
def WH (W:World)(n₀ gp g c:Nat)(l:List Sp.S):Prop:=gP W gp 76 [.slice (some ⟨g,0,none⟩) l.length c]/\SG W n₀ g l.length c l/\gp≠g/\n₀<=gp
theorem WH.cell {W:World}{n₀ gp g c:Nat}{l:List Sp.S}(h:WH W n₀ gp g c l):W.cell? ⟨gp,0,none⟩=some (.slice (some ⟨g,0,none⟩) l.length c):=h.1.cell rfl
theorem WH.frozen {W:World}{n₀ gp g c:Nat}{l:List Sp.S}(h:WH W n₀ gp g c l):W.frozen? ⟨gp,0,none⟩=false:=h.1.frozen 0
theorem WH.kept {W W':World}{n₀ gp g c:Nat}{l:List Sp.S}(h:WH W n₀ gp g c l)(hB:Below W.heap.size W W'):WH W' n₀ gp g c l:=⟨h.1.kept hB,h.2.1.kept hB,h.2.2⟩
theorem WH.two {W W':World}{n₀ gp g c a b:Nat}{l:List Sp.S}(h:WH W n₀ gp g c l)(hT:ng W W' a b)(h1:gp≠a)(h2:gp≠b)(h3:g≠a)(h4:g≠b):WH W' n₀ gp g c l:=⟨h.1.two hT h1 h2,h.2.1.two hT h3 h4,h.2.2⟩
theorem WH.sw {W W':World}{n₀ gp g c:Nat}{l:List Sp.S}(h:WH W n₀ gp g c l){i j:Nat}(hs:SG W' n₀ g l.length c (Hp.sw l i j))(hg:W.grownBy W' (some g)):WH W' n₀ gp g c (Hp.sw l i j):=by refine⟨?_,?_,h.2.2⟩;{rw[Hp.df];exact h.1.bT hg (by simpa using h.2.2.1)};rw[Hp.df];exact hs
theorem LK (gp:Nat)(w:World):(method 344 48 (.pointer (some ⟨gp,0,none⟩)) "Push").run Tryz.prog w= .ok (179, .pointer (some ⟨gp,0,none⟩)) w:=by kernel_rfl
theorem PT (gp:Nat)(w:World):(method 344 48 (.pointer (some ⟨gp,0,none⟩)) "Pop").run Tryz.prog w= .ok (178, .pointer (some ⟨gp,0,none⟩)) w:=by kernel_rfl
theorem mX {gp:Nat}{w:World}{v:Value}(h:w.cell? ⟨gp,0,none⟩=some v):(method 344 48 (.pointer (some ⟨gp,0,none⟩)) "Less").run Tryz.prog w= .ok (177,v) w:=by have e:(method 344 48 (.pointer (some ⟨gp,0,none⟩)) "Less").run Tryz.prog w=Sem.run Tryz.prog (Sem.load .plain ⟨gp,0,none⟩ fun v=> .pure (177,v)) w:=by{kernel_rfl};rw[e];simp[Sem.run,h]
theorem oN {gp:Nat}{w:World}{v:Value}(h:w.cell? ⟨gp,0,none⟩=some v):(method 344 48 (.pointer (some ⟨gp,0,none⟩)) "Swap").run Tryz.prog w= .ok (180,v) w:=by have e:(method 344 48 (.pointer (some ⟨gp,0,none⟩)) "Swap").run Tryz.prog w=Sem.run Tryz.prog (Sem.load .plain ⟨gp,0,none⟩ fun v=> .pure (180,v)) w:=by{kernel_rfl};rw[e];simp[Sem.run,h]
theorem Ie {gp:Nat}{w:World}{v:Value}(h:w.cell? ⟨gp,0,none⟩=some v):(method 344 48 (.pointer (some ⟨gp,0,none⟩)) "Len").run Tryz.prog w= .ok (33,v) w:=by have e:(method 344 48 (.pointer (some ⟨gp,0,none⟩)) "Len").run Tryz.prog w=Sem.run Tryz.prog (Sem.load .plain ⟨gp,0,none⟩ fun v=> .pure (33,v)) w:=by{kernel_rfl};rw[e];simp[Sem.run,h]
theorem Jc (args:Array Value)(w:World):(callFunc 33 args).run Tryz.prog w= .ok (.enter 33 args) w:=enters_of (P:=Tryz.prog) Tryz.func33 (by kernel_rfl) rfl args w
theorem EK (args:Array Value)(w:World):(callFunc 177 args).run Tryz.prog w= .ok (.enter 177 args) w:=enters_of (P:=Tryz.prog) Tryz.func177 (by kernel_rfl) rfl args w
theorem zB (args:Array Value)(w:World):(callFunc 180 args).run Tryz.prog w= .ok (.enter 180 args) w:=enters_of (P:=Tryz.prog) Tryz.func180 (by kernel_rfl) rfl args w
theorem KV (args:Array Value)(w:World):(callFunc 179 args).run Tryz.prog w= .ok (.enter 179 args) w:=enters_of (P:=Tryz.prog) Tryz.func179 (by kernel_rfl) rfl args w
theorem Qa (args:Array Value)(w:World):(callFunc 178 args).run Tryz.prog w= .ok (.enter 178 args) w:=enters_of (P:=Tryz.prog) Tryz.func178 (by kernel_rfl) rfl args w
theorem pE (a:Option Addr)(n c:Nat)(w:World):Calls Tryz.prog 33 #[.slice a n c] w fun e w'=>e= .returned (.int .i64 n)/\w'=w:=by go_enter Tryz.func33,Tryz.ntmps33;go_wp2;go_ret;exact⟨rfl,rfl⟩
theorem jX (n₀ g n c:Nat)(l:List Sp.S)(i j:Nat)(hi:i<n)(hj:j<n)(w:World)(hs:SG w n₀ g n c l):Calls Tryz.prog 177 #[.slice (some ⟨g,0,none⟩) n c, .int .i64 (i:Int), .int .i64 (j:Int)] w fun e w'=>e= .returned (.bool (Hp.lt (l.getD i .z) (l.getD j .z)))/\Below w.heap.size w w':=by obtain⟨d0,d1,d2,d3⟩:=hs.cell hi;obtain⟨e0,e1,e2,e3⟩:=hs.cell hj;have Ug:(i:Int)<(n:Int):=by{omega};have MJ:(j:Int)<(n:Int):=by{omega};have hcap:=hs.cap;have HL:Hid (Hp.lt (l.getD i .z) (l.getD j .z)=if(l.getD i .z).f=(l.getD j .z).f then decide ((l.getD i .z).b<(l.getD j .z).b)else decide ((l.getD i .z).f<(l.getD j .z).f)):=rfl;generalize Hp.lt (l.getD i .z) (l.getD j .z)=r at HL ⊢;generalize l.getD i .z=s at d0 d1 d2 d3 HL;generalize l.getD j .z=t at e0 e1 e2 e3 HL;obtain⟨sb,sf,st,sc⟩:=s;obtain⟨tb,tf,tt,tc⟩:=t;dsimp only at d0 d1 d2 d3 e0 e1 e2 e3 HL;clear hs;by_cases hf:sf=tf;{subst hf;have HR:Hid (r=decide (sb<tb)):=by{show _=_;rw[HL.out,ay rfl]};clear HL;go_enter Tryz.func177,Tryz.ntmps177;go_wp2_with fail;go_region;go_wp2_with fail;go_region;all_goals go_wp2;go_ret;exact⟨by rw[HR.out]<;>rfl,(Below.refl _ _).drew.drew⟩};have HR:Hid (r=decide (sf<tf)):=by{show _=_;rw[HL.out,ax hf]};clear HL;go_enter Tryz.func177,Tryz.ntmps177;go_wp2_with fail;go_region;go_wp2_with fail;go_region;all_goals go_wp2;go_ret;exact⟨by rw[HR.out]<;>rfl,(Below.refl _ _).drew.drew⟩
end
section
set_option linter.unusedSimpArgs false
def sv (s:Sp.S):Value:= .agg #[.int .i64 s.b, .int .i64 s.f, .int .i64 s.t, .bool s.c]
theorem wE {W W':World}{r:Option Nat}(h:W.grownBy W' r):W.grownBy W'.drew r:=⟨h.os,h.tape,h.output,h.size,h.block⟩
theorem A8 (W:World)(g a b c d a' b' c' d':Nat)(u v x y u' v' x' y':Value):W.grownBy ((((((((W.setCell ⟨g,a,none⟩ u).setCell ⟨g,b,none⟩ v).setCell ⟨g,c,none⟩ x).setCell ⟨g,d,none⟩ y).setCell ⟨g,a',none⟩ u').setCell ⟨g,b',none⟩ v').setCell ⟨g,c',none⟩ x').setCell ⟨g,d',none⟩ y') (some g):=
 (iK W g a b c d u v x y).trans (iK _ g a' b' c' d' u' v' x' y')
theorem CK {W:World}{g i j:Nat}{x0 x1 x2 x3 y0 y1 y2 y3:Value}(e0:W.cell? ⟨g,j*4,none⟩=some y0)(e1:W.cell? ⟨g,j*4+1,none⟩=some y1)(e2:W.cell? ⟨g,j*4+2,none⟩=some y2)(e3:W.cell? ⟨g,j*4+3,none⟩=some y3):(∃v,(W.setCell ⟨g,i*4,none⟩ x0).cell? ⟨g,j*4,none⟩=some v)/\(∃v,((W.setCell ⟨g,i*4,none⟩ x0).setCell ⟨g,i*4+1,none⟩ x1).cell? ⟨g,j*4+1,none⟩=some v)/\(∃v,(((W.setCell ⟨g,i*4,none⟩ x0).setCell ⟨g,i*4+1,none⟩ x1).setCell ⟨g,i*4+2,none⟩ x2).cell? ⟨g,j*4+2,none⟩=some v)/\(∃v,((((W.setCell ⟨g,i*4,none⟩ x0).setCell ⟨g,i*4+1,none⟩ x1).setCell ⟨g,i*4+2,none⟩ x2).setCell ⟨g,i*4+3,none⟩ x3).cell? ⟨g,j*4+3,none⟩=some v):=by refine⟨cell?_setCell_some e0,?_,?_,?_⟩;{obtain⟨v,h⟩:=cell?_setCell_some (p:=⟨g,i*4,none⟩) (x:=x0) e1;exact cell?_setCell_some h};{obtain⟨v,h⟩:=cell?_setCell_some (p:=⟨g,i*4,none⟩) (x:=x0) e2;obtain⟨v,h⟩:=cell?_setCell_some (p:=⟨g,i*4+1,none⟩) (x:=x1) h;exact cell?_setCell_some h};obtain⟨v,h⟩:=cell?_setCell_some (p:=⟨g,i*4,none⟩) (x:=x0) e3;obtain⟨v,h⟩:=cell?_setCell_some (p:=⟨g,i*4+1,none⟩) (x:=x1) h;obtain⟨v,h⟩:=cell?_setCell_some (p:=⟨g,i*4+2,none⟩) (x:=x2) h;exact cell?_setCell_some h
theorem jT (n₀ g n c:Nat)(l:List Sp.S)(i j:Nat)(hi:i<n)(hj:j<n)(w:World)(hs:SG w n₀ g n c l):Calls Tryz.prog 180 #[.slice (some ⟨g,0,none⟩) n c, .int .i64 (i:Int), .int .i64 (j:Int)] w fun e w'=>e= .returned (.tuple #[])/\SG w' n₀ g n c (Hp.sw l i j)/\w.grownBy w' (some g):=by
 obtain⟨d0,d1,d2,d3⟩:=hs.cell hi
 obtain⟨e0,e1,e2,e3⟩:=hs.cell hj
 have Ug:(i:Int)<(n:Int):=by omega
 have MJ:(j:Int)<(n:Int):=by omega
 have hcap:=hs.cap
 have hgl:=hs.lt.2
 have hfz:=hs.frozen
 have HS:Hid (∀(s t:Sp.S),l.getD i .z=s->l.getD j .z=t->SG (((((((((w.setCell ⟨g,i*4,none⟩ (.int .i64 t.b)).setCell ⟨g,i*4+1,none⟩ (.int .i64 t.f)).setCell ⟨g,i*4+2,none⟩ (.int .i64 t.t)).setCell ⟨g,i*4+3,none⟩ (.bool t.c)).setCell ⟨g,j*4,none⟩ (.int .i64 s.b)).setCell ⟨g,j*4+1,none⟩ (.int .i64 s.f)).setCell ⟨g,j*4+2,none⟩ (.int .i64 s.t)).setCell ⟨g,j*4+3,none⟩ (.bool s.c)).drew) n₀ g n c (Hp.sw l i j)):=fun s t e1 e2=>by unfold Hp.sw;rw[e1,e2];exact((hs.put hi t).put hj s).kept (Below.refl _ _).drew
 have HG:Hid (∀a b c d a' b' c' d' u v x y u' v' x' y',w.grownBy (((((((((w.setCell ⟨g,a,none⟩ u).setCell ⟨g,b,none⟩ v).setCell ⟨g,c,none⟩ x).setCell ⟨g,d,none⟩ y).setCell ⟨g,a',none⟩ u').setCell ⟨g,b',none⟩ v').setCell ⟨g,c',none⟩ x').setCell ⟨g,d',none⟩ y').drew) (some g)):=fun a b c d a' b' c' d' u v x y u' v' x' y'=>
  wE (A8 w g a b c d a' b' c' d' u v x y u' v' x' y')
 obtain⟨s,hse⟩:∃s,l.getD i .z=s:=⟨_,rfl⟩
 obtain⟨t,hte⟩:∃t,l.getD j .z=t:=⟨_,rfl⟩
 have HS2:=ae (HS.out s t hse hte)
 rw[hse]at d0 d1 d2 d3
 rw[hte]at e0 e1 e2 e3
 clear HS hse hte hs
 obtain⟨sb,sf,st,sc⟩:=s
 obtain⟨tb,tf,tt,tc⟩:=t
 dsimp only at d0 d1 d2 d3 e0 e1 e2 e3 HS2
 generalize Hp.sw l i j=L at HS2 ⊢
 obtain⟨⟨f0,h0⟩,⟨f1,h1⟩,⟨f2,h2⟩,⟨f3,h3⟩⟩:=CK (i:=i) (x0:= .int .i64 tb) (x1:= .int .i64 tf) (x2:= .int .i64 tt) (x3:= .bool tc) e0 e1 e2 e3
 go_enter Tryz.func180,Tryz.ntmps180
 go_wp2_with fail
 go_region
 refine bodyPost_end (results_none rfl _ _ _) rfl ⟨rfl,HS2.out,HG.out _ _ _ _ _ _ _ _ _ _ _ _ _ _ _ _⟩
theorem FH {ops:Array Oper}{o:Oper}{a:Act}{K:Act->World->Prop}{Q:Exit->Act->World->Prop}{E:Prop}(W:World)(hgd:o.guard=none)(s x:Operand)(ho:o.op= .call {callee:= .builtin .append,args:=#[s,x],argTypes:=#[76,76]})(n₀ g n c:Nat)(l:List Sp.S)(hs:a.eval s= .slice (some ⟨g,0,none⟩) n c)(hown:SG W n₀ g n c l)(sb:Nat)(y:Sp.S)(hx:a.eval x= .slice (some ⟨sb,0,none⟩) 1 1)(hy:∀j u,[Value.int .i64 y.b, .int .i64 y.f, .int .i64 y.t, .bool y.c][j]?=some u->W.cell? ((⟨sb,0,none⟩:Addr).add j)=some u)(hsz:n<=1000)(hbase:n₀<=W.heap.size)(h:∀g' c' N W',Hid (N=n+1)->SG W' n₀ g' N c' (l++[y])->W.grownBy W' (some g)->K (a.put o.dst (.slice (some ⟨g',0,none⟩) N c')) W'):if Region.wanted o (yielded ops a.tmps)=true then Oper.wp Tryz.prog o a W K Q else E:=by have hw:Region.wanted o (yielded ops a.tmps)=true:=by{simp[Region.wanted,hgd]};rw[ay hw];obtain⟨i0,hi,hz0,hz1,hz2⟩:=info_parts xy;refine wp_append_own W s x 76 ho n₀ 39 i0 (.agg #[.int .i64 0, .int .i64 0, .int .i64 0, .bool false]) 4 32 Tryz.underlying76 hi hz0 hz1 hz2 rfl (by decide) _ n (aY l) hs hown.2 ⟨sb,0,none⟩ 1 1 [.int .i64 y.b, .int .i64 y.f, .int .i64 y.t, .bool y.c] hx rfl hy (fun u hu=>?_) (by simp only[maxLen];omega) (by omega) hbase (fun v' W' hown' hgrow hnn=>?_);{simp only[List.mem_cons,List.not_mem_nil,or_false]at hu;rcases hu with rfl|rfl|rfl|rfl<;>rfl};rcases hown'.2 with⟨rfl,h0⟩|⟨g',cap',cur,rfl,r⟩;{exact absurd (hnn.1 rfl).1 (fun e=>by cases e)};refine h g' cap' (n+1) W' rfl ⟨by rw[List.length_append,hown.1];rfl,?_⟩ hgrow;have e:aY (l++[y])=aY l++[.int .i64 y.b, .int .i64 y.f, .int .i64 y.t, .bool y.c]:=by{rw[kH];rfl};rw[e];exact hown'
theorem SG.block {W:World}{n₀ g n c:Nat}{l:List Sp.S}(h:SG W n₀ g n c l):∃cur,W.heap[g]?=some (.cells cur 39 (0,0)):=by rcases h.2.2 with⟨e,-⟩|⟨g',cap,cur,e,h1,h2,r⟩;{cases e};cases e;exact⟨cur,h2⟩
theorem KN {W:World}{n₀ g n c gp:Nat}{l:List Sp.S}{vs:List Value}(h:SG W n₀ g n c l)(hA:gP W gp 76 vs):gp≠g:=by rintro rfl;obtain⟨cur,hb⟩:=h.block;have:=hb.symm.trans hA;simp at this
theorem rf (v:Value)(W:World):(Instr.typeAssert (.iface 39 v) 20 39 false).run Tryz.prog W= .ok v W:=by kernel_rfl
theorem F7 (n₀ gp g c:Nat)(l:List Sp.S)(y:Sp.S)(hl:l.length<=1000)(w:World)(hn₀:n₀<=w.heap.size)(hs:WH w n₀ gp g c l):Calls Tryz.prog 179 #[.pointer (some ⟨gp,0,none⟩), .iface 39 (sv y)] w fun e w'=>e= .returned (.tuple #[])/\∃g' c',WH w' n₀ gp g' c' (l++[y])/\Below n₀ w w':=by
 have hcl:=hs.cell
 have hfz:=hs.frozen
 have hgp:=hs.1.lt
 have hsg:=hs.2.1
 have hg0:=hsg.lt.1
 have HS:=ae hs
 obtain⟨n,hnn⟩:∃n,l.length=n:=⟨_,rfl⟩
 rw[hnn]at hcl hl hsg
 have hB1:=aA w.drew (.cells #[.int .i64 y.b, .int .i64 y.f, .int .i64 y.t, .bool y.c] 39)
 have Cu:=ae ((hsg.kept (Below.refl _ _).drew).kept hB1)
 have HA:=ae ((hs.1.kept (Below.refl _ _).drew).kept hB1)
 have HC:=ae (nS w.drew (.int .i64 y.b) (.int .i64 y.f) (.int .i64 y.t) (.bool y.c) 39)
 have HB:=ae ((Below.refl n₀ w).drew.trans (hB1.mono hn₀))
 have HN:=ae hnn
 have hta:=rf
 clear hB1 hsg hs hnn
 unfold sv
 go_enter Tryz.func179,Tryz.ntmps179
 go_wp2_with fail
 go_region_law (first
   |(refine FH _ rfl (.tmp 7) (.tmp 10) rfl n₀ g n c l (by simp[Act.eval]) Cu.out w.heap.size y (by simp[Act.eval]) HC.out hl (by simp;omega) ?_;intro g' c' N W' hN ho hgr;have hA':=HA.out.bT hgr (by have:=HS.out.2.2.1;simpa using this);have hcl':=hA'.cell (j:=0) rfl;have hfz':=hA'.frozen 0;have HF:=ae (ak hN.out (ak ho (ak hA' hgr)));clear ho hgr hA'))
 all_goals obtain⟨hN,ho,hA',hgr⟩:=HF.out;have hlN:(l++[y]).length=N:=ho.1;have hne:=KN ho hA';refine bodyPost_end (results_none rfl _ _ _) rfl ⟨rfl,g',c',⟨?_,?_,hne,HS.out.2.2.2⟩,ng.below HB.out ((ng.AV hgr gp).trans (ng.EE (aB W' ⟨gp,0,none⟩ _) g)) (Nat.le_trans hn₀ HB.out.size) HS.out.2.2.2 hg0⟩;{rw[hlN];exact hA'.set 0 _};rw[hlN];exact ho.bT (aB W' ⟨gp,0,none⟩ _) hne.symm
theorem JC (n₀ gp g c:Nat)(l:List Sp.S)(m:Nat)(hl:l.length=m+1)(hm:m<=1000)(w:World)(hs:WH w n₀ gp g c l):Calls Tryz.prog 178 #[.pointer (some ⟨gp,0,none⟩)] w fun e w'=>e= .returned (.iface 39 (sv (l.getD m .z)))/\WH w' n₀ gp g c (l.take m)/\ng w w' gp g:=by have hcl:=hs.cell;have hfz:=hs.frozen;have hgp:=hs.1.lt;have hsg:=hs.2.1;have hcap:=hsg.cap;simp only[maxLen]at hcap;rw[hl]at hcl hsg hcap;obtain⟨d0,d1,d2,d3⟩:=hsg.cell (show m<m+1 by omega);have HS:=ae hs;have Cu:=ae hsg;have HL:=ae hl;have hcm:m<=c:=by{omega};have ais:(m:Int)<=(c:Int):=by{omega};have hc1:m+1<=c:=by{omega};have hmb:(m:Int)<=4611686018427387904:=by{omega};have hwr:IntKind.i64.wrap ((m:Int)+1-1)=(m:Int):=by{rw[IntKind.wrap_i64];omega};have hmm:((m:Int)+1-1)=(m:Int):=by{omega};unfold sv;generalize l.getD m .z=y at d0 d1 d2 d3 ⊢;obtain⟨sb,sf,st,sc⟩:=y;dsimp only at d0 d1 d2 d3 ⊢;clear hs hsg hl;go_enter Tryz.func178,Tryz.ntmps178;go_wp2;go_ret;have hA:=HS.out.1.set 0 (.slice (some ⟨g,0,none⟩) m c);have hT:=ng.EE (aB w ⟨gp,0,none⟩ (.slice (some ⟨g,0,none⟩) m c)) g;have hS:=(Cu.out.take (Nat.le_succ m)).bT (aB w ⟨gp,0,none⟩ (.slice (some ⟨g,0,none⟩) m c)) HS.out.2.2.1.symm;have hal:=aA (w.setCell ⟨gp,0,none⟩ (.slice (some ⟨g,0,none⟩) m c)) (.cells #[.int .i64 sb, .int .i64 sf, .int .i64 st, .bool sc] 39);have hlm:(l.take m).length=m:=by{rw[List.length_take,HL.out];omega};refine⟨rfl,⟨?_,?_,HS.out.2.2⟩,hT.trans (ng.ma hal _ _)⟩;{rw[hlm];exact hA.kept hal};rw[hlm];exact hS.kept hal
end
section
set_option linter.unusedSimpArgs false
structure WT (w W:World)(n₀ gp g c:Nat)(l:List Sp.S):Prop where
 wh:WH W n₀ gp g c l
 two:ng w W gp g
theorem WT.start {w:World}{n₀ gp g c:Nat}{l:List Sp.S}(h:WH w n₀ gp g c l):WT w w n₀ gp g c l:=⟨h,ng.ma (Below.refl _ _) _ _⟩
theorem WT.kept {w W W':World}{n₀ gp g c:Nat}{l:List Sp.S}(h:WT w W n₀ gp g c l)(hB:Below W.heap.size W W'):WT w W' n₀ gp g c l:=⟨h.wh.kept hB,h.two.trans (ng.ma hB _ _)⟩
theorem WT.sw {w W W':World}{n₀ gp g c:Nat}{l:List Sp.S}(h:WT w W n₀ gp g c l){i j:Nat}(hs:SG W' n₀ g l.length c (Hp.sw l i j))(hg:W.grownBy W' (some g)):WT w W' n₀ gp g c (Hp.sw l i j):=⟨h.wh.sw hs hg,h.two.trans (ng.AV hg _)⟩
theorem half (m:Nat):((m:Int)).tdiv 2=((m / 2:Nat):Int):=by rw[Int.tdiv_eq_ediv_of_nonneg (by omega)];omega
theorem Ls (n₀ gp g c:Nat)(l:List Sp.S)(j:Nat)(hj:j<l.length)(hn:l.length<=1000)(w:World)(hs:WH w n₀ gp g c l):Calls Tryz.prog 87 #[.iface 48 (.pointer (some ⟨gp,0,none⟩)), .int .i64 (j:Int)] w fun e w'=>e= .returned (.tuple #[])/\WT w w' n₀ gp g c (Hp.up (j+1) l j):=by
 have HS:=ae (WT.start hs)
 have hlen:Hid (l.length=l.length):=rfl
 obtain⟨n,hnn⟩:∃n,l.length=n:=⟨_,rfl⟩
 rw[hnn]at hj hn
 have HN:=ae hnn
 obtain⟨R,hR⟩:∃R,Hp.up (j+1) l j=R:=⟨_,rfl⟩
 rw[hR]
 have HR:=ae hR
 have hEL:=EK
 have hES:=zB
 clear hs hnn hlen hR
 go_enter Tryz.func87,Tryz.ntmps87
 go_wp2
 go_loopg [1] (j+1) (fun gk vj wr=>∃(i:Nat)(lk:List Sp.S),vj= .int .i64 (i:Int)/\i<gk/\i<n/\Hid (lk.length=n)/\Hid (Hp.up gk lk i=R)/\WT w wr n₀ gp g c lk)
 case atStart=>exact⟨j,l,rfl,by omega,hj,HN,HR,HS.out⟩
 case round=>
  obtain⟨i,lk,rfl,hik,hin,oC,Zx,hw⟩:=hrel
  clear HS HR HN
  obtain⟨m,rfl⟩:∃m,gk=m+1:=⟨gk-1,by omega⟩
  have HW:=ae hw
  have Oq:=mX hw.wh.cell
  rw[oC.out]at Oq
  have hsg:=hw.wh.2.1
  rw[oC.out]at hsg
  by_cases hi0:i=0
  · subst hi0;have HE:Hid (lk=R):=by{show _=_;rw[←Zx.out];unfold Hp.up;rw[ay rfl]};clear hw hsg Zx;go_wp2;refine bodyPost_end (results_none rfl _ _ _) rfl ⟨rfl,?_⟩;rw[←HE.out];exact HW.out
  · obtain⟨p,rfl⟩:∃p,i=p+1:=⟨i-1,by omega⟩
    have hp:p / 2<n:=by omega
    have hq:=half p
    obtain⟨h,hh⟩:∃h,p / 2=h:=⟨_,rfl⟩
    rw[hh]at hq hp
    have hne:¬h=p+1:=by omega
    have ait:¬(h:Int)=(p:Int)+1:=by omega
    have hless:=jX n₀ g n c lk (p+1) h hin hp wr hsg
    have MR:Hid ((if Hp.lt (lk.getD (p+1) .z) (lk.getD h .z)=true then Hp.up m (Hp.sw lk h (p+1)) h else lk)=R):=by show _=_;rw[←Zx.out];(conv=>rhs;unfold Hp.up);rw[show(p+1-1) / 2=h by omega,ax hne]
    have hwl:=hw.wh
    clear hw hsg Zx
    cases hv:Hp.lt (lk.getD (p+1) .z) (lk.getD h .z)with
    |false=>
     rw[hv]at hless MR
     have HE:Hid (lk=R):=MR.out
     go_wp2_with(go_at_call 177;refine hless.mono ?_;rintro e w4 ⟨rfl,hB4⟩;have wK:=ae (HW.out.kept hB4);clear hB4;dsimp only)
     refine bodyPost_end (results_none rfl _ _ _) rfl ⟨rfl,?_⟩
     rw[←HE.out]
     exact wK.out
    |true=>
     rw[hv]at hless MR
     have HE:Hid (Hp.up m (Hp.sw lk h (p+1)) h=R):=MR.out
     have hlk:lk.length=n:=oC.out
     go_wp2_with(first
       |(go_at_call 177;refine hless.mono ?_;rintro e w4 ⟨rfl,hB4⟩;have wK:=ae (HW.out.kept hB4);have KF:=oN wK.out.wh.cell;rw[oC.out]at KF;clear hB4;dsimp only)
       |(go_at_call 180;refine(jT n₀ g n c lk h (p+1) hp hin w4 (by have:=wK.out.wh.2.1;rw[oC.out]at this;exact this)).mono ?_;rintro e w5 ⟨rfl,hs5,hg5⟩;have zQ:=ae (wK.out.sw (by rw[oC.out];exact hs5) hg5);clear hs5 hg5;dsimp only))
     go_roundg m
     case measure=>omega
     case rel=>exact⟨h,_,rfl,by omega,hp,(show _=_ by rw[Hp.df];exact oC.out),HE,zQ.out⟩
theorem FO (n₀ gp g c:Nat) (l:List Sp.S) (k₀ i₀ n:Nat) (Ot:i₀<l.length) (hnl:n<=l.length) (Uu:n<i₀+k₀+1) (hb:l.length<=1000) (w:World) (hs:WH w n₀ gp g c l):Calls Tryz.prog 95 #[.iface 48 (.pointer (some ⟨gp,0,none⟩)), .int .i64 (i₀:Int), .int .i64 (n:Int)] w fun e w'=>(∃v,e= .returned v)/\WT w w' n₀ gp g c (Hp.down k₀ l i₀ n):=by
 have HS:=ae (WT.start hs)
 obtain⟨N,hnn⟩:∃N,l.length=N:=⟨_,rfl⟩
 rw[hnn]at Ot hnl hb
 have HN:=ae hnn
 obtain⟨R,hR⟩:∃R,Hp.down k₀ l i₀ n=R:=⟨_,rfl⟩
 rw[hR]
 have HR:=ae hR
 have hEL:=EK
 have hES:=zB
 clear hs hnn hR
 go_enter Tryz.func95,Tryz.ntmps95
 go_wp2
 go_loopg [7] (k₀+1) (fun gk vj wr=>∃(k i:Nat)(lk:List Sp.S),gk=k+1/\vj= .int .i64 (i:Int)/\i<N/\n<i+k+1/\Hid (lk.length=N)/\Hid (Hp.down k lk i n=R)/\WT w wr n₀ gp g c lk)
 case atStart=>exact⟨k₀,i₀,l,rfl,rfl,Ot,Uu,HN,HR,HS.out⟩
 case round=>
  obtain⟨k,i,lk,nP,rfl,RV,hik,oC,Zy,hw⟩:=hrel
  clear HS HR HN
  have HW:=ae hw
  have Oq:=mX hw.wh.cell
  rw[oC.out]at Oq
  have hsg:=hw.wh.2.1
  rw[oC.out]at hsg
  by_cases hend:n<=2*i+1
  · have HE:Hid (lk=R):=by
     show _=_
     rw[←Zy.out]
     cases k with
     |zero=>rfl
     |succ k=>
      unfold Hp.down
      rw[ay hend]
    have Uv:(n:Int)<=2*(i:Int)+1:=by omega
    clear hw hsg Zy
    go_wp2
    all_goals go_ret;refine⟨⟨_,rfl⟩,?_⟩;rw[←HE.out];exact HW.out
  · obtain⟨k',rfl⟩:∃k',k=k'+1:=⟨k-1,by omega⟩
    obtain⟨a,hae⟩:∃a,2*i+1=a:=⟨_,rfl⟩
    obtain⟨b,hbe⟩:∃b,2*i+2=b:=⟨_,rfl⟩
    have haZ:2*(i:Int)+1=(a:Int):=by omega
    have hbZ:(a:Int)+1=(b:Int):=by omega
    have Uv:¬(n:Int)<=(a:Int):=by omega
    have JM:¬(a:Int)<0:=by omega
    have Qw:a<N:=by omega
    have GN:Hid ((if Hp.lt (lk.getD (Hp.ch lk i n) .z) (lk.getD i .z)=true then Hp.down k' (Hp.sw lk i (Hp.ch lk i n)) (Hp.ch lk i n) n else lk)=R):=by show _=_;rw[←Zy.out];(conv=>rhs;unfold Hp.down);rw[ax hend]
    have HCH:Hid (Hp.ch lk i n=if b<n/\Hp.lt (lk.getD b .z) (lk.getD a .z)=true then b else a):=by show _=_;unfold Hp.ch;rw[hae,hbe]
    have hai:i<a:=by omega
    have hbi:i<b:=by omega
    have hia:n<a+k'+1:=by omega
    have hib:n<b+k'+1:=by omega
    clear Zy hend hae hw
    by_cases hbn:b<n
    · have abh:(b:Int)<(n:Int):=by omega
      have hbN:b<N:=by omega
      clear hbe
      have hl1:=jX n₀ g N c lk b a hbN Qw wr hsg
      cases hv1:Hp.lt (lk.getD b .z) (lk.getD a .z)with
      | true=>
       rw[hv1]at hl1
       have Ou:Hid (Hp.ch lk i n=b):=by show _=_;rw[HCH.out,ay ⟨hbn,hv1⟩]
       have hl2:=fun W hs=>jX n₀ g N c lk b i hbN RV W hs
       cases hv:Hp.lt (lk.getD b .z) (lk.getD i .z)with
       |false=>
        rw[hv]at hl2
        have HE:Hid (lk=R):=by show _=_;rw[←GN.out,Ou.out,hv];rfl
        go_wp2_with fail
        refine hl1.mono ?_
        rintro e w4 ⟨rfl,hB4⟩
        have wK:=ae (HW.out.kept hB4)
        have Qx:=mX wK.out.wh.cell
        rw[oC.out]at Qx
        clear hB4
        dsimp only
        go_wp2_with(first|(go_at_call 177;refine(hl2 w4 (by have:=wK.out.wh.2.1;rw[oC.out]at this;exact this)).mono ?_;rintro e w5 ⟨rfl,bE⟩;have zQ:=ae (wK.out.kept bE);clear bE;dsimp only))
        go_ret
        refine⟨⟨_,rfl⟩,?_⟩
        rw[←HE.out]
        exact zQ.out
       |true=>
        rw[hv]at hl2
        have HE:Hid (Hp.down k' (Hp.sw lk i b) b n=R):=by show _=_;rw[←GN.out,Ou.out,hv];rfl
        go_wp2_with fail
        refine hl1.mono ?_
        rintro e w4 ⟨rfl,hB4⟩
        have wK:=ae (HW.out.kept hB4)
        have Qx:=mX wK.out.wh.cell
        rw[oC.out]at Qx
        clear hB4
        dsimp only
        go_wp2_with(first|(go_at_call 177;refine(hl2 w4 (by have:=wK.out.wh.2.1;rw[oC.out]at this;exact this)).mono ?_;rintro e w5 ⟨rfl,bE⟩;have zQ:=ae (wK.out.kept bE);have KF:=oN zQ.out.wh.cell;rw[oC.out]at KF;clear bE;dsimp only)|(go_at_call 180;refine(jT n₀ g N c lk i b RV hbN w5 (by have:=zQ.out.wh.2.1;rw[oC.out]at this;exact this)).mono ?_;rintro e w6 ⟨rfl,hs6,zX⟩;have Uw:=ae (zQ.out.sw (by rw[oC.out];exact hs6) zX);clear hs6 zX;dsimp only))
        go_roundg (k'+1)
        case measure=>omega
        case rel=>exact⟨k',b,_,rfl,rfl,hbN,by omega,(show _=_ by rw[Hp.df];exact oC.out),HE,Uw.out⟩
      | false=>
       rw[hv1]at hl1
       have Ou:Hid (Hp.ch lk i n=a):=by show _=_;rw[HCH.out,ax (fun h=>by rw[hv1]at h;exact absurd h.2 (by decide))]
       have hl2:=fun W hs=>jX n₀ g N c lk a i Qw RV W hs
       cases hv:Hp.lt (lk.getD a .z) (lk.getD i .z)with
       |false=>
        rw[hv]at hl2
        have HE:Hid (lk=R):=by show _=_;rw[←GN.out,Ou.out,hv];rfl
        go_wp2_with fail
        refine hl1.mono ?_
        rintro e w4 ⟨rfl,hB4⟩
        have wK:=ae (HW.out.kept hB4)
        have Qx:=mX wK.out.wh.cell
        rw[oC.out]at Qx
        clear hB4
        dsimp only
        go_wp2_with(first|(go_at_call 177;refine(hl2 w4 (by have:=wK.out.wh.2.1;rw[oC.out]at this;exact this)).mono ?_;rintro e w5 ⟨rfl,bE⟩;have zQ:=ae (wK.out.kept bE);clear bE;dsimp only))
        go_ret
        refine⟨⟨_,rfl⟩,?_⟩
        rw[←HE.out]
        exact zQ.out
       |true=>
        rw[hv]at hl2
        have HE:Hid (Hp.down k' (Hp.sw lk i a) a n=R):=by show _=_;rw[←GN.out,Ou.out,hv];rfl
        go_wp2_with fail
        refine hl1.mono ?_
        rintro e w4 ⟨rfl,hB4⟩
        have wK:=ae (HW.out.kept hB4)
        have Qx:=mX wK.out.wh.cell
        rw[oC.out]at Qx
        clear hB4
        dsimp only
        go_wp2_with(first|(go_at_call 177;refine(hl2 w4 (by have:=wK.out.wh.2.1;rw[oC.out]at this;exact this)).mono ?_;rintro e w5 ⟨rfl,bE⟩;have zQ:=ae (wK.out.kept bE);have KF:=oN zQ.out.wh.cell;rw[oC.out]at KF;clear bE;dsimp only)|(go_at_call 180;refine(jT n₀ g N c lk i a RV Qw w5 (by have:=zQ.out.wh.2.1;rw[oC.out]at this;exact this)).mono ?_;rintro e w6 ⟨rfl,hs6,zX⟩;have Uw:=ae (zQ.out.sw (by rw[oC.out];exact hs6) zX);clear hs6 zX;dsimp only))
        go_roundg (k'+1)
        case measure=>omega
        case rel=>exact⟨k',a,_,rfl,rfl,Qw,by omega,(show _=_ by rw[Hp.df];exact oC.out),HE,Uw.out⟩
    · have abh:¬(b:Int)<(n:Int):=by omega
      have Ou:Hid (Hp.ch lk i n=a):=by show _=_;rw[HCH.out,ax (fun h=>hbn h.1)]
      clear hbe
      have hl2:=fun W hs=>jX n₀ g N c lk a i Qw RV W hs
      cases hv:Hp.lt (lk.getD a .z) (lk.getD i .z)with
      |false=>
       rw[hv]at hl2
       have HE:Hid (lk=R):=by show _=_;rw[←GN.out,Ou.out,hv];rfl
       go_wp2_with(first|(go_at_call 177;refine(hl2 wr hsg).mono ?_;rintro e w5 ⟨rfl,bE⟩;have zQ:=ae (HW.out.kept bE);clear bE;dsimp only))
       go_ret
       refine⟨⟨_,rfl⟩,?_⟩
       rw[←HE.out]
       exact zQ.out
      |true=>
       rw[hv]at hl2
       have HE:Hid (Hp.down k' (Hp.sw lk i a) a n=R):=by show _=_;rw[←GN.out,Ou.out,hv];rfl
       go_wp2_with(first|(go_at_call 177;refine(hl2 wr hsg).mono ?_;rintro e w5 ⟨rfl,bE⟩;have zQ:=ae (HW.out.kept bE);have KF:=oN zQ.out.wh.cell;rw[oC.out]at KF;clear bE;dsimp only)|(go_at_call 180;refine(jT n₀ g N c lk i a RV Qw w5 (by have:=zQ.out.wh.2.1;rw[oC.out]at this;exact this)).mono ?_;rintro e w6 ⟨rfl,hs6,zX⟩;have Uw:=ae (zQ.out.sw (by rw[oC.out];exact hs6) zX);clear hs6 zX;dsimp only))
       go_roundg (k'+1)
       case measure=>omega
       case rel=>exact⟨k',a,_,rfl,rfl,Qw,by omega,(show _=_ by rw[Hp.df];exact oC.out),HE,Uw.out⟩
end
section
set_option linter.unusedSimpArgs false
theorem FU (n₀ gp g c:Nat)(l:List Sp.S)(y:Sp.S)(hl:l.length<=999)(w:World)(hn₀:n₀<=w.heap.size)(hs:WH w n₀ gp g c l):Calls Tryz.prog 55 #[.iface 48 (.pointer (some ⟨gp,0,none⟩)), .iface 39 (sv y)] w fun e w'=>e= .returned (.tuple #[])/\∃g' c',WH w' n₀ gp g' c' (Hp.push l y)/\Below n₀ w w':=by have HP:=ae (F7 n₀ gp g c l y (by omega) w hn₀ hs);have hEL:=Jc;have hEP:=KV;have hmP:=LK;have HPU:Hid (Hp.push l y=Hp.up (l.length+1) (l++[y]) l.length):=rfl;have hll:(l++[y]).length=l.length+1:=by{rw[List.length_append];rfl};obtain⟨n,hnn⟩:∃n,l.length=n:=⟨_,rfl⟩;rw[hnn]at HPU hll hl;generalize l++[y]=L at HP HPU hll;have HLL:=ae hll;have hnm:((n:Int)+1-1)=(n:Int):=by{omega};clear hll hnn hs;go_enter Tryz.func55,Tryz.ntmps55;go_wp2_with fail;refine HP.out.mono ?_;rintro e w1 ⟨rfl,g1,c1,hw1,hB1⟩;dsimp only;have Oq:=Ie hw1.cell;have HW:=ae hw1;rw[HLL.out]at Oq;clear hw1;go_wp2_with fail;refine(pE _ _ _ _).mono ?_;rintro e w' ⟨rfl,bq⟩;subst w';dsimp only;go_wp2_with fail;refine(Ls n₀ gp g1 c1 L n (by rw[HLL.out];omega) (by rw[HLL.out];omega) _ HW.out).mono ?_;rintro e w2 ⟨rfl,ht⟩;dsimp only;go_wp2;refine bodyPost_end (results_none rfl _ _ _) rfl ⟨rfl,g1,c1,?_,ng.below hB1 ht.two (Nat.le_trans hn₀ hB1.size) HW.out.2.2.2 HW.out.2.1.lt.1⟩;rw[HPU.out];exact ht.wh
theorem Jz (n₀ gp g c:Nat)(l:List Sp.S)(m:Nat)(hl:l.length=m+1)(hm:m<=999)(w:World)(hs:WH w n₀ gp g c l):Calls Tryz.prog 65 #[.iface 48 (.pointer (some ⟨gp,0,none⟩))] w fun e w'=>e= .returned (.iface 39 (sv (Hp.iI l)))/\WT w w' n₀ gp g c (Hp.rest l):=by have hne:l≠[]:=Hp.I6 hl;have qJ:Hid (Hp.iI l=(Hp.down (m+1) (Hp.sw l 0 m) 0 m).getD m .z/\Hp.rest l=(Hp.down (m+1) (Hp.sw l 0 m) 0 m).take m/\(Hp.down (m+1) (Hp.sw l 0 m) 0 m).length=m+1):=by{have h1:=Hp.sM hne;unfold Hp.low at h1;show _/\_/\_;unfold Hp.iI Hp.rest Hp.low;rw[hl,Nat.add_sub_cancel]at*;exact⟨rfl,rfl,h1⟩};have Oq:=Ie hs.cell;have KF:=oN hs.cell;rw[hl]at Oq KF;have HW:=ae (WT.start hs);have hEL:=Jc;have hES:=zB;have hEP:=Qa;have hmP:=PT;have hSW:=jT n₀ g (m+1) c l 0 m (by omega) (by omega) w (by have:=hs.2.1;rw[hl]at this;exact this);have HL:=ae hl;have hnm:((m:Int)+1-1)=(m:Int):=by{omega};generalize Hp.iI l=tp at qJ ⊢;generalize Hp.rest l=rs at qJ ⊢;clear hs hl hne;go_enter Tryz.func65,Tryz.ntmps65;go_wp2_with fail;refine(pE _ _ _ _).mono ?_;rintro e w' ⟨rfl,bq⟩;subst w';dsimp only;go_wp2_with fail;refine hSW.mono ?_;rintro e w1 ⟨rfl,hs1,hg1⟩;have HW1:=ae (HW.out.sw (by rw[HL.out];exact hs1) hg1);clear hs1 hg1 hSW HW Oq KF;dsimp only;go_wp2_with fail;refine(FO n₀ gp g c (Hp.sw l 0 m) (m+1) 0 m (by rw[Hp.df,HL.out];omega) (by rw[Hp.df,HL.out];omega) (by omega) (by rw[Hp.df,HL.out];omega) w1 HW1.out.wh).mono ?_;rintro e w2 ⟨⟨v,rfl⟩,ht⟩;dsimp only;have HT:=ae (ak ht.wh (HW1.out.two.trans ht.two));clear ht;go_wp2_with fail;refine(JC n₀ gp g c _ m qJ.out.2.2 (by omega) w2 HT.out.1).mono ?_;rintro e w3 ⟨rfl,hw3,ht3⟩;have HF:=ae (ak hw3 ht3);clear hw3 ht3;dsimp only;rw[←qJ.out.1];go_wp2;go_ret;refine⟨rfl,⟨?_,HT.out.2.trans HF.out.2⟩⟩;rw[qJ.out.2.1];exact HF.out.1
end
end Go.Proofs.YtpipjiinmhopmaaGreat
