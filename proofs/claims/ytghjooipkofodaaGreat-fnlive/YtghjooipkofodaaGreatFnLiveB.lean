/-
  Proved: at every slice of bytes the law FnLive returns true and the bytes stay: what is wanted ahead of a line is what it uses, and what is wanted behind it and it does not set; no condition.
-/
import Derived.Test.YtghjooipkofodaaGreatKY28
import Derived.ShutString
import Derived.ChangeOld
namespace Go.Proofs.YtghjooipkofodaaGreat.fnLive
open Go.ChangeShapes Go.WideShapes Go.ChangeAt Go.RowKit
open Go.ChangeMaps (open_string shut_string)
set_option linter.all false

theorem own:ownKnob Tryz.prog.godebug=none:=by kernel_rfl
theorem laidOut:laidOutB Tryz.prog=true:=by kernel_rfl
def IsRow (k:IntKind)(w:World)(a:Option Addr)(len cap:Nat)(zs:List Int):Prop:=
  (a=none/\len=0/\cap=0/\zs=[])\/
  ∃x,a=some x/\len<=cap/\cap<=maxLen/\zs.length=cap/\(∀i,i<zs.length->w.cell? (x.add i)=some (.int k (zs.getD i 0)))/\∀n∈zs,(Lit.int k n).wf=true

theorem bytes_of {w:World}{a:Option Addr}{len cap:Nat}{zs:List Int}(h:IsRow .u8 w a len cap zs):Bytes w a len zs:=by rcases h with⟨rfl,rfl,rfl,rfl⟩|⟨x,rfl,hl,hm,hz,hcell,hwz⟩;{exact⟨Nat.zero_le _, .inl rfl⟩};refine⟨by omega,?_⟩;by_cases h0:len=0;{exact .inl h0};right;obtain⟨b,off,spot⟩:=x;have hc:=hcell 0 (by omega);have hspot:spot=none:=by{simpa[Addr.add]using World.cell?_spot hc};subst hspot;refine⟨b,off,rfl,?_,fun j hj=>?_,fun j=>?_⟩;{have:=block_lt_of_cell hc;simpa[Addr.add]using this};{have:=hcell j (by omega);by_cases hj0:j=0;{subst hj0;simpa[Addr.add]using this};simpa[Addr.add,hj0]using this};have:=range_u8 hwz j;simpa[ah]using this
theorem DrawLiveIn_any (a:Option Addr)(len cap:Nat)(zs:List Int)(hlen:len<=4096)(w:World)(hb:Bytes w a len zs):Calls Tryz.prog 27 #[.slice a len cap] w fun e w'=>∃v ls,∃p:Int,e= .returned (.tuple #[v, .int .i64 p])/\l7 w' w.heap.size v ls/\Below w.heap.size w w':=by go_enter Tryz.func27,Tryz.ntmps27;go_wp2_with fail;refine(kJ a len cap zs hlen _ hb).mono ?_;rintro e w2 ⟨v,ls,p,rfl,ho,hB⟩;dsimp only;have HF:=ae (ak ho hB);obtain⟨g,c,rfl,-⟩:=ho.LL;clear ho hB hb;go_wp2;go_ret2;exact⟨_,ls,p,rfl,HF.out.1,HF.out.2⟩
set_option maxRecDepth 20000 in
set_option maxHeartbeats 8000000 in
theorem walk (a0:Option Addr)(gU cap0:Nat)(z0:List Int)(w:World)(w0:IsRow .u8 w a0 gU cap0 z0):Calls Tryz.prog 5 #[.slice a0 gU cap0] w fun e w'=>e= .returned (.bool true)/\Below w.heap.size w w':=by
 have hb:=bytes_of w0
 have hl:=hb.1
 clear w0
 by_cases hbig:4096<gU
 · go_enter Tryz.func5,Tryz.ntmps5;go_wp2_with(go_at_call 6;refine(mq _ _ _ _ hl).mono ?_;rintro e w' ⟨rfl,rfl⟩);go_ret;exact⟨rfl,Below.refl _ _⟩
 · go_enter Tryz.func5,Tryz.ntmps5
   go_wp2_with fail
   refine(mq _ _ _ _ hl).mono ?_
   rintro e w' ⟨rfl,rfl⟩
   rw[decide_eq_false hbig]
   dsimp only
   clear hl
   go_wp2_with fail
   refine(DrawLiveIn_any a0 gU cap0 z0 (by omega) _ hb).mono ?_
   rintro e w1 ⟨v1,ls,p,rfl,hol,hB1⟩
   dsimp only
   obtain⟨gl,cl,rfl,-,-,hll⟩:=hol.LL
   obtain⟨nl,hnl⟩:∃n,ls.length=n:=⟨_,rfl⟩
   rw[hnl]at hll ⊢
   have hnm:=hll.2.1
   unfold maxLen at hnm
   have iI:∀W q,LL W (some ⟨gl,0,none⟩) nl ls->Calls Tryz.prog 28 #[.slice (some ⟨gl,0,none⟩) nl cl, .int .i64 q] W fun e w'=>∃g m c,e= .returned (.slice (some ⟨g,0,none⟩) m c)/\OG w' W.heap.size g m c (Fl.aV ls q)/\Below W.heap.size W w':=fun W q h=>vN _ nl cl ls q W h
   have iO:∀W q,LL W (some ⟨gl,0,none⟩) nl ls->Calls Tryz.prog 29 #[.slice (some ⟨gl,0,none⟩) nl cl, .int .i64 q] W fun e w'=>∃g m c,e= .returned (.slice (some ⟨g,0,none⟩) m c)/\OG w' W.heap.size g m c (Fl.bJ ls q)/\Below W.heap.size W w':=fun W q h=>uI _ nl cl ls q W h
   have sI:∀W q,LL W (some ⟨gl,0,none⟩) nl ls->Calls Tryz.prog 30 #[.slice (some ⟨gl,0,none⟩) nl cl, .int .i64 q] W fun e w'=>∃g m c,e= .returned (.slice (some ⟨g,0,none⟩) m c)/\OG w' W.heap.size g m c (Fl.aV ls q)/\Below W.heap.size W w':=fun W q h=>vR _ nl cl ls q W h
   have sO:∀W q,LL W (some ⟨gl,0,none⟩) nl ls->Calls Tryz.prog 31 #[.slice (some ⟨gl,0,none⟩) nl cl, .int .i64 q] W fun e w'=>∃g m c,e= .returned (.slice (some ⟨g,0,none⟩) m c)/\OG w' W.heap.size g m c (Fl.bJ ls q)/\Below W.heap.size W w':=fun W q h=>uH _ nl cl ls q W h
   have sN:∀W q,LL W (some ⟨gl,0,none⟩) nl ls->Calls Tryz.prog 24 #[.slice (some ⟨gl,0,none⟩) nl cl, .int .i64 q] W fun e w'=>∃g m c,e= .returned (.slice (some ⟨g,0,none⟩) m c)/\OG w' W.heap.size g m c (Fl.bZ ls q)/\Below W.heap.size W w':=fun W q h=>oV _ nl cl ls q W h
   have sL:∀W,LL W (some ⟨gl,0,none⟩) nl ls->Calls Tryz.prog 13 #[.slice (some ⟨gl,0,none⟩) nl cl] W fun e w'=>e= .returned (.bool (Ln.isOk ls))/\Below W.heap.size W w':=fun W h=>dZ _ nl cl ls W h
   have HC:=ae (ak iI (ak iO (ak sI (ak sO (ak sN sL)))))
   have HP:Hid (((Ln.isOk ls=false\/p<0\/(nl:Int)<=p)->Fl.aV ls p=[]/\Fl.bJ ls p=[])/\Up (Fl.aV ls p)/\Up (Fl.bJ ls p)):=by refine⟨fun h=>?_,Up.of (Fl.wT ls p),Up.of (Fl.tJ ls p)⟩;have h2:Fl.has ls p=false:=by{unfold Fl.has;rcases h with h|h;{rw[h];rfl};rw[decide_eq_false (by omega),Bool.and_false]};unfold Fl.aV Fl.bJ;rw[h2];exact⟨rfl,rfl⟩
   have FT:=ae hnl
   obtain⟨E1,hE1⟩:∃E,Fl.aV ls p=E:=⟨_,rfl⟩
   obtain⟨E2,hE2⟩:∃E,Fl.bJ ls p=E:=⟨_,rfl⟩
   rw[hE1,hE2]at HP
   have HE:=ae (ak hE1 hE2)
   clear iI iO sI sO sN sL hE1 hE2 hnl hol hb
   go_wp2_with fail
   refine(HC.out.1 _ _ hll).mono ?_
   rintro e w2 ⟨g1,m1,c1,rfl,ho1,hS⟩
   dsimp only
   rw[HE.out.1]at ho1
   have hB2:=hB1.trans (hS.mono hB1.size)
   have qL:=hll.kept hS
   have hi1:=(OI.il ho1.oi).2
   clear hB1 hll hS ho1
   go_wp2_with fail
   refine(HC.out.2.1 _ _ qL).mono ?_
   rintro e w3 ⟨g2,m2,c2,rfl,ho2,hS⟩
   dsimp only
   rw[HE.out.2]at ho2
   have hB3:=hB2.trans (hS.mono hB2.size)
   have qM:=qL.kept hS
   have hj1:=hi1.kept hS
   have hi2:=(OI.il ho2.oi).2
   clear hB2 qL hi1 hS ho2
   go_wp2_with fail
   refine(HC.out.2.2.1 _ _ qM).mono ?_
   rintro e w4 ⟨g3,m3,c3,rfl,ho3,hS⟩
   dsimp only
   rw[HE.out.1]at ho3
   obtain rfl:m3=m1:=by have h1:=ho3.1;have h2:=hj1.1;omega
   have hB4:=hB3.trans (hS.mono hB3.size)
   have xC:=qM.kept hS
   have hk1:=hj1.kept hS
   have hj2:=hi2.kept hS
   have hi3:=(OI.il ho3.oi).2
   clear hB3 qM hj1 hi2 hS ho3
   go_wp2_with fail
   refine(eG _ _ m3 _ _ E1 w4 hk1 hi3).mono ?_
   rintro e w5 ⟨rfl,hS⟩
   dsimp only
   have bG:=hB4.trans (hS.mono hB4.size)
   have y9:=xC.kept hS
   have hl1:=hk1.kept hS
   have hk2:=hj2.kept hS
   clear hB4 xC hk1 hj2 hS hi3
   go_wp2_with fail
   refine(HC.out.2.2.2.1 _ _ y9).mono ?_
   rintro e w6 ⟨g4,m4,c4,rfl,nS,hS⟩
   dsimp only
   rw[HE.out.2]at nS
   obtain rfl:m4=m2:=by have h1:=nS.1;have h2:=hk2.1;omega
   have bB:=bG.trans (hS.mono bG.size)
   have p8:=y9.kept hS
   have hm1:=hl1.kept hS
   have hl2:=hk2.kept hS
   have hi4:=(OI.il nS.oi).2
   clear bG y9 hl1 hk2 hS nS
   go_wp2_with fail
   refine(eG _ _ m4 _ _ E2 w6 hl2 hi4).mono ?_
   rintro e w7 ⟨rfl,hS⟩
   dsimp only
   have bn:=bB.trans (hS.mono bB.size)
   have uY:=p8.kept hS
   have hn1:=hm1.kept hS
   have hm2:=hl2.kept hS
   clear bB p8 hm1 hl2 hS hi4
   go_wp2_with fail
   refine(jT _ m3 _ E1 HP.out.2.1 w7 hn1).mono ?_
   rintro e w8 ⟨rfl,hS⟩
   dsimp only
   have dJ:=bn.trans (hS.mono bn.size)
   have za:=uY.kept hS
   have ho1:=hn1.kept hS
   have hn2:=hm2.kept hS
   clear bn uY hn1 hm2 hS
   go_wp2_with fail
   refine(jT _ m4 _ E2 HP.out.2.2 w8 hn2).mono ?_
   rintro e w9 ⟨rfl,hS⟩
   dsimp only
   have Dy:=dJ.trans (hS.mono dJ.size)
   have zb:=za.kept hS
   have hp1:=ho1.kept hS
   have ho2:=hn2.kept hS
   clear dJ za ho1 hn2 hS
   go_wp2_with fail
   refine(HC.out.2.2.2.2.2 _ zb).mono ?_
   rintro e AZ ⟨rfl,hS⟩
   dsimp only
   have qN:=Dy.trans (hS.mono Dy.size)
   have nK:=zb.kept hS
   have hq1:=hp1.kept hS
   have hq2:=ho2.kept hS
   clear Dy zb hp1 ho2 hS
   by_cases hgood:Ln.isOk ls=true/\0<=p/\p<(nl:Int)
   rotate_left
   · have h0:=HP.out.1 (by
      rcases hh:Ln.isOk ls with _|_
      · exact .inl rfl
      · right;by_cases h1:p<0;{exact .inl h1};exact .inr (Int.not_lt.1 fun h2=>hgood ⟨hh,by omega,h2⟩))
     have hz1:m3=0:=by have:=hq1.1;rw[h0.1]at this;exact this.symm
     have hz2:m4=0:=by have:=hq2.1;rw[h0.2]at this;exact this.symm
     subst hz1
     subst hz2
     have HB:=ae qN
     have HG:=ae hgood
     clear h0 hq1 hq2 nK qN hgood HP HE HC
     rcases hok:Ln.isOk ls with _|_
     · go_wp2;go_ret;exact⟨rfl,HB.out⟩
     · by_cases h1:p<0;{go_wp2;go_ret;exact⟨rfl,HB.out⟩};have h2:(nl:Int)<=p:=Int.not_lt.1 fun h2=>HG.out ⟨hok,by omega,h2⟩;go_wp2;go_ret;exact⟨rfl,HB.out⟩
   obtain⟨hok,hp0,hp1⟩:=hgood
   obtain⟨q,rfl⟩:=Int.eq_ofNat_of_zero_le hp0
   have EB:q<nl:=by omega
   have IV:(q:Int)<(nl:Int):=hp1
   have Pg:=Ln.bI hok
   rw[FT.out]at Pg
   have Vs:(nl:Int)<=300:=by omega
   have HT1:Hid (∀b:Nat,b<40->Fl.hs E1 (b:Int)=(Fl.hs (Ln.iL (ls.getD q .z)) (b:Int)||(Fl.hs E2 (b:Int)&&decide (Ln.ji (ls.getD q .z)≠(b:Int))))):=fun b hb=>by rw[←HE.out.1,←HE.out.2];exact Fl.Aw hok (by rw[FT.out];exact EB) hb
   have HT2:Hid (∀b:Nat,b<40->Fl.hs E2 (b:Int)=(Fl.bZ ls (q:Int)).any fun j=>Fl.hs (Fl.aV ls j) (b:Int)):=fun b hb=>by rw[←HE.out.2];exact Fl.CP hok (by rw[FT.out];exact EB) hb
   have HNX:Hid (∀j∈Fl.bZ ls (q:Int),0<=j/\j<(nl:Int)):=fun j hj=>by have e:Fl.bZ ls (q:Int)=Fl.nx (ls.getD q .z) q:=by{unfold Fl.bZ Fl.has;rw[hok,ay (by rw[FT.out,decide_eq_true (by omega)];rfl),az]};rw[e]at hj;have:=Fl.rG hok (p:=q) (by rw[FT.out];exact EB) j hj;rwa [FT.out]at this
   obtain⟨N,hN⟩:∃N,Fl.bZ ls (q:Int)=N:=⟨_,rfl⟩
   rw[hN]at HT2 HNX
   have HN:=ae hN
   obtain⟨bl,ol,XR,hbl,hlc⟩:=nK.at EB
   simp only[af,Addr.mk.injEq,and_true]at XR
   obtain⟨rfl,rfl⟩:=XR
   obtain⟨⟨xk,xd,xa,xb,xn,xl⟩,fV⟩:∃x,ls.getD q .z=x:=⟨_,rfl⟩
   rw[fV]at HT1 hlc
   have Br:=ae fV
   obtain⟨y0,y1,y2,y3,y4,la,lx,lc,y5,hil⟩:=hlc
   simp only[Nat.zero_add]at y0 y1 y2 y3 y4 y5 hil
   have sU:∀W,IL W la lx xl->Calls Tryz.prog 17 #[.agg #[.int .i64 xk, .int .i64 xd, .int .i64 xa, .int .i64 xb, .int .i64 xn, .slice la lx lc]] W fun e w'=>∃g m c,e= .returned (.slice (some ⟨g,0,none⟩) m c)/\OG w' W.heap.size g m c (Ln.iL ⟨xk,xd,xa,xb,xn,xl⟩)/\Below W.heap.size W w':=fun W h=>rC ⟨xk,xd,xa,xb,xn,xl⟩ la lx lc W h
   have sS:∀W,IL W la lx xl->Calls Tryz.prog 19 #[.agg #[.int .i64 xk, .int .i64 xd, .int .i64 xa, .int .i64 xb, .int .i64 xn, .slice la lx lc]] W fun e w'=>e= .returned (.int .i64 (Ln.ji ⟨xk,xd,xa,xb,xn,xl⟩))/\Below W.heap.size W w':=fun W h=>qV ⟨xk,xd,xa,xb,xn,xl⟩ la lx lc W h
   generalize Ln.iL ⟨xk,xd,xa,xb,xn,xl⟩=U at sU HT1
   generalize Ln.ji ⟨xk,xd,xa,xb,xn,xl⟩=S at sS HT1
   have HS:=ae (ak sU sS)
   have Vy:=ae nK
   have HI:=ae (ak hq1 (ak hq2 (ak hil (ak qN hbl))))
   have HY:=ae (ak y0 (ak y1 (ak y2 (ak y3 (ak y4 y5)))))
   have hd0:decide ((q:Int)<0)=false:=decide_eq_false (by omega)
   have hd1:decide (nl<=q)=false:=decide_eq_false (by omega)
   clear sU sS fV hN HP HE hp0 hp1 hq1 hq2 hil qN nK Pg
   go_wp2_with fail
   refine(HS.out.1 AZ HI.out.2.2.1).mono ?_
   clear hok
   rintro e Dv ⟨gu,mu,cu,rfl,hou,hS⟩
   dsimp only
   have hiu:=(OI.il hou.oi).2
   have HK:Hid (IL Dv (some ⟨gu,0,none⟩) mu U/\Below AZ.heap.size AZ Dv):=⟨hiu,hS⟩
   have F5:=Vy.out.kept hS
   clear hou hiu hS y0 y1 y2 y3 y4 y5
   go_wp2_with fail
   refine(HC.out.2.2.2.2.1 _ _ F5).mono ?_
   rintro e lY ⟨gx,mx,cx,rfl,hox,hS⟩
   dsimp only
   rw[HN.out]at hox
   have hcx:=hox.cap
   have hmx:mx<=9223372036854775807:=by unfold maxLen at hcx;omega
   have HM:=ae hox.1
   have kr:=HK.out.2.trans (hS.mono HK.out.2.size)
   have HF:Hid (IL lY (some ⟨g1,0,none⟩) m3 E1/\IL lY (some ⟨gu,0,none⟩) mu U/\IL lY (some ⟨g2,0,none⟩) m4 E2/\IL lY (some ⟨gx,0,none⟩) mx N/\IL lY la lx xl/\LL lY (some ⟨gl,0,none⟩) nl ls/\Below w'.heap.size w' lY):=⟨HI.out.1.kept kr,HK.out.1.kept hS,HI.out.2.1.kept kr,(OI.il hox.oi).2,HI.out.2.2.1.kept kr,Vy.out.kept kr,HI.out.2.2.2.1.trans (kr.mono HI.out.2.2.2.1.size)⟩
   have HYk:Hid (∀W,Below lY.heap.size lY W->W.cell? ⟨gl,q*6,none⟩=some (.int .i64 xk)/\W.cell? ⟨gl,q*6+1,none⟩=some (.int .i64 xd)/\W.cell? ⟨gl,q*6+2,none⟩=some (.int .i64 xa)/\W.cell? ⟨gl,q*6+3,none⟩=some (.int .i64 xb)/\W.cell? ⟨gl,q*6+4,none⟩=some (.int .i64 xn)/\W.cell? ⟨gl,q*6+5,none⟩=some (.slice la lx lc)):=fun W h=>by have h1:=kr.trans (h.mono kr.size);obtain⟨z0,z1,z2,z3,z4,z5⟩:=HY.out;have hb:=HI.out.2.2.2.2;exact⟨(h1.cell (p:=⟨gl,q*6,none⟩) hb).trans z0,(h1.cell (p:=⟨gl,q*6+1,none⟩) hb).trans z1,(h1.cell (p:=⟨gl,q*6+2,none⟩) hb).trans z2,(h1.cell (p:=⟨gl,q*6+3,none⟩) hb).trans z3,(h1.cell (p:=⟨gl,q*6+4,none⟩) hb).trans z4,(h1.cell (p:=⟨gl,q*6+5,none⟩) hb).trans z5⟩
   clear hox hS kr F5 HK HI HY Vy hcx hbl
   go_wp2
   go_loopg [9] 40 (fun gk vb wr=>∃b:Nat,gk=40-b/\b<=40/\vb= .int .i64 (b:Int)/\Below lY.heap.size lY wr)
   case atStart=>exact⟨0,rfl,by omega,rfl,Below.refl _ _⟩
   case round=>obtain⟨b,Bq,hb,rfl,hBr⟩:=hrel;by_cases hlt:b<40;{have bP:(b:Int)<40:=by{omega};have h1:=HT1.out b hlt;have h2:=HT2.out b hlt;have k1:=fD (some ⟨g1,0,none⟩) m3 c1 E1 (b:Int) wr (HF.out.1.kept hBr);have k2:=fD (some ⟨gu,0,none⟩) mu cu U (b:Int) wr (HF.out.2.1.kept hBr);have k3:=fD (some ⟨g2,0,none⟩) m4 c2 E2 (b:Int) wr (HF.out.2.2.1.kept hBr);have k4:=HS.out.2 wr (HF.out.2.2.2.2.1.kept hBr);obtain⟨y0,y1,y2,y3,y4,y5⟩:=HYk.out wr hBr;rcases hU:Fl.hs U (b:Int)with _|_;{rcases hO:Fl.hs E2 (b:Int)with _|_;{rw[hU,hO]at h1;have hI:Fl.hs E1 (b:Int)=false:=by{rw[h1];rfl};rw[hI]at k1;rw[hU]at k2;rw[hO]at k3;replace h2:Hid (false=N.any fun j=>Fl.hs (Fl.aV ls j) (b:Int)):=hO.symm.trans h2;replace hO:=ae hO;clear h1 hI hU;go_wp2_with fail;refine k1.mono ?_;rintro e w' ⟨rfl,aQ⟩;subst w';dsimp only;go_wp2_with fail;refine k2.mono ?_;rintro e w' ⟨rfl,aQ⟩;subst w';dsimp only;go_wp2_with fail;refine k3.mono ?_;rintro e w' ⟨rfl,aQ⟩;subst w';dsimp only;have hBW:=hBr;clear k1 k2 k3 k4 hBr y0 y1 y2 y3 y4 y5;have ER:=ae hBW;clear hBW;go_wp2_with fail;go_loopg [10,11] mx (fun gj v2 vk wy=>∃(k:Nat)(lZ:Bool),gj=mx-k/\k<=mx/\v2= .bool lZ/\vk= .int .i64 (k:Int)/\Hid (lZ=(N.take k).any fun j=>Fl.hs (Fl.aV ls j) (b:Int))/\Below lY.heap.size lY wy);(case atStart=>exact⟨0,false,rfl,by omega,rfl,rfl,(by show _=_;simp),ER.out⟩);case round=>obtain⟨k,lZ,hgj,hk,rfl,rfl,uZ,gV⟩:=hrel;by_cases hlk:k<mx;{have p9:(k:Int)<(mx:Int):=by{omega};have HAT:=ae (Fl.jJ (f:=fun j=>Fl.hs (Fl.aV ls j) (b:Int)) (l:=N) (k:=k) (by rw[HM.out];exact hlk));rw[←uZ.out]at HAT;cases lZ;{obtain⟨-,-,h0|⟨b2,o2,e2,hb2,hx2⟩⟩:=HF.out.2.2.2.1.kept gV;{omega};simp only[af,Addr.mk.injEq,and_true]at e2;obtain⟨rfl,rfl⟩:=e2;have hc:=hx2 k hlk;obtain⟨y,iK⟩:∃y,N.getD k 0=y:=⟨_,rfl⟩;rw[iK]at hc HAT;rw[Nat.zero_add]at hc;have hcl:=HC.out.1 _ y (HF.out.2.2.2.2.2.1.kept gV);have kF:=ae gV;clear iK hx2 gV;go_wp2_with fail;refine hcl.mono ?_;rintro e ES ⟨g14,m14,c14,rfl,l6,hS⟩;dsimp only;have hh:=fD (some ⟨g14,0,none⟩) m14 c14 (Fl.aV ls y) (b:Int) ES (OI.il l6.oi).2;have u7:=ae (kF.out.trans (hS.mono kF.out.size));obtain⟨r,hr⟩:∃r,Fl.hs (Fl.aV ls y) (b:Int)=r:=⟨_,rfl⟩;rw[hr]at hh;have HR:=ae hr;clear hcl l6 hS hc hr;go_wp2_with(go_at_call 26;refine hh.mono ?_;rintro e ve ⟨rfl,vw⟩;subst ve;dsimp only);go_roundg (mx-(k+1));(case measure=>omega);case rel=>exact⟨k+1,r,rfl,hlk,rfl,by simp,(by show _=_;rw[HAT.out,HR.out,Bool.false_or]),u7.out⟩};have kF:=ae gV;clear gV;go_wp2;go_roundg (mx-(k+1));(case measure=>omega);case rel=>exact⟨k+1,true,rfl,hlk,rfl,by simp,(by show _=_;rw[HAT.out,Bool.true_or]),kF.out⟩};have p9:¬(k:Int)<(mx:Int):=by{omega};have hke:k=mx:=by{omega};have hbe:lZ=false:=by{rw[uZ.out,hke,←HM.out,List.take_length,←h2.out]};subst hbe;have hh:=fD (some ⟨g2,0,none⟩) m4 c2 E2 (b:Int) _ (HF.out.2.2.1.kept gV);rw[hO.out]at hh;have kF:=ae gV;clear gV hke uZ;go_wp2_with(go_at_call 26;refine hh.mono ?_;rintro e ve ⟨rfl,vw⟩;subst ve;dsimp only);go_roundg (40-(b+1));(case measure=>omega);case rel=>exact⟨b+1,rfl,hlt,by simp,kF.out⟩};by_cases hSb:S=(b:Int);{rw[hU,hO]at h1;have hI:Fl.hs E1 (b:Int)=false:=by{rw[h1];rw[decide_eq_false (fun h=>h hSb)];rfl};rw[hI]at k1;rw[hU]at k2;rw[hO]at k3;replace h2:Hid (true=N.any fun j=>Fl.hs (Fl.aV ls j) (b:Int)):=hO.symm.trans h2;replace hO:=ae hO;clear h1 hI hU;go_wp2_with fail;refine k1.mono ?_;rintro e w' ⟨rfl,aQ⟩;subst w';dsimp only;go_wp2_with fail;refine k2.mono ?_;rintro e w' ⟨rfl,aQ⟩;subst w';dsimp only;go_wp2_with fail;refine k3.mono ?_;rintro e w' ⟨rfl,aQ⟩;subst w';dsimp only;go_wp2_with fail;refine k4.mono ?_;rintro e w13 ⟨rfl,hS⟩;dsimp only;have hBW:=hBr.trans (hS.mono hBr.size);have Pp:(S==(b:Int))=true:=by{simpa using hSb};clear k1 k2 k3 k4 hBr hS y0 y1 y2 y3 y4 y5;have ER:=ae hBW;clear hBW;go_wp2_with fail;go_loopg [10,11] mx (fun gj v2 vk wy=>∃(k:Nat)(lZ:Bool),gj=mx-k/\k<=mx/\v2= .bool lZ/\vk= .int .i64 (k:Int)/\Hid (lZ=(N.take k).any fun j=>Fl.hs (Fl.aV ls j) (b:Int))/\Below lY.heap.size lY wy);(case atStart=>exact⟨0,false,rfl,by omega,rfl,rfl,(by show _=_;simp),ER.out⟩);case round=>obtain⟨k,lZ,hgj,hk,rfl,rfl,uZ,gV⟩:=hrel;by_cases hlk:k<mx;{have p9:(k:Int)<(mx:Int):=by{omega};have HAT:=ae (Fl.jJ (f:=fun j=>Fl.hs (Fl.aV ls j) (b:Int)) (l:=N) (k:=k) (by rw[HM.out];exact hlk));rw[←uZ.out]at HAT;cases lZ;{obtain⟨-,-,h0|⟨b2,o2,e2,hb2,hx2⟩⟩:=HF.out.2.2.2.1.kept gV;{omega};simp only[af,Addr.mk.injEq,and_true]at e2;obtain⟨rfl,rfl⟩:=e2;have hc:=hx2 k hlk;obtain⟨y,iK⟩:∃y,N.getD k 0=y:=⟨_,rfl⟩;rw[iK]at hc HAT;rw[Nat.zero_add]at hc;have hcl:=HC.out.1 _ y (HF.out.2.2.2.2.2.1.kept gV);have kF:=ae gV;clear iK hx2 gV;go_wp2_with fail;refine hcl.mono ?_;rintro e ES ⟨g14,m14,c14,rfl,l6,hS⟩;dsimp only;have hh:=fD (some ⟨g14,0,none⟩) m14 c14 (Fl.aV ls y) (b:Int) ES (OI.il l6.oi).2;have u7:=ae (kF.out.trans (hS.mono kF.out.size));obtain⟨r,hr⟩:∃r,Fl.hs (Fl.aV ls y) (b:Int)=r:=⟨_,rfl⟩;rw[hr]at hh;have HR:=ae hr;clear hcl l6 hS hc hr;go_wp2_with(go_at_call 26;refine hh.mono ?_;rintro e ve ⟨rfl,vw⟩;subst ve;dsimp only);go_roundg (mx-(k+1));(case measure=>omega);case rel=>exact⟨k+1,r,rfl,hlk,rfl,by simp,(by show _=_;rw[HAT.out,HR.out,Bool.false_or]),u7.out⟩};have kF:=ae gV;clear gV;go_wp2;go_roundg (mx-(k+1));(case measure=>omega);case rel=>exact⟨k+1,true,rfl,hlk,rfl,by simp,(by show _=_;rw[HAT.out,Bool.true_or]),kF.out⟩};have p9:¬(k:Int)<(mx:Int):=by{omega};have hke:k=mx:=by{omega};have hbe:lZ=true:=by{rw[uZ.out,hke,←HM.out,List.take_length,←h2.out]};subst hbe;have hh:=fD (some ⟨g2,0,none⟩) m4 c2 E2 (b:Int) _ (HF.out.2.2.1.kept gV);rw[hO.out]at hh;have kF:=ae gV;clear gV hke uZ;go_wp2_with(go_at_call 26;refine hh.mono ?_;rintro e ve ⟨rfl,vw⟩;subst ve;dsimp only);go_roundg (40-(b+1));(case measure=>omega);case rel=>exact⟨b+1,rfl,hlt,by simp,kF.out⟩};rw[hU,hO]at h1;have hI:Fl.hs E1 (b:Int)=true:=by{rw[h1];rw[decide_eq_true hSb];rfl};rw[hI]at k1;rw[hU]at k2;rw[hO]at k3;replace h2:Hid (true=N.any fun j=>Fl.hs (Fl.aV ls j) (b:Int)):=hO.symm.trans h2;replace hO:=ae hO;clear h1 hI hU;go_wp2_with fail;refine k1.mono ?_;rintro e w' ⟨rfl,aQ⟩;subst w';dsimp only;go_wp2_with fail;refine k2.mono ?_;rintro e w' ⟨rfl,aQ⟩;subst w';dsimp only;go_wp2_with fail;refine k3.mono ?_;rintro e w' ⟨rfl,aQ⟩;subst w';dsimp only;go_wp2_with fail;refine k4.mono ?_;rintro e w13 ⟨rfl,hS⟩;dsimp only;have hBW:=hBr.trans (hS.mono hBr.size);have Pp:(S !=(b:Int))=true:=by{simpa using hSb};clear k1 k2 k3 k4 hBr hS y0 y1 y2 y3 y4 y5;have ER:=ae hBW;clear hBW;go_wp2_with fail;go_loopg [10,11] mx (fun gj v2 vk wy=>∃(k:Nat)(lZ:Bool),gj=mx-k/\k<=mx/\v2= .bool lZ/\vk= .int .i64 (k:Int)/\Hid (lZ=(N.take k).any fun j=>Fl.hs (Fl.aV ls j) (b:Int))/\Below lY.heap.size lY wy);(case atStart=>exact⟨0,false,rfl,by omega,rfl,rfl,(by show _=_;simp),ER.out⟩);case round=>obtain⟨k,lZ,hgj,hk,rfl,rfl,uZ,gV⟩:=hrel;by_cases hlk:k<mx;{have p9:(k:Int)<(mx:Int):=by{omega};have HAT:=ae (Fl.jJ (f:=fun j=>Fl.hs (Fl.aV ls j) (b:Int)) (l:=N) (k:=k) (by rw[HM.out];exact hlk));rw[←uZ.out]at HAT;cases lZ;{obtain⟨-,-,h0|⟨b2,o2,e2,hb2,hx2⟩⟩:=HF.out.2.2.2.1.kept gV;{omega};simp only[af,Addr.mk.injEq,and_true]at e2;obtain⟨rfl,rfl⟩:=e2;have hc:=hx2 k hlk;obtain⟨y,iK⟩:∃y,N.getD k 0=y:=⟨_,rfl⟩;rw[iK]at hc HAT;rw[Nat.zero_add]at hc;have hcl:=HC.out.1 _ y (HF.out.2.2.2.2.2.1.kept gV);have kF:=ae gV;clear iK hx2 gV;go_wp2_with fail;refine hcl.mono ?_;rintro e ES ⟨g14,m14,c14,rfl,l6,hS⟩;dsimp only;have hh:=fD (some ⟨g14,0,none⟩) m14 c14 (Fl.aV ls y) (b:Int) ES (OI.il l6.oi).2;have u7:=ae (kF.out.trans (hS.mono kF.out.size));obtain⟨r,hr⟩:∃r,Fl.hs (Fl.aV ls y) (b:Int)=r:=⟨_,rfl⟩;rw[hr]at hh;have HR:=ae hr;clear hcl l6 hS hc hr;go_wp2_with(go_at_call 26;refine hh.mono ?_;rintro e ve ⟨rfl,vw⟩;subst ve;dsimp only);go_roundg (mx-(k+1));(case measure=>omega);case rel=>exact⟨k+1,r,rfl,hlk,rfl,by simp,(by show _=_;rw[HAT.out,HR.out,Bool.false_or]),u7.out⟩};have kF:=ae gV;clear gV;go_wp2;go_roundg (mx-(k+1));(case measure=>omega);case rel=>exact⟨k+1,true,rfl,hlk,rfl,by simp,(by show _=_;rw[HAT.out,Bool.true_or]),kF.out⟩};have p9:¬(k:Int)<(mx:Int):=by{omega};have hke:k=mx:=by{omega};have hbe:lZ=true:=by{rw[uZ.out,hke,←HM.out,List.take_length,←h2.out]};subst hbe;have hh:=fD (some ⟨g2,0,none⟩) m4 c2 E2 (b:Int) _ (HF.out.2.2.1.kept gV);rw[hO.out]at hh;have kF:=ae gV;clear gV hke uZ;go_wp2_with(go_at_call 26;refine hh.mono ?_;rintro e ve ⟨rfl,vw⟩;subst ve;dsimp only);go_roundg (40-(b+1));(case measure=>omega);case rel=>exact⟨b+1,rfl,hlt,by simp,kF.out⟩};rcases hO:Fl.hs E2 (b:Int)with _|_;{rw[hU,hO]at h1;have hI:Fl.hs E1 (b:Int)=true:=by{rw[h1];rfl};rw[hI]at k1;rw[hU]at k2;rw[hO]at k3;replace h2:Hid (false=N.any fun j=>Fl.hs (Fl.aV ls j) (b:Int)):=hO.symm.trans h2;replace hO:=ae hO;clear h1 hI hU;go_wp2_with fail;refine k1.mono ?_;rintro e w' ⟨rfl,aQ⟩;subst w';dsimp only;go_wp2_with fail;refine k2.mono ?_;rintro e w' ⟨rfl,aQ⟩;subst w';dsimp only;have hBW:=hBr;clear k1 k2 k3 k4 hBr y0 y1 y2 y3 y4 y5;have ER:=ae hBW;clear hBW;go_wp2_with fail;go_loopg [10,11] mx (fun gj v2 vk wy=>∃(k:Nat)(lZ:Bool),gj=mx-k/\k<=mx/\v2= .bool lZ/\vk= .int .i64 (k:Int)/\Hid (lZ=(N.take k).any fun j=>Fl.hs (Fl.aV ls j) (b:Int))/\Below lY.heap.size lY wy);(case atStart=>exact⟨0,false,rfl,by omega,rfl,rfl,(by show _=_;simp),ER.out⟩);case round=>obtain⟨k,lZ,hgj,hk,rfl,rfl,uZ,gV⟩:=hrel;by_cases hlk:k<mx;{have p9:(k:Int)<(mx:Int):=by{omega};have HAT:=ae (Fl.jJ (f:=fun j=>Fl.hs (Fl.aV ls j) (b:Int)) (l:=N) (k:=k) (by rw[HM.out];exact hlk));rw[←uZ.out]at HAT;cases lZ;{obtain⟨-,-,h0|⟨b2,o2,e2,hb2,hx2⟩⟩:=HF.out.2.2.2.1.kept gV;{omega};simp only[af,Addr.mk.injEq,and_true]at e2;obtain⟨rfl,rfl⟩:=e2;have hc:=hx2 k hlk;obtain⟨y,iK⟩:∃y,N.getD k 0=y:=⟨_,rfl⟩;rw[iK]at hc HAT;rw[Nat.zero_add]at hc;have hcl:=HC.out.1 _ y (HF.out.2.2.2.2.2.1.kept gV);have kF:=ae gV;clear iK hx2 gV;go_wp2_with fail;refine hcl.mono ?_;rintro e ES ⟨g14,m14,c14,rfl,l6,hS⟩;dsimp only;have hh:=fD (some ⟨g14,0,none⟩) m14 c14 (Fl.aV ls y) (b:Int) ES (OI.il l6.oi).2;have u7:=ae (kF.out.trans (hS.mono kF.out.size));obtain⟨r,hr⟩:∃r,Fl.hs (Fl.aV ls y) (b:Int)=r:=⟨_,rfl⟩;rw[hr]at hh;have HR:=ae hr;clear hcl l6 hS hc hr;go_wp2_with(go_at_call 26;refine hh.mono ?_;rintro e ve ⟨rfl,vw⟩;subst ve;dsimp only);go_roundg (mx-(k+1));(case measure=>omega);case rel=>exact⟨k+1,r,rfl,hlk,rfl,by simp,(by show _=_;rw[HAT.out,HR.out,Bool.false_or]),u7.out⟩};have kF:=ae gV;clear gV;go_wp2;go_roundg (mx-(k+1));(case measure=>omega);case rel=>exact⟨k+1,true,rfl,hlk,rfl,by simp,(by show _=_;rw[HAT.out,Bool.true_or]),kF.out⟩};have p9:¬(k:Int)<(mx:Int):=by{omega};have hke:k=mx:=by{omega};have hbe:lZ=false:=by{rw[uZ.out,hke,←HM.out,List.take_length,←h2.out]};subst hbe;have hh:=fD (some ⟨g2,0,none⟩) m4 c2 E2 (b:Int) _ (HF.out.2.2.1.kept gV);rw[hO.out]at hh;have kF:=ae gV;clear gV hke uZ;go_wp2_with(go_at_call 26;refine hh.mono ?_;rintro e ve ⟨rfl,vw⟩;subst ve;dsimp only);go_roundg (40-(b+1));(case measure=>omega);case rel=>exact⟨b+1,rfl,hlt,by simp,kF.out⟩};rw[hU,hO]at h1;have hI:Fl.hs E1 (b:Int)=true:=by{rw[h1];rfl};rw[hI]at k1;rw[hU]at k2;rw[hO]at k3;replace h2:Hid (true=N.any fun j=>Fl.hs (Fl.aV ls j) (b:Int)):=hO.symm.trans h2;replace hO:=ae hO;clear h1 hI hU;go_wp2_with fail;refine k1.mono ?_;rintro e w' ⟨rfl,aQ⟩;subst w';dsimp only;go_wp2_with fail;refine k2.mono ?_;rintro e w' ⟨rfl,aQ⟩;subst w';dsimp only;have hBW:=hBr;clear k1 k2 k3 k4 hBr y0 y1 y2 y3 y4 y5;have ER:=ae hBW;clear hBW;go_wp2_with fail;go_loopg [10,11] mx (fun gj v2 vk wy=>∃(k:Nat)(lZ:Bool),gj=mx-k/\k<=mx/\v2= .bool lZ/\vk= .int .i64 (k:Int)/\Hid (lZ=(N.take k).any fun j=>Fl.hs (Fl.aV ls j) (b:Int))/\Below lY.heap.size lY wy);(case atStart=>exact⟨0,false,rfl,by omega,rfl,rfl,(by show _=_;simp),ER.out⟩);case round=>obtain⟨k,lZ,hgj,hk,rfl,rfl,uZ,gV⟩:=hrel;by_cases hlk:k<mx;{have p9:(k:Int)<(mx:Int):=by{omega};have HAT:=ae (Fl.jJ (f:=fun j=>Fl.hs (Fl.aV ls j) (b:Int)) (l:=N) (k:=k) (by rw[HM.out];exact hlk));rw[←uZ.out]at HAT;cases lZ;{obtain⟨-,-,h0|⟨b2,o2,e2,hb2,hx2⟩⟩:=HF.out.2.2.2.1.kept gV;{omega};simp only[af,Addr.mk.injEq,and_true]at e2;obtain⟨rfl,rfl⟩:=e2;have hc:=hx2 k hlk;obtain⟨y,iK⟩:∃y,N.getD k 0=y:=⟨_,rfl⟩;rw[iK]at hc HAT;rw[Nat.zero_add]at hc;have hcl:=HC.out.1 _ y (HF.out.2.2.2.2.2.1.kept gV);have kF:=ae gV;clear iK hx2 gV;go_wp2_with fail;refine hcl.mono ?_;rintro e ES ⟨g14,m14,c14,rfl,l6,hS⟩;dsimp only;have hh:=fD (some ⟨g14,0,none⟩) m14 c14 (Fl.aV ls y) (b:Int) ES (OI.il l6.oi).2;have u7:=ae (kF.out.trans (hS.mono kF.out.size));obtain⟨r,hr⟩:∃r,Fl.hs (Fl.aV ls y) (b:Int)=r:=⟨_,rfl⟩;rw[hr]at hh;have HR:=ae hr;clear hcl l6 hS hc hr;go_wp2_with(go_at_call 26;refine hh.mono ?_;rintro e ve ⟨rfl,vw⟩;subst ve;dsimp only);go_roundg (mx-(k+1));(case measure=>omega);case rel=>exact⟨k+1,r,rfl,hlk,rfl,by simp,(by show _=_;rw[HAT.out,HR.out,Bool.false_or]),u7.out⟩};have kF:=ae gV;clear gV;go_wp2;go_roundg (mx-(k+1));(case measure=>omega);case rel=>exact⟨k+1,true,rfl,hlk,rfl,by simp,(by show _=_;rw[HAT.out,Bool.true_or]),kF.out⟩};have p9:¬(k:Int)<(mx:Int):=by{omega};have hke:k=mx:=by{omega};have hbe:lZ=true:=by{rw[uZ.out,hke,←HM.out,List.take_length,←h2.out]};subst hbe;have hh:=fD (some ⟨g2,0,none⟩) m4 c2 E2 (b:Int) _ (HF.out.2.2.1.kept gV);rw[hO.out]at hh;have kF:=ae gV;clear gV hke uZ;go_wp2_with(go_at_call 26;refine hh.mono ?_;rintro e ve ⟨rfl,vw⟩;subst ve;dsimp only);go_roundg (40-(b+1));(case measure=>omega);case rel=>exact⟨b+1,rfl,hlt,by simp,kF.out⟩};have bP:¬(b:Int)<40:=by{omega};have HFB:=ae (HF.out.2.2.2.2.2.2.trans (hBr.mono HF.out.2.2.2.2.2.2.size));clear hBr;go_wp2;go_ret;exact⟨rfl,HFB.out⟩
set_option maxRecDepth 100000 in
theorem lifted (os:Os)(started:os.Started)(H:Type)(enc:TypeId×Value->H):ReturnsInHanded {} Tryz.checked os 5 .any (Rows.fnLiveSpec.pre6 enc Tryz.prog Tryz.f5 Rows.fnLiveRow.domain false) (Rows.fnLiveSpec.post enc Tryz.prog Tryz.f5 false true false false):=by refine returnsInHanded_of_change (C:=Tryz.checked) own started (by kernel_rfl) Tryz.func5 (ChangeSpec.witness6 (enc:=enc) (C:=Tryz.checked) false ⟨#[],#[.slice none 0 0],[]⟩ 8 (by kernel_rfl) (by kernel_rfl) (by kernel_rfl) (by kernel_rfl)) ?_;intro W base args ds gs before hval0 hW hcnd _;have hval:∀(j:Nat) t v,Tryz.f5.params[j]?=some t->args[j]?=some v->Value.okWide Tryz.prog W .any base t v:=hval0;have hW':=hW;obtain⟨p,q,FZ,hV,rfl,hfz,hnd⟩:=hW;have hA:DataW.TrodAll enc Tryz.prog W 0 (fun _=>true) true Tryz.f5.params.toList args.toList ds p:=FZ;rw[Tryz.params5]at hA hval;obtain⟨v0,Pt,d0,ds0,p0,q0,hargs,rfl,rfl,h0,r0⟩:=trodAll_cons hA;obtain⟨rfl,rfl,rfl⟩:=trodAll_nil r0;obtain rfl:args=#[v0]:=by{cases args;simp_all};obtain⟨rfl,rfl⟩:=trodVars_none hV;obtain⟨a0,gU,cap0,rfl⟩:=okWide_slice Tryz.underlying22 (hval 0 22 v0 rfl rfl);have k0:=h0;have Pb:∀x∈p0,x.block<W.heap.size:=by{obtain⟨m,hm⟩:=k0;exact DataW.trod_lt m _ _ _ hm};obtain⟨z0,w0⟩:∃zs,IsRow .u8 W a0 gU cap0 zs:=by{obtain⟨fuel,hf⟩:=h0;rcases open_ints Tryz.underlying22 Tryz.underlying5 (by kernel_rfl) hf with⟨hcs,_⟩|⟨x,l,c,zs,hcs,_,hl,hm,hz,_,hcell,hwz⟩;{simp[Value.cells]at hcs;obtain⟨rfl,rfl,rfl⟩:=hcs;exact⟨[], .inl ⟨rfl,rfl,rfl,rfl⟩⟩};simp[Value.cells]at hcs;obtain⟨rfl,rfl,rfl⟩:=hcs;exact⟨zs, .inr ⟨_,rfl,hl,hm,by simpa using hz,hcell,hwz⟩⟩};clear FZ hval0;refine(walk a0 gU cap0 z0 W w0).mono fun e W' ⟨he,eD⟩=>?_;subst he;exact⟨_,rfl,_,_,_,[],_,[],hW',trodAll_mk1 (shut_bool Tryz.underlying4 _),(trodAll_cons_mk (Below.trod laidOut (by kernel_rfl) (of_decide_eq_true (by kernel_rfl)) k0 eD Pb) trodAll_mk0),rfl,eD.frame _,fun h=>by cases h⟩
theorem over:Rows.fnLiveRow.holds Tryz.pinned (OpenSpec.ofChange Rows.fnLiveSpec):=
  OpenClaim.holds_of_wide 5 Tryz.f5 rfl rfl rfl rfl rfl rfl rfl ⟨rfl,rfl,rfl,rfl,rfl⟩ rfl rfl rfl rfl rfl (by kernel_rfl) Tryz.func5 (by kernel_rfl)
    (of_decide_eq_true (by kernel_rfl)) (by unfold Func.isWrapper;first|(rw[ay (by decide+kernel)];kernel_rfl)|(rw[ax (by decide+kernel)];exact⟨rfl,rfl⟩))
    (fun os started H enc _=>lifted os started H enc)
theorem proved:Rows.FnLiveSaid:=over
#print axioms proved
end Go.Proofs.YtghjooipkofodaaGreat.fnLive
