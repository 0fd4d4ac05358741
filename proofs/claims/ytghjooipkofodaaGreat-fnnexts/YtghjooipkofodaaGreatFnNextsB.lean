/-
  Proved: at every slice of bytes the law FnNexts returns true and the bytes stay: a piece begins behind each line that goes elsewhere and where one goes to, and each line goes to lines there are; no condition.
-/
import Derived.Test.YtghjooipkofodaaGreatKY27
import Derived.ShutString
import Derived.ChangeOld
namespace Go.Proofs.YtghjooipkofodaaGreat.fnNexts
open Go.ChangeShapes Go.WideShapes Go.ChangeAt Go.RowKit
open Go.ChangeMaps (open_string shut_string)
set_option linter.all false

theorem own:ownKnob Tryz.prog.godebug=none:=by kernel_rfl
theorem laidOut:laidOutB Tryz.prog=true:=by kernel_rfl
def IsRow (k:IntKind)(w:World)(a:Option Addr)(len cap:Nat)(zs:List Int):Prop:=
  (a=none/\len=0/\cap=0/\zs=[])\/
  ∃x,a=some x/\len<=cap/\cap<=maxLen/\zs.length=cap/\(∀i,i<zs.length->w.cell? (x.add i)=some (.int k (zs.getD i 0)))/\∀n∈zs,(Lit.int k n).wf=true

theorem bytes_of {w:World}{a:Option Addr}{len cap:Nat}{zs:List Int}(h:IsRow .u8 w a len cap zs):Bytes w a len zs:=by rcases h with⟨rfl,rfl,rfl,rfl⟩|⟨x,rfl,hl,hm,hz,hcell,hwz⟩;{exact⟨Nat.zero_le _, .inl rfl⟩};refine⟨by omega,?_⟩;by_cases h0:len=0;{exact .inl h0};right;obtain⟨b,off,spot⟩:=x;have hc:=hcell 0 (by omega);have hspot:spot=none:=by{simpa[Addr.add]using World.cell?_spot hc};subst hspot;refine⟨b,off,rfl,?_,fun j hj=>?_,fun j=>?_⟩;{have:=block_lt_of_cell hc;simpa[Addr.add]using this};{have:=hcell j (by omega);by_cases hj0:j=0;{subst hj0;simpa[Addr.add]using this};simpa[Addr.add,hj0]using this};have:=range_u8 hwz j;simpa[ah]using this
set_option maxRecDepth 20000 in
set_option maxHeartbeats 8000000 in
theorem walk (a0:Option Addr)(gU cap0:Nat)(z0:List Int)(w:World)(w0:IsRow .u8 w a0 gU cap0 z0):Calls Tryz.prog 4 #[.slice a0 gU cap0] w fun e w'=>e= .returned (.bool true)/\Below w.heap.size w w':=by
 have hb:=bytes_of w0
 have hl:=hb.1
 clear w0
 by_cases hbig:4096<gU
 · go_enter Tryz.func4,Tryz.ntmps4;go_wp2_with(go_at_call 6;refine(mq _ _ _ _ hl).mono ?_;rintro e w' ⟨rfl,rfl⟩);go_ret;exact⟨rfl,Below.refl _ _⟩
 · go_enter Tryz.func4,Tryz.ntmps4
   go_wp2_with fail
   refine(mq _ _ _ _ hl).mono ?_
   rintro e w' ⟨rfl,rfl⟩
   rw[decide_eq_false hbig]
   dsimp only
   clear hl
   go_wp2_with fail
   refine(kJ a0 gU cap0 z0 (by omega) _ hb).mono ?_
   rintro e w1 ⟨v1,ls,p,rfl,hol,hB1⟩
   dsimp only
   obtain⟨gl,cl,rfl,-,-,hll⟩:=hol.LL
   obtain⟨nl,hnl⟩:∃n,ls.length=n:=⟨_,rfl⟩
   rw[hnl]at hll ⊢
   have FT:=ae hnl
   have hnm:=hll.2.1
   unfold maxLen at hnm
   have cI:∀W q,LL W (some ⟨gl,0,none⟩) nl ls->Calls Tryz.prog 22 #[.slice (some ⟨gl,0,none⟩) nl cl, .int .i64 q] W fun e w'=>∃g m c,e= .returned (.slice (some ⟨g,0,none⟩) m c)/\OG w' W.heap.size g m c (Fl.bZ ls q)/\Below W.heap.size W w':=fun W q h=>yz _ nl cl ls q W h
   have cS:∀W q,LL W (some ⟨gl,0,none⟩) nl ls->Calls Tryz.prog 24 #[.slice (some ⟨gl,0,none⟩) nl cl, .int .i64 q] W fun e w'=>∃g m c,e= .returned (.slice (some ⟨g,0,none⟩) m c)/\OG w' W.heap.size g m c (Fl.bZ ls q)/\Below W.heap.size W w':=fun W q h=>oV _ nl cl ls q W h
   have dI:∀W,LL W (some ⟨gl,0,none⟩) nl ls->Calls Tryz.prog 23 #[.slice (some ⟨gl,0,none⟩) nl cl] W fun e w'=>∃g m c,e= .returned (.slice (some ⟨g,0,none⟩) m c)/\OG w' W.heap.size g m c (Fl.aY ls)/\Below W.heap.size W w':=fun W h=>uE _ nl cl ls W h
   have dS:∀W,LL W (some ⟨gl,0,none⟩) nl ls->Calls Tryz.prog 25 #[.slice (some ⟨gl,0,none⟩) nl cl] W fun e w'=>∃g m c,e= .returned (.slice (some ⟨g,0,none⟩) m c)/\OG w' W.heap.size g m c (Fl.aY ls)/\Below W.heap.size W w':=fun W h=>uN _ nl cl ls W h
   have cO:∀W,LL W (some ⟨gl,0,none⟩) nl ls->Calls Tryz.prog 13 #[.slice (some ⟨gl,0,none⟩) nl cl] W fun e w'=>e= .returned (.bool (Ln.isOk ls))/\Below W.heap.size W w':=fun W h=>dZ _ nl cl ls W h
   have HP:Hid ((Ln.isOk ls=false->Fl.bZ ls p=[]/\Fl.aY ls=[])/\Up (Fl.bZ ls p)/\Up (Fl.aY ls)):=⟨fun h=>⟨by unfold Fl.bZ Fl.has;rw[h];rfl,by unfold Fl.aY;rw[h];rfl⟩,Up.of (Fl.yC ls p),Up.of (Fl.lD ls)⟩
   have iV:Hid (∀h:Ln.isOk ls=true,nl<=300/\(Fl.aY ls).getD 0 0=0/\0<(Fl.aY ls).length/\(∀y∈Fl.aY ls,0<=y/\y<(nl:Int))/\
       (∀i,i<nl->Fl.bZ ls (i:Int)=Fl.nx (ls.getD i .z) i)/\(∀i,i<nl->∀y∈Fl.nx (ls.getD i .z) i,(0<=y/\y<(nl:Int))/\(y≠(i:Int)+1\/(Fl.nx (ls.getD i .z) i).length=2->Fl.hs (Fl.aY ls) y=true))/\
       (∀i,i+1<nl->(Fl.nx (ls.getD i .z) i).length=0->Fl.hs (Fl.aY ls) ((i:Int)+1)=true)):=fun h=>by
     have h1:=Ln.bI h
     have h2:=Fl.qo h
     rw[hnl]at h1 h2
     refine⟨h1.2,h2.1,h2.2.1,h2.2.2,fun i hi=>?_,fun i hi y hy=>⟨?_,fun hq=>?_⟩,fun i hi hq=>?_⟩
     · unfold Fl.bZ Fl.has
       rw[h,ay (by rw[decide_eq_true (by omega)];rfl),az]
     · have:=Fl.rG h (p:=i) (by omega) y hy
       rwa [hnl]at this
     · exact Fl.mi.2 (Fl.Aa h (by omega) hy hq)
     · exact Fl.mi.2 (Fl.zS h (by omega) hq)
   have HC:=ae (ak cI (ak cS (ak dI (ak dS cO))))
   obtain⟨E1,hE1⟩:∃E,Fl.bZ ls p=E:=⟨_,rfl⟩
   obtain⟨E2,hE2⟩:∃E,Fl.aY ls=E:=⟨_,rfl⟩
   rw[hE1,hE2]at HP
   rw[hE2]at iV
   have HE:=ae (ak hE1 hE2)
   clear cI cS dI dS cO hE1 hE2 hnl hol hb
   go_wp2_with fail
   refine(HC.out.1 _ _ hll).mono ?_
   rintro e w2 ⟨g1,m1,c1,rfl,ho1,hS⟩
   dsimp only
   rw[HE.out.1]at ho1
   have hB2:=hB1.trans (hS.mono hB1.size)
   have qL:=hll.kept hS
   have hi1:=(OI.il ho1.oi).2
   clear hB1 hll hS ho1
   go_wp2_with fail
   refine(HC.out.2.2.1 _ qL).mono ?_
   rintro e w3 ⟨g2,m2,c2,rfl,ho2,hS⟩
   dsimp only
   rw[HE.out.2]at ho2
   have hB3:=hB2.trans (hS.mono hB2.size)
   have qM:=qL.kept hS
   have hj1:=hi1.kept hS
   have hi2:=(OI.il ho2.oi).2
   clear hB2 qL hi1 hS ho2
   go_wp2_with fail
   refine(HC.out.2.1 _ _ qM).mono ?_
   rintro e w4 ⟨g3,m3,c3,rfl,ho3,hS⟩
   dsimp only
   rw[HE.out.1]at ho3
   obtain rfl:m3=m1:=by have h1:=ho3.1;have h2:=hj1.1;omega
   have hB4:=hB3.trans (hS.mono hB3.size)
   have xC:=qM.kept hS
   have hk1:=hj1.kept hS
   have hj2:=hi2.kept hS
   have hi3:=(OI.il ho3.oi).2
   clear hB3 qM hj1 hi2 hS ho3
   go_wp2_with fail
   refine(eG _ _ m3 _ _ E1 w4 hk1 hi3).mono ?_
   rintro e w5 ⟨rfl,hS⟩
   dsimp only
   have bG:=hB4.trans (hS.mono hB4.size)
   have y9:=xC.kept hS
   have hl1:=hk1.kept hS
   have hk2:=hj2.kept hS
   clear hB4 xC hk1 hj2 hS hi3
   go_wp2_with fail
   refine(HC.out.2.2.2.1 _ y9).mono ?_
   rintro e w6 ⟨g4,m4,c4,rfl,nS,hS⟩
   dsimp only
   rw[HE.out.2]at nS
   obtain rfl:m4=m2:=by have h1:=nS.1;have h2:=hk2.1;omega
   have bB:=bG.trans (hS.mono bG.size)
   have p8:=y9.kept hS
   have hm1:=hl1.kept hS
   have hl2:=hk2.kept hS
   have hi4:=(OI.il nS.oi).2
   clear bG y9 hl1 hk2 hS nS
   go_wp2_with fail
   refine(eG _ _ m4 _ _ E2 w6 hl2 hi4).mono ?_
   rintro e w7 ⟨rfl,hS⟩
   dsimp only
   have bn:=bB.trans (hS.mono bB.size)
   have uY:=p8.kept hS
   have hn1:=hm1.kept hS
   have hm2:=hl2.kept hS
   clear bB p8 hm1 hl2 hS hi4
   go_wp2_with fail
   refine(jT _ m3 _ E1 HP.out.2.1 w7 hn1).mono ?_
   rintro e w8 ⟨rfl,hS⟩
   dsimp only
   have dJ:=bn.trans (hS.mono bn.size)
   have za:=uY.kept hS
   have ho1:=hn1.kept hS
   have hn2:=hm2.kept hS
   clear bn uY hn1 hm2 hS
   go_wp2_with fail
   refine(jT _ m4 _ E2 HP.out.2.2 w8 hn2).mono ?_
   rintro e w9 ⟨rfl,hS⟩
   dsimp only
   have Dy:=dJ.trans (hS.mono dJ.size)
   have zb:=za.kept hS
   have hp1:=ho1.kept hS
   have ho2:=hn2.kept hS
   clear dJ za ho1 hn2 hS
   go_wp2_with fail
   refine(HC.out.2.2.2.2 _ zb).mono ?_
   rintro e AZ ⟨rfl,hS⟩
   dsimp only
   have qN:=Dy.trans (hS.mono Dy.size)
   have nK:=zb.kept hS
   have hq1:=hp1.kept hS
   have hp2:=ho2.kept hS
   clear Dy zb hp1 ho2 hS
   rcases hok:Ln.isOk ls with _|_
   · have h0:=HP.out.1 hok;have hz1:m3=0:=by{have:=hq1.1;rw[h0.1]at this;exact this.symm};have hz2:m4=0:=by{have:=hp2.1;rw[h0.2]at this;exact this.symm};subst hz1;subst hz2;have HB:=ae qN;clear h0 hq1 hp2 nK qN hok;go_wp2;go_ret;exact⟨rfl,HB.out⟩
   have HT:=ae (iV.out hok)
   have Vs:(nl:Int)<=300:=by have:=HT.out.1;omega
   have HL2:=ae hp2.1
   have Vt:0<m4:=by have:=HT.out.2.2.1;rw[hp2.1]at this;exact this
   have Vu:=hp2.2.1
   unfold maxLen at Vu
   clear iV hok hq1 HP
   go_wp2
   go_loopg [7] nl (fun gk vi wr=>∃i:Nat,gk=nl-i/\i<=nl/\vi= .int .i64 (i:Int)/\Below AZ.heap.size AZ wr)
   case atStart=>exact⟨0,rfl,by omega,rfl,Below.refl _ _⟩
   case round=>obtain⟨i,Bq,hi,rfl,hBr⟩:=hrel;have Io:=nK.kept hBr;have Ip:=hp2.kept hBr;by_cases hlt:i<nl;{have bP:(i:Int)<(nl:Int):=by{omega};have hX:=HT.out.2.2.2.2.2.1 i hlt;have hX0:=HT.out.2.2.2.2.2.2 i;have hcall:=HC.out.1 wr (i:Int) Io;rw[HT.out.2.2.2.2.1 i hlt]at hcall;obtain⟨X,XE⟩:∃X,Fl.nx (ls.getD i .z) i=X:=⟨_,rfl⟩;rw[XE]at hX hX0 hcall;have HX:=ae (ak hX hX0);have XG:=ae hBr;clear hX hX0 XE Io hBr;go_wp2_with fail;refine hcall.mono ?_;rintro e Dv ⟨gx,mx,cx,rfl,hox,hS⟩;dsimp only;have Vv:=ae hox.1;have hcx:=hox.cap;have hmx:mx<=9223372036854775807:=by{unfold maxLen at hcx;omega};have HCX:Hid (∀j,j<mx->Dv.cell? ⟨gx,j,none⟩=some (.int .i64 (X.getD j 0))):=fun j hj=>hox.cell hj;have Vw:=ae (XG.out.trans (hS.mono XG.out.size));have HH:Hid (IL Dv (some ⟨g2,0,none⟩) m4 E2):=Ip.kept hS;have cH:=fun q=>fD (some ⟨g2,0,none⟩) m4 c2 E2 q Dv HH.out;clear hcall hox hS Ip;go_wp2;go_loopg [9] mx (fun gj vk wy=>∃k:Nat,gj=mx-k/\k<=mx/\vk= .int .i64 (k:Int)/\Dv=wy);(case atStart=>exact⟨0,rfl,by omega,rfl,rfl⟩);case round=>obtain⟨k,hgj,hk,rfl,aQ⟩:=hrel;subst aQ;by_cases hlk:k<mx;{have p9:(k:Int)<(mx:Int):=by{omega};have hc:=HCX.out k hlk;have hy:=HX.out.1 (X.getD k 0) (Fl.jL (by rw[Vv.out];exact hlk));rw[Vv.out]at hy;obtain⟨y,iK⟩:∃y,X.getD k 0=y:=⟨_,rfl⟩;rw[iK]at hc hy;have hy0:0<=y:=hy.1.1;have hy1:y<(nl:Int):=hy.1.2;have FY:=cH y;have hy2:=hy.2;clear iK hy;by_cases hq:y=(i:Int)+1;{subst hq;by_cases h2:mx=2;{have hh:=hy2 (.inr h2);rw[hh]at FY;subst h2;clear hy2 hh;go_wp2_with(go_at_call 26;refine FY.mono ?_;rintro e lY ⟨rfl,Iq⟩;subst lY;dsimp only);go_roundg (2-(k+1));(case measure=>omega);case rel=>exact⟨k+1,rfl,hlk,by simp,rfl⟩};have Dw:((mx:Int)==2)=false:=by{simp;omega};clear hy2;go_wp2;go_roundg (mx-(k+1));(case measure=>omega);case rel=>exact⟨k+1,rfl,hlk,by simp,rfl⟩};have hh:=hy2 (.inl hq);rw[hh]at FY;clear hy2 hh;by_cases h2:mx=2;{subst h2;go_wp2_with(go_at_call 26;refine FY.mono ?_;rintro e lY ⟨rfl,Iq⟩;subst lY;dsimp only);go_roundg (2-(k+1));(case measure=>omega);case rel=>exact⟨k+1,rfl,hlk,by simp,rfl⟩};have Dw:((mx:Int)==2)=false:=by{simp;omega};go_wp2_with(go_at_call 26;refine FY.mono ?_;rintro e lY ⟨rfl,Iq⟩;subst lY;dsimp only);go_roundg (mx-(k+1));(case measure=>omega);case rel=>exact⟨k+1,rfl,hlk,by simp,rfl⟩};have p9:¬(k:Int)<(mx:Int):=by{omega};have hfin:Hid (Below AZ.heap.size AZ Dv):=Vw.out;by_cases hz:mx=0;{subst hz;by_cases hn:i+1<nl;{have Xk:(i:Int)+1<(nl:Int):=by{omega};have FY:=cH ((i:Int)+1);rw[HX.out.2 hn Vv.out]at FY;go_wp2_with(go_at_call 26;refine FY.mono ?_;rintro e lY ⟨rfl,Iq⟩;subst lY;dsimp only);go_roundg (nl-(i+1));(case measure=>omega);case rel=>exact⟨i+1,rfl,hlt,by simp,hfin.out⟩};have Xk:¬(i:Int)+1<(nl:Int):=by{omega};go_wp2;go_roundg (nl-(i+1));(case measure=>omega);case rel=>exact⟨i+1,rfl,hlt,by simp,hfin.out⟩};have hzq:((mx:Int)==0)=false:=by{simp;omega};go_wp2;go_roundg (nl-(i+1));(case measure=>omega);case rel=>exact⟨i+1,rfl,hlt,by simp,hfin.out⟩};have bP:¬(i:Int)<(nl:Int):=by{omega};obtain⟨-,-,h0|⟨b2,o2,e2,hb2,hx2⟩⟩:=Ip;{omega};simp only[af,Addr.mk.injEq,and_true]at e2;obtain⟨rfl,rfl⟩:=e2;have hc0:=hx2 0 Vt;rw[Nat.zero_add,HT.out.2.1]at hc0;have hcl:=hx2 (m4-1) (by omega);rw[Nat.zero_add]at hcl;have hy:=HT.out.2.2.2.1 (E2.getD (m4-1) 0) (Fl.jL (by rw[HL2.out];omega));obtain⟨y,iK⟩:∃y,E2.getD (m4-1) 0=y:=⟨_,rfl⟩;rw[iK]at hcl hy;have hy1:y<(nl:Int):=hy.2;have aah:((m4:Int)-1)=((m4-1:Nat):Int):=by{omega};have HF:=ae (qN.trans (hBr.mono qN.size));have aai:((m4-1:Nat):Int)<(m4:Int):=by{omega};have aaj:(0:Int)<(m4:Int):=by{omega};clear iK hy hx2 qN hBr nK Io hp2;go_wp2;go_ret;exact⟨rfl,HF.out⟩
set_option maxRecDepth 100000 in
theorem lifted (os:Os)(started:os.Started)(H:Type)(enc:TypeId×Value->H):ReturnsInHanded {} Tryz.checked os 4 .any (Rows.fnNextsSpec.pre6 enc Tryz.prog Tryz.f4 Rows.fnNextsRow.domain false) (Rows.fnNextsSpec.post enc Tryz.prog Tryz.f4 false true false false):=by refine returnsInHanded_of_change (C:=Tryz.checked) own started (by kernel_rfl) Tryz.func4 (ChangeSpec.witness6 (enc:=enc) (C:=Tryz.checked) false ⟨#[],#[.slice none 0 0],[]⟩ 8 (by kernel_rfl) (by kernel_rfl) (by kernel_rfl) (by kernel_rfl)) ?_;intro W base args ds gs before hval0 hW hcnd _;have hval:∀(j:Nat) t v,Tryz.f4.params[j]?=some t->args[j]?=some v->Value.okWide Tryz.prog W .any base t v:=hval0;have hW':=hW;obtain⟨p,q,FZ,hV,rfl,hfz,hnd⟩:=hW;have hA:DataW.TrodAll enc Tryz.prog W 0 (fun _=>true) true Tryz.f4.params.toList args.toList ds p:=FZ;rw[Tryz.params4]at hA hval;obtain⟨v0,Pt,d0,ds0,p0,q0,hargs,rfl,rfl,h0,r0⟩:=trodAll_cons hA;obtain⟨rfl,rfl,rfl⟩:=trodAll_nil r0;obtain rfl:args=#[v0]:=by{cases args;simp_all};obtain⟨rfl,rfl⟩:=trodVars_none hV;obtain⟨a0,gU,cap0,rfl⟩:=okWide_slice Tryz.underlying22 (hval 0 22 v0 rfl rfl);have k0:=h0;have Pb:∀x∈p0,x.block<W.heap.size:=by{obtain⟨m,hm⟩:=k0;exact DataW.trod_lt m _ _ _ hm};obtain⟨z0,w0⟩:∃zs,IsRow .u8 W a0 gU cap0 zs:=by{obtain⟨fuel,hf⟩:=h0;rcases open_ints Tryz.underlying22 Tryz.underlying5 (by kernel_rfl) hf with⟨hcs,_⟩|⟨x,l,c,zs,hcs,_,hl,hm,hz,_,hcell,hwz⟩;{simp[Value.cells]at hcs;obtain⟨rfl,rfl,rfl⟩:=hcs;exact⟨[], .inl ⟨rfl,rfl,rfl,rfl⟩⟩};simp[Value.cells]at hcs;obtain⟨rfl,rfl,rfl⟩:=hcs;exact⟨zs, .inr ⟨_,rfl,hl,hm,by simpa using hz,hcell,hwz⟩⟩};clear FZ hval0;refine(walk a0 gU cap0 z0 W w0).mono fun e W' ⟨he,eD⟩=>?_;subst he;exact⟨_,rfl,_,_,_,[],_,[],hW',trodAll_mk1 (shut_bool Tryz.underlying4 _),(trodAll_cons_mk (Below.trod laidOut (by kernel_rfl) (of_decide_eq_true (by kernel_rfl)) k0 eD Pb) trodAll_mk0),rfl,eD.frame _,fun h=>by cases h⟩
theorem over:Rows.fnNextsRow.holds Tryz.pinned (OpenSpec.ofChange Rows.fnNextsSpec):=
  OpenClaim.holds_of_wide 4 Tryz.f4 rfl rfl rfl rfl rfl rfl rfl ⟨rfl,rfl,rfl,rfl,rfl⟩ rfl rfl rfl rfl rfl (by kernel_rfl) Tryz.func4 (by kernel_rfl)
    (of_decide_eq_true (by kernel_rfl)) (by unfold Func.isWrapper;first|(rw[ay (by decide+kernel)];kernel_rfl)|(rw[ax (by decide+kernel)];exact⟨rfl,rfl⟩))
    (fun os started H enc _=>lifted os started H enc)
theorem proved:Rows.FnNextsSaid:=over
#print axioms proved
end Go.Proofs.YtghjooipkofodaaGreat.fnNexts
