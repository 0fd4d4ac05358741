/-
  Own texts for a law: Low3 LinM Shp0 Pile2 Pile3 Pile4 Pile5 Lo0
-/
import Derived.Test.YtellfmhljjdjbaaGreatDoorKA08
import Derived.KernelRfl
namespace Go.Proofs.YtellfmhljjdjbaaGreatDoor
open Go.RowKit Go.Shelf
set_option linter.all false
set_option maxRecDepth 100000
set_option maxHeartbeats 16000000
theorem jR {c:LX}{W0 W:World}{v vg:Value}{out:List (Ln×Int)}{P:Nat->Prop}(T:TX c W0)(K:MK c W0 W v vg out P)(h:Int)(h1:-100<=h)(h2:h<=100):Calls Tryz.prog 96 #[.pointer (some ⟨c.B,0,none⟩), .int .i64 h] W fun e w'=>e= .returned (.int .i64 (Lw.bx c.f h))/\w'=W:=by have d2:=(K.box.2 2 _ rfl).1;have hok:=T.ok;have HW:Hid (Lw.bx c.f h=Lw.wd c.f+h):=rfl;have hw1:0<=Lw.wd c.f/\Lw.wd c.f<=6:=by{unfold Lw.wd;omega};generalize Lw.wd c.f=u at d2 HW hw1;clear T K hok;go_enter Tryz.func96,Tryz.ntmps96;go_wp2;go_ret;exact⟨by rw[HW.out]<;>rfl,rfl⟩
theorem Lw.nX {f:Fn}{E H:List Int}{n:Nat}{dp:Int}{t:Nat}(hlt:dp.toNat<(aF.di f.b E n n).length)(ht:(aF.di f.b E n n).getD dp.toNat (-1)=(t:Int)):Lw.bZ f E H n dp=if aF.op f.b t=9 then((t:Int)+1,0,0)else if aF.op f.b t=10 then(aF.aZ E t,Lw.bx f (H.getD t 0-1),Hg.arg f.b t)else(aF.aZ E t,Lw.bx f (H.getD t 0),Hg.arg f.b t):=by unfold Lw.bZ;rw[az hlt,ht];rfl
theorem Lw.ni {f:Fn}{E H:List Int}{n:Nat}{dp:Int}(hlt:¬dp.toNat<(aF.di f.b E n n).length):Lw.bZ f E H n dp=((f.b.length:Int)-1,Lw.bx f 0,f.g):=by unfold Lw.bZ;rw[ay hlt]
theorem aU {W W':World}{p:Addr}{v:Value}(hB:Below W.heap.size W W')(h:W.cell? p=some v):W'.cell? p=some v:=(hB.cell (p:=p) (World.block_lt_of_cell? _ _ h)).trans h
theorem aF.mh (xs:List (Int×Int))(E:List Int)(a:Int):∀k,(aF.di xs E a k).length<=k
 |0=>Nat.le_refl _
 | k+1=>by
   have:=aF.mh xs E a k
   unfold aF.di
   split
   · rw[List.length_cons];omega
   · omega
theorem j4 {c:LX}{W0 W:World}{v vg:Value}{out:List (Ln×Int)}{P:Nat->Prop}(T:TX c W0)(K:MK c W0 W v vg out P)(at':Nat)(hat:at'<c.f.b.length)(dp:Int)(h0:0<=dp)(h9:dp<=99)
   (hJ:∀t:Nat,dp.toNat<(aF.di c.f.b c.E at' at').length->(aF.di c.f.b c.E at' at').getD dp.toNat (-1)=(t:Int)->0<=c.H.getD t 0):
   Calls Tryz.prog 97 #[.pointer (some ⟨c.B,0,none⟩), .int .i64 at', .int .i64 dp] W fun e w'=>
     e= .returned (.tuple #[.int .i64 (Lw.bZ c.f c.E c.H at' dp).1, .int .i64 (Lw.bZ c.f c.E c.H at' dp).2.1, .int .i64 (Lw.bZ c.f c.E c.H at' dp).2.2])/\Below W.heap.size W w':=by
 obtain⟨hH,hE,hS⟩:=T.il K
 have hLen:=T.ok.2.2.2.2.2
 have hall:=T.all
 have H6:=T.acc.Ka
 have htop:=T.acc.dH
 obtain⟨bl,hbl⟩:∃n,c.f.b.length=n:=⟨_,rfl⟩
 have hbx:=K.box
 unfold LX.jK at hbx
 rw[hbl]at hH hE hS hLen hat htop hbx
 have d4:=(hbx.2 4 _ rfl).1
 have d5:=(hbx.2 5 _ rfl).1
 have H8:=hbx.1
 have e4:∀p:dB W,p.to.cell? ⟨c.B,4,none⟩=some (.slice c.ea bl c.ec):=fun p=>(p.h.cell (p:=⟨c.B,4,none⟩) H8).trans d4
 have e5:∀p:dB W,p.to.cell? ⟨c.B,5,none⟩=some (.slice c.ba bl c.bc):=fun p=>(p.h.cell (p:=⟨c.B,5,none⟩) H8).trans d5
 have hne:=dB.any W
 have HT:=af (au T (au K (au hbl (au hbx (au htop H6)))))
 have hcon:=fun(W':World) (hB:Below W.heap.size W W')=>uU c.ba bl c.bc c.f.b hLen hall c.ea c.ec c.E at' hat W' (hS.kept hB) (hE.kept hB)
 clear hbx htop H6 hall d4 d5
 have hal:=aF.mh c.f.b c.E at' at'
 obtain⟨A,hAr⟩:∃A,aF.di c.f.b c.E at' at'=A:=⟨_,rfl⟩
 have harm:=fun i hi=>aF.xq (i:=i) HT.out.2.2.2.2.2 hAr hi
 have EG:=af (au (fun(t:Nat) h1 h2=>Lw.nX (f:=c.f) (E:=c.E) (H:=c.H) (n:=at') (dp:=dp) (t:=t) h1 h2) (fun h1=>Lw.ni (f:=c.f) (E:=c.E) (H:=c.H) (n:=at') (dp:=dp) h1))
 rw[hAr]at hal EG
 simp only[hAr]at hJ hcon
 obtain⟨L,hL⟩:∃L,Lw.bZ c.f c.E c.H at' dp=L:=⟨_,rfl⟩
 rw[hL]at EG ⊢
 clear hL hAr
 go_enter Tryz.func97,Tryz.ntmps97
 go_wp2
 refine dV 9 (by kernel_rfl) (by kernel_rfl) ?_
 simp only[List.take_succ_cons,List.take_zero,List.drop_succ_cons,List.drop_zero]
 repeat(go_big_quiet_step (fail))
 refine wpQuiet_nil ?_
 rintro _ ⟨pw,rfl⟩
 have UE:=pw.h
 have bu:=hcon _ UE
 obtain⟨W1,hW1⟩:∃W1,pw.to=W1:=⟨_,rfl⟩
 rw[hW1]at bu UE ⊢
 clear hcon hW1 e4 e5 hne
 go_wp2_with fail
 refine bu.mono ?_
 rintro e w1 ⟨v1,rfl,hoi,hB1⟩
 dsimp only
 obtain⟨a1,c1,rfl,pG⟩:=hoi.slice
 have hB2:=UE.trans (hB1.mono UE.size)
 have hK1:=HT.out.2.1.kept hB2
 have hbx:=hK1.box
 unfold LX.jK at hbx
 rw[HT.out.2.2.1]at hbx
 have d2:=(hbx.2 2 _ rfl).1
 have d3:=(hbx.2 3 _ rfl).1
 have d4:=(hbx.2 4 _ rfl).1
 have d5:=(hbx.2 5 _ rfl).1
 have d6:=(hbx.2 6 _ rfl).1
 have H8:=hbx.1
 have hS1:=hS.kept hB2
 have hE1:=hE.kept hB2
 have hH1:=hH.kept hB2
 have HB:=af hB2
 have tV:=af (fun(p:dB w1) (h:Int) h1 h2=>jR HT.out.1 (hK1.kept p.h) h h1 h2)
 have hne:=dB.any w1
 clear hoi hbx bu hB1 hB2 UE hS hE hH
 by_cases hlt:dp.toNat<A.length
 · obtain⟨t,et,htl,ND,-⟩:=harm dp.toNat hlt
   have hge:¬((A.length:Int)<=dp):=by omega
   have htn:t<bl:=by omega
   have hxt:A.getD dp.toNat 0=(t:Int):=by
     rw[←et]
     unfold aF.aZ
     rw[ai,ai,aj hlt]
     rfl
   have hdt:A.getD dp.toNat (-1)=(t:Int):=et
   have cA:∃ab ao,a1=some ⟨ab,ao,none⟩/\w1.cell? ⟨ab,ao+dp.toNat,none⟩=some (.int .i64 t):=by
     obtain⟨-,-,h3|⟨b,o,rfl,-,hh⟩⟩:=pG
     · omega
     · exact⟨b,o,rfl,by rw[hh dp.toNat hlt,hxt]⟩
   obtain⟨ab,ao,rfl,cA⟩:=cA
   have cE:∃b o,c.ea=some ⟨b,o,none⟩/\b<w1.heap.size/\w1.cell? ⟨b,o+t,none⟩=some (.int .i64 (aF.aZ c.E t)):=by
     obtain⟨hl,-,h3|⟨b,o,e,hb,hh⟩⟩:=hE1
     · omega
     · refine⟨b,o,e,hb,?_⟩
       rw[hh t htn]
       unfold aF.aZ
       rw[ai,ai,aj (by omega)]
       rfl
   obtain⟨eb,eo,ee,lE,cE⟩:=cE
   have cH:∃b o,c.ha=some ⟨b,o,none⟩/\b<w1.heap.size/\w1.cell? ⟨b,o+t,none⟩=some (.int .i64 (c.H.getD t 0)):=by
     obtain⟨hl,-,h3|⟨b,o,e,hb,hh⟩⟩:=hH1
     · omega
     · exact⟨b,o,e,hb,hh t htn⟩
   obtain⟨hb',ho',eh,lH,cH⟩:=cH
   have cS:∃b o,c.ba=some ⟨b,o,none⟩/\b<w1.heap.size/\w1.cell? ⟨b,o+t*2,none⟩=some (.int .i64 (aF.op c.f.b t))/\w1.cell? ⟨b,o+t*2+1,none⟩=some (.int .i64 (Hg.arg c.f.b t)):=by
     obtain⟨hl,-,h3|⟨b,o,e,hb,hh⟩⟩:=hS1
     · omega
     · exact⟨b,o,e,hb,(hh t htn).1,(hh t htn).2⟩
   obtain⟨sb,so,es,lS,EH,cS2⟩:=cS
   have HL:Hid (L=if aF.op c.f.b t=9 then((t:Int)+1,0,0)else if aF.op c.f.b t=10 then(aF.aZ c.E t,Lw.bx c.f (c.H.getD t 0-1),Hg.arg c.f.b t)else(aF.aZ c.E t,Lw.bx c.f (c.H.getD t 0),Hg.arg c.f.b t)):=EG.out.1 t hlt hdt
   have hHb:c.H.getD t 0<=20:=HT.out.2.2.2.2.1 t htn
   have NG:0<=c.H.getD t 0:=hJ t hlt hdt
   obtain⟨p,hp⟩:∃p,aF.op c.f.b t=p:=⟨_,rfl⟩
   obtain⟨q,hq⟩:∃q,Hg.arg c.f.b t=q:=⟨_,rfl⟩
   obtain⟨u,hu⟩:∃u,c.H.getD t 0=u:=⟨_,rfl⟩
   obtain⟨z,hz⟩:∃z,aF.aZ c.E t=z:=⟨_,rfl⟩
   rw[hp,hq,hu,hz]at HL
   rw[hp]at EH
   rw[hq]at cS2
   rw[hu]at cH hHb NG
   rw[hz]at cE
   have HX1:=af (fun(pz:dB w1)=>tV.out pz (u-1) (by omega) (by omega))
   have NH:=af (fun(pz:dB w1)=>tV.out pz u (by omega) (by omega))
   obtain⟨b1,hb1⟩:∃b1,Lw.bx c.f (u-1)=b1:=⟨_,rfl⟩
   obtain⟨b2,hb2⟩:∃b2,Lw.bx c.f u=b2:=⟨_,rfl⟩
   rw[hb1]at HX1 HL
   rw[hb2]at NH HL
   obtain⟨dn,hdn⟩:=Int.eq_ofNat_of_zero_le h0
   subst hdn
   rw[aA]at cA hlt
   have hdZ:(dn:Int)<(A.length:Int):=by omega
   have htZ:(t:Int)<(bl:Int):=by omega
   rw[eh]at d3
   rw[ee]at d4
   rw[es]at d5
   have g3:∀p:dB w1,p.to.cell? ⟨c.B,3,none⟩=some (.slice (some ⟨hb',ho',none⟩) bl c.hc):=fun p=>(p.h.cell (p:=⟨c.B,3,none⟩) H8).trans d3
   have g4:∀p:dB w1,p.to.cell? ⟨c.B,4,none⟩=some (.slice (some ⟨eb,eo,none⟩) bl c.ec):=fun p=>(p.h.cell (p:=⟨c.B,4,none⟩) H8).trans d4
   have g5:∀p:dB w1,p.to.cell? ⟨c.B,5,none⟩=some (.slice (some ⟨sb,so,none⟩) bl c.bc):=fun p=>(p.h.cell (p:=⟨c.B,5,none⟩) H8).trans d5
   have gE:∀p:dB w1,p.to.cell? ⟨eb,eo+t,none⟩=some (.int .i64 z):=fun p=>(p.h.cell (p:=⟨eb,eo+t,none⟩) lE).trans cE
   have gH:∀p:dB w1,p.to.cell? ⟨hb',ho'+t,none⟩=some (.int .i64 u):=fun p=>(p.h.cell (p:=⟨hb',ho'+t,none⟩) lH).trans cH
   have gS:∀pz:dB w1,pz.to.cell? ⟨sb,so+t*2+1,none⟩=some (.int .i64 q):=fun pz=>(pz.h.cell (p:=⟨sb,so+t*2+1,none⟩) lS).trans cS2
   obtain⟨al,UF⟩:∃al,A.length=al:=⟨_,rfl⟩
   rw[UF]at hdZ hlt hge hal ⊢
   clear harm pG hS1 hE1 hH1 hxt hdt et hp hq hu hz hb1 hb2 UF hJ EG ee eh es d2 d6
   by_cases Pm:p=9
   · subst Pm
     clear g3 g4 g5 gE gH gS
     go_wp2
     go_ret3
     exact⟨by rw[HL.out];rfl,HB.out⟩
   · by_cases h10:p=10
     · subst h10
       go_wp2
       refine bK (by kernel_rfl) (by kernel_rfl) ?_
       repeat(go_big_quiet_step (first|exact gT (HX1.out _)))
       refine wpQuiet_nil ?_
       rintro _ ⟨pz,rfl⟩
       have UG:=pz.h
       clear g3 g4 g5 gE gH gS
       generalize pz.to=w7 at*
       go_wp2
       go_ret3
       exact⟨by rw[HL.out];rfl,HB.out.trans (UG.mono HB.out.size)⟩
     · have e9:(p==9)=false:=by simpa using Pm
       have e10:(p==10)=false:=by simpa using h10
       go_wp2
       refine bK (by kernel_rfl) (by kernel_rfl) ?_
       repeat(go_big_quiet_step (first|exact gT (NH.out _)))
       refine wpQuiet_nil ?_
       rintro _ ⟨pz,rfl⟩
       have UG:=pz.h
       clear g3 g4 g5 gE gH gS
       generalize pz.to=w7 at*
       go_wp2
       go_ret3
       exact⟨by rw[HL.out,ay Pm,ay h10];rfl,HB.out.trans (UG.mono HB.out.size)⟩
 · have hge:(A.length:Int)<=dp:=by omega
   have HL:Hid (L=((bl:Int)-1,Lw.bx c.f 0,c.f.g)):=by
     show _=_
     rw[EG.out.2 hlt,HT.out.2.2.1]
   have HX0:=af (fun(p:dB w1)=>tV.out p 0 (by omega) (by omega))
   have g5:∀p:dB w1,p.to.cell? ⟨c.B,5,none⟩=some (.slice c.ba bl c.bc):=fun p=>(p.h.cell (p:=⟨c.B,5,none⟩) H8).trans d5
   have g6:∀p:dB w1,p.to.cell? ⟨c.B,6,none⟩=some (.int .i64 c.f.g):=fun p=>(p.h.cell (p:=⟨c.B,6,none⟩) H8).trans d6
   obtain⟨bz,hbz⟩:∃bz,Lw.bx c.f 0=bz:=⟨_,rfl⟩
   rw[hbz]at HL HX0
   clear harm pG hS1 hE1 hH1 hJ hal hbz d2 d3 d4 d5 d6
   go_wp2
   refine bK (by kernel_rfl) (by kernel_rfl) ?_
   repeat(go_big_quiet_step (first|exact gT (HX0.out _)))
   refine wpQuiet_nil ?_
   rintro _ ⟨pz,rfl⟩
   have UG:=pz.h
   generalize pz.to=w7 at*
   go_wp2
   go_ret3
   exact⟨by rw[HL.out];rfl,HB.out.trans (UG.mono HB.out.size)⟩
def oW (vs:List Lv)(j:Nat):Value:=(vs.getD j fM).2.2.2.2.2
def jW (W:World)(n₀:Nat)(v:Value)(fs:List Ln)(vs:List Lv):Prop:=
 W.ownsRow n₀ 41 6 v fs.length (dG vs)/\vs.length=fs.length/\jL W n₀ fs.length vs fs/\∀i j,i<j->j<fs.length->∀g,(oW vs i).ownBlock=some g->(oW vs j).ownBlock≠some g
theorem jW.kept {W W':World}{n₀:Nat}{v:Value}{fs:List Ln}{vs:List Lv}(h:jW W n₀ v fs vs)(hB:Below W.heap.size W W'):jW W' n₀ v fs vs:=⟨aG h.1 hB,h.2.1,h.2.2.1.kept hB,h.2.2.2⟩
theorem A8 {ys:List Int}{n:Nat}{k0:Int}(hl:ys.length=n)(h:∀j,j<n->ys.getD j 0=k0+(j:Int)):ys=(List.range n).map fun(j:Nat)=>k0+(j:Int):=by apply List.ext_getElem;{rw[hl];simp};intro j h1 h2;have:=h j (by omega);rw[ai,aj h1]at this;simpa using this
def lh (k0:Int)(n:Nat):List Int:=(List.range n).map fun(j:Nat)=>k0+(j:Int)
theorem BG {k0:Int}{n j:Nat}(h:j<n):(lh k0 n).getD j 0=k0+(j:Int):=by simp[lh,ai,h]
theorem sZ (k0:Int)(n:Nat):(lh k0 n).length=n:=by simp[lh]
theorem uV (n₀:Nat)(v:Value)(xs:List Int)(k0:Int)(h0:1<=k0)(h1:k0<=1000000000)(hn:xs.length<=2000000)(w:World)(hs:OI w n₀ v xs):Calls Tryz.prog 52 #[v, .int .i64 k0] w fun e w'=>e= .returned (.int .i64 (k0+(xs.length:Int)))/\OI w' n₀ v (lh k0 xs.length)/\w.grownBy w' v.ownBlock:=by obtain⟨a,cap,rfl,-⟩:=hs.slice;obtain⟨n,hln⟩:∃n,xs.length=n:=⟨_,rfl⟩;have hgg:w.grownBy w (Value.slice a n cap).ownBlock:=World.grownBy.refl _ _;unfold OI at hs ⊢;rw[sZ];rw[hln]at hs hn ⊢;go_enter Tryz.func52,Tryz.ntmps52;go_wp2;go_loopw [1,5] (fun m i wr=>∃(k:Nat)(ys:List Int),m= .int .i64 (k0+(k:Int))/\i= .int .i64 k/\k<=n/\ys.length=n/\(∀j,j<k->ys.getD j 0=k0+(j:Int))/\wr.ownsRow n₀ 2 1 (.slice a n cap) n (ys.map iv)/\w.grownBy wr (Value.slice a n cap).ownBlock) (fun _ i _=>n-(intOf i).toNat);(case atStart=>exact⟨0,xs,by congr 1;omega,rfl,Nat.zero_le _,hln,by simp,hs,hgg⟩);case round=>obtain⟨k,ys,rfl,rfl,hk,hyl,hys,hown,hg⟩:=hrel;have HY:Hid (ys.length=n/\∀j,j<k->ys.getD j 0=k0+(j:Int)):=⟨hyl,hys⟩;clear hs hgg;by_cases hlt:k<n;{rcases hown.2 with⟨h',h0⟩|⟨g,cap',cur,h',_⟩;{omega};cases h';have hc0:=hown.cellAt k (by omega);rw[List.getElem?_map,aj (by omega)]at hc0;simp only[Option.map_some,iv]at hc0;obtain⟨p',hp'⟩:∃x,ys[k]=x:=⟨_,rfl⟩;rw[hp']at hc0;have hf0:=hown.frozenAt k;have jF:=hown.stored k (.int .i64 (k0+(k:Int)));rw[←eT ys k]at jF;have HST:=af jF.1;have HG:=af (aW hg jF.2);clear hyl hys hp' jF hown hg;go_wp2;go_roundw;(case rel=>obtain⟨hyl,hys⟩:=HY.out;refine⟨k+1,ys.set k (k0+(k:Int)),by congr 1<;>omega,by simp,by omega,by simp[hyl],fun j hj=>?_,HST.out,HG.out⟩;by_cases e:j=k;{subst e;rw[ai,List.getElem?_set_self (by omega)];rfl};rw[←hys j (by omega),ai,List.getElem?_set_ne (by omega),←ai]);case measure=>simp[intOf];omega};have hke:k=n:=by{omega};subst hke;clear hyl hys;have HOW:=af (au hown hg);clear hown hg;go_wp2;go_ret;obtain⟨hyl,hys⟩:=HY.out;have e:ys=lh k0 k:=A8 hyl hys;rw[←e];exact⟨rfl,HOW.out.1,HOW.out.2⟩
theorem uO (a:Option Addr)(n cap:Nat)(k0:Int)(h0:1<=k0)(h1:k0<=1000000000)(hn:n<=2000000)(w:World)(hs:IL w a n (lh k0 n)):Calls Tryz.prog 53 #[.slice a n cap, .int .i64 k0] w fun e w'=>e= .returned (.int .i64 (k0+(n:Int)))/\w'=w:=by obtain⟨-,-,hrow⟩:=hs;go_enter Tryz.func53,Tryz.ntmps53;go_wp2;go_loop [1,5] (fun m i=>∃(k:Nat),m= .int .i64 (k0+(k:Int))/\i= .int .i64 k/\k<=n) (fun _ i=>n-(intOf i).toNat);(case atStart=>exact⟨0,by congr 1;omega,rfl,Nat.zero_le _⟩);case round=>obtain⟨k,rfl,rfl,hk⟩:=hrel;by_cases hlt:k<n;{rcases hrow with h0|⟨b,off,rfl,hb,hx⟩;{omega};have hx0:=hx k hlt;rw[BG hlt]at hx0;clear hx;go_wp2;go_round;(case rel=>exact⟨k+1,by congr 1<;>omega,by simp,by omega⟩);case measure=>simp[intOf];omega};have hke:k=n:=by{omega};subst hke;clear hrow;go_wp2;go_ret;exact⟨rfl,rfl⟩
def kL (k0:Int)(fs:List Ln):Nat->Int
 |0=>k0
 |i+1=>kL k0 fs i+5+((fs.getD i .z).l.length:Int)
def yS (k0:Int)(fs:List Ln)(j:Nat):Ln:=⟨kL k0 fs j,kL k0 fs j+1,kL k0 fs j+1+1,kL k0 fs j+1+1+1,kL k0 fs j+1+1+1+1,lh (kL k0 fs j+1+1+1+1+1) (fs.getD j .z).l.length⟩
def Cu (k0:Int)(fs:List Ln):List Ln:=(List.range fs.length).map (yS k0 fs)
theorem Cy {k0:Int}{fs:List Ln}{j:Nat}(h:j<fs.length):(Cu k0 fs).getD j .z=yS k0 fs j:=by simp[Cu,ai,h]
theorem oG (k0:Int)(fs:List Ln):(Cu k0 fs).length=fs.length:=by simp[Cu]
theorem Cx {k0:Int}{fs:List Ln}(h:∀j,j<fs.length->(fs.getD j .z).l.length<=3):∀i,i<=fs.length->k0<=kL k0 fs i/\kL k0 fs i<=k0+8*i
 |0,_=>by simp[kL]
 | i+1,hi=>by
   have:=Cx (k0:=k0) h i (by omega)
   have:=h i (by omega)
   simp only[kL]
   omega
theorem iK {α:Type}{l:List α}{k:Nat}{x d:α}(h:k<l.length):(l.set k x).getD k d=x:=by rw[ai,List.getElem?_set_self h];rfl
theorem qx {α:Type}{l:List α}{k j:Nat}{x d:α}(h:j≠k):(l.set k x).getD j d=l.getD j d:=by rw[ai,List.getElem?_set_ne (by omega),←ai]
theorem Bu (vs:List Lv)(k:Nat)(x y z p q:Int)(h:k<vs.length):dG (vs.set k (x,y,z,p,q,oW vs k))=(((((dG vs).set (k*6) (.int .i64 x)).set (k*6+1) (.int .i64 y)).set (k*6+2) (.int .i64 z)).set (k*6+3) (.int .i64 p)).set (k*6+4) (.int .i64 q):=by rw[vS];have hg:=(kC vs k h).2.2.2.2.2;apply List.ext_getElem?;intro i;by_cases e:i=k*6+5;{subst e;have hl:k*6+5<(dG vs).length:=by{rw[oV];omega};rw[List.getElem?_set_self (by simpa using hl),List.getElem?_set_ne (by omega),List.getElem?_set_ne (by omega),List.getElem?_set_ne (by omega),List.getElem?_set_ne (by omega),List.getElem?_set_ne (by omega),hg];rfl};rw[List.getElem?_set_ne (by omega)]
theorem rP {vs:List Lv}{k j:Nat}{x y z p q:Int}(h:k<vs.length):oW (vs.set k (x,y,z,p,q,oW vs k)) j=oW vs j:=by by_cases e:j=k;{subst e;show((vs.set j _).getD j fM).2.2.2.2.2=_;rw[iK h]};show((vs.set k _).getD j fM).2.2.2.2.2=_;rw[qx e];rfl
theorem jW.ints {W:World}{n₀ g cap k:Nat}{fs:List Ln}{vs:List Lv}(h:jW W n₀ (.slice (some ⟨g,0,none⟩) fs.length cap) fs vs)(hk:k<fs.length)(x y z p q:Int):jW (((((W.setCell ⟨g,k*6,none⟩ (.int .i64 x)).setCell ⟨g,k*6+1,none⟩ (.int .i64 y)).setCell ⟨g,k*6+2,none⟩ (.int .i64 z)).setCell ⟨g,k*6+3,none⟩ (.int .i64 p)).setCell ⟨g,k*6+4,none⟩ (.int .i64 q)) n₀ (.slice (some ⟨g,0,none⟩) fs.length cap) (fs.set k ⟨x,y,z,p,q,(fs.getD k .z).l⟩) (vs.set k (x,y,z,p,q,oW vs k))/\W.grownBy (((((W.setCell ⟨g,k*6,none⟩ (.int .i64 x)).setCell ⟨g,k*6+1,none⟩ (.int .i64 y)).setCell ⟨g,k*6+2,none⟩ (.int .i64 z)).setCell ⟨g,k*6+3,none⟩ (.int .i64 p)).setCell ⟨g,k*6+4,none⟩ (.int .i64 q)) (some g):=by obtain⟨hrow,hl,ht,hp⟩:=h;have h1:=hrow.stored (k*6) (.int .i64 x);have h2:=h1.1.stored (k*6+1) (.int .i64 y);have h3:=h2.1.stored (k*6+2) (.int .i64 z);have h4:=h3.1.stored (k*6+3) (.int .i64 p);have h5:=h4.1.stored (k*6+4) (.int .i64 q);have hg:=aW (aW (aW (aW h1.2 h2.2) h3.2) h4.2) h5.2;have hint:2≠41:=by{decide};refine⟨⟨?_,by simp[hl],?_,?_⟩,hg⟩;{rw[List.length_set,Bu _ _ _ _ _ _ _ (by omega)];exact h5.1};{intro j hj;rw[List.length_set]at hj;obtain⟨t0,t1,t2,t3,t4,t5⟩:=ht j hj;have t6:=cZ t5 hg (fun b e=>dD t5 hrow hint e);by_cases e:j=k;{subst e;rw[iK (by omega),iK hj];exact⟨rfl,rfl,rfl,rfl,rfl,t6⟩};rw[qx e,qx e];exact⟨t0,t1,t2,t3,t4,t6⟩};intro i j hij hj b;rw[List.length_set]at hj;rw[rP (by omega),rP (by omega)];exact hp i j hij hj b
theorem jW.list {W W':World}{n₀ k:Nat}{v:Value}{fs:List Ln}{vs:List Lv}{ys:List Int}(h:jW W n₀ v fs vs)(hk:k<fs.length)(hg:W.grownBy W' (oW vs k).ownBlock)(hos:OI W' n₀ (oW vs k) ys):jW W' n₀ v (fs.set k ⟨(fs.getD k .z).k,(fs.getD k .z).d,(fs.getD k .z).a,(fs.getD k .z).b,(fs.getD k .z).n,ys⟩) vs:=by obtain⟨hrow,hl,ht,hp⟩:=h;have hint:41≠2:=by{decide};refine⟨?_,by simp[hl],?_,?_⟩;{rw[List.length_set];exact cZ hrow hg (fun b e=>dD hrow (ht k hk).2.2.2.2.2 hint e)};{intro j hj;rw[List.length_set]at hj;obtain⟨t0,t1,t2,t3,t4,t5⟩:=ht j hj;by_cases e:j=k;{subst e;rw[iK hj];exact⟨t0,t1,t2,t3,t4,hos⟩};rw[qx e];refine⟨t0,t1,t2,t3,t4,cZ t5 hg (fun b e1 e2=>?_)⟩;rcases Nat.lt_or_ge j k with hlt|hge;{exact hp j k hlt hk b e1 e2};exact hp k j (by omega) hj b e2 e1};intro i j hij hj b;rw[List.length_set]at hj;exact hp i j hij hj b
def Gx (vs:List Lv)(v:Value)(n:Nat)(w w':World):Prop:=∀b,b<w.heap.size->v.ownBlock≠some b->(∀j,j<n->(oW vs j).ownBlock≠some b)->w'.heap[b]?=w.heap[b]?
theorem lJ {w w1 w2:World}{n₀:Nat}{r:Option Nat}(h:Below n₀ w w1)(hg:w1.grownBy w2 r)(hn:∀g,r=some g->n₀<=g)(hs:n₀<=w1.heap.size):Below n₀ w w2:=
 ⟨hg.os.trans h.os,hg.tape.trans h.tape,hg.output.trans h.output,Nat.le_trans h.size hg.size,fun k hk=>(hg.block k (by omega) (fun e=>by have:=hn k e.symm;omega)).trans (h.block k hk)⟩
theorem wV (n₀:Nat)(v:Value)(fs:List Ln)(vs:List Lv)(k0:Int)(hk0:1<=k0)(hk1:k0<=1000000)(h4:fs.length<=300)(h3:∀j,j<fs.length->(fs.getD j .z).l.length<=3)(w:World)(hn:n₀<=w.heap.size)(hs:jW w n₀ v fs vs):Calls Tryz.prog 26 #[v, .int .i64 k0] w fun e w'=>e= .returned (.int .i64 (kL k0 fs fs.length))/\(∃vs',jW w' n₀ v (Cu k0 fs) vs'/\∀j,oW vs' j=oW vs j)/\Below n₀ w w'/\Gx vs v fs.length w w':=by obtain⟨a,cap,rfl⟩:=bf hs.1;have hBr:=Below.refl n₀ w;go_enter Tryz.func26,Tryz.ntmps26;go_wp2;go_loopw [1,5] (fun m i wr=>∃(k:Nat)(gs:List Ln)(us:List Lv),m= .int .i64 (kL k0 fs k)/\i= .int .i64 k/\k<=fs.length/\gs.length=fs.length/\(∀j,j<k->gs.getD j .z=yS k0 fs j)/\(∀j,k<=j->gs.getD j .z=fs.getD j .z)/\jW wr n₀ (.slice a fs.length cap) gs us/\Below n₀ w wr/\n₀<=wr.heap.size/\(∀j,oW us j=oW vs j)/\Gx vs (.slice a fs.length cap) fs.length w wr) (fun _ i _=>fs.length-(intOf i).toNat);(case atStart=>exact⟨0,fs,vs,rfl,rfl,Nat.zero_le _,rfl,fun j hj=>by omega,fun j _=>rfl,hs,hBr,hn,fun _=>rfl,fun _ _ _ _=>rfl⟩);case round=>clear hs hBr;obtain⟨k,gs,us,rfl,rfl,hk,hgl,hg1,hg2,Dh,hB,hsz,Cf,UH⟩:=hrel;have I8:=af (au Cf UH);clear Cf UH;have hbd:=Cx (k0:=k0) h3 k hk;by_cases hlt:k<fs.length;{have hst:=Dh;obtain⟨hrow,tX,hte,hpw⟩:=hst;rw[hgl]at hrow tX hte;rcases hrow.2 with⟨h',h0⟩|⟨g,cap',cur,h',hge,_,_,_,_,_⟩;{omega};cases h';obtain⟨e0,e1,e2,e3,e4,e5⟩:=kC us k (by omega);have c0:=(hrow.cellAt (k*6) (by omega)).trans e0;have c1:=(hrow.cellAt (k*6+1) (by omega)).trans e1;have c2:=(hrow.cellAt (k*6+2) (by omega)).trans e2;have c3:=(hrow.cellAt (k*6+3) (by omega)).trans e3;have c4:=(hrow.cellAt (k*6+4) (by omega)).trans e4;have c5:=(hrow.cellAt (k*6+5) (by omega)).trans e5;have z0:=hrow.frozenAt (k*6);have z1:=hrow.frozenAt (k*6+1);have z2:=hrow.frozenAt (k*6+2);have z3:=hrow.frozenAt (k*6+3);have z4:=hrow.frozenAt (k*6+4);have hbl:(gs.getD k .z).l.length=(fs.getD k .z).l.length:=by{rw[hg2 k (Nat.le_refl _)]};have hb3:=h3 k hlt;have hol:=(hte k hlt).2.2.2.2.2;obtain⟨ua,uc,hue,-⟩:=hol.slice;obtain⟨⟨x',y',q',r',s',u'⟩,hxu⟩:∃x,us.getD k fM=x:=⟨_,rfl⟩;have hlk:oW us k=u':=by{unfold oW;rw[hxu]};rw[hxu]at c0 c1 c2 c3 c4 c5 hue hol;simp only at c0 c1 c2 c3 c4 c5 hue hol;rw[hbl]at hue;subst hue;have j5:=jW.ints (g:=g) (cap:=cap) (k:=k) (fs:=gs) (vs:=us) (W:=wr) (n₀:=n₀) (by rw[hgl];exact Dh) (by omega) (kL k0 fs k) (kL k0 fs k+1) (kL k0 fs k+1+1) (kL k0 fs k+1+1+1) (kL k0 fs k+1+1+1+1);obtain⟨j5,iQ⟩:=j5;rw[hgl]at j5;have zY:=(j5.2.2.1 k (by rw[List.length_set];omega)).2.2.2.2.2;rw[iK (by omega),iK (by omega),hlk]at zY;simp only at zY;have hcon:=uV n₀ _ (gs.getD k .z).l (kL k0 fs k+1+1+1+1+1) (by omega) (by omega) (by omega) _ zY;rw[hbl]at hcon;have HG:=af (au hgl (au hg1 hg2));have NJ:=af (au j5 iQ);have HXU:=af (au hlk (au tX hol));obtain⟨K,hK⟩:∃K,kL k0 fs k=K:=⟨_,rfl⟩;obtain⟨B,og⟩:∃B,(fs.getD k .z).l.length=B:=⟨_,rfl⟩;have LJ:=af (au hK og);rw[hK]at hbd hcon;rw[og]at hcon c5 hb3;rw[hK];clear Dh j5 iQ hrow hte hpw zY hxu tX hgl hg1 hg2 e0 e1 e2 e3 e4 e5 hK og hbl hol hlk;go_wp2_with fail;refine hcon.mono ?_;rintro x w3 ⟨rfl,NK,hg3⟩;clear hcon;go_wp2;go_roundw;(case rel=>obtain⟨hgl,hg1,hg2⟩:=HG.out;obtain⟨j5,iQ⟩:=NJ.out;obtain⟨hlk,tX,hol⟩:=HXU.out;obtain⟨hK,og⟩:=LJ.out;rw[hK]at j5 iQ;have hlk2:oW (us.set k (K,K+1,K+1+1,K+1+1+1,K+1+1+1+1,oW us k)) k= .slice ua B uc:=by{rw[rP (by omega),hlk,og]};have H9:=j5.list (k:=k) (ys:=lh (K+1+1+1+1+1) B) (by rw[List.length_set];omega) (by rw[hlk2];exact hg3) (by rw[hlk2];exact NK);rw[iK (by omega),List.set_set]at H9;refine⟨k+1,_,_,?_,by simp,by omega,?_,?_,?_,H9,?_,?_,?_,?_⟩;{simp only[kL,hK,og];congr 1;omega};{simp[hgl]};{intro j hj;by_cases e:j=k;{subst e;rw[iK (by omega),yS,hK,og]};rw[qx e];exact hg1 j (by omega)};{intro j hj;rw[qx (by omega)];exact hg2 j (by omega)};{refine lJ (lJ hB iQ (fun b e=>by cases e;exact hge) hsz) hg3 (fun b e=>?_) (Nat.le_trans hsz iQ.size);rw[←og]at e;exact(aV hol e).1};{exact Nat.le_trans hsz (Nat.le_trans iQ.size hg3.size)};{intro j;rw[rP (by omega)];exact I8.out.1 j};intro b hb h1 h2;have e1:=I8.out.2 b hb h1 h2;have hb1:b<wr.heap.size:=ak hb hB.size;refine(hg3.block b (ak hb1 iQ.size) (fun e=>h2 k hlt ?_)).trans ((iQ.block b hb1 (fun e=>h1 e.symm)).trans e1);rw[←I8.out.1 k,hlk,og];exact e.symm);case measure=>simp[intOf];omega};have hke:k=fs.length:=by{omega};subst hke;have e:gs=Cu k0 fs:=by{apply List.ext_getElem;{rw[hgl,oG]};intro j h1 h2;have:=(hg1 j (by omega)).trans (Cy (k0:=k0) (fs:=fs) (by omega)).symm;simpa[ai,aj h1,aj h2]using this};have UI:=af Dh;clear Dh hg1 hg2;go_wp2;go_ret;exact⟨rfl,⟨us,by rw[←e];exact UI.out,I8.out.1⟩,hB,I8.out.2⟩
theorem yc (fs:List Ln)(k0:Int)(hk0:1<=k0)(hk1:k0<=1000000)(h4:fs.length<=300)(h3:∀j,j<fs.length->(fs.getD j .z).l.length<=3)(a:Option Addr)(cap:Nat)(w:World)(hs:LL w a fs.length (Cu k0 fs)):Calls Tryz.prog 27 #[.slice a fs.length cap, .int .i64 k0] w fun e w'=>e= .returned (.int .i64 (kL k0 fs fs.length))/\w'=w:=by obtain⟨-,-,hrow⟩:=hs;go_enter Tryz.func27,Tryz.ntmps27;go_wp2;go_loop [1,5] (fun m i=>∃(k:Nat),m= .int .i64 (kL k0 fs k)/\i= .int .i64 k/\k<=fs.length) (fun _ i=>fs.length-(intOf i).toNat);(case atStart=>exact⟨0,rfl,rfl,Nat.zero_le _⟩);case round=>obtain⟨k,rfl,rfl,hk⟩:=hrel;have hbd:=Cx (k0:=k0) h3 k hk;by_cases hlt:k<fs.length;{rcases hrow with h0|⟨b,off,rfl,hb,hx⟩;{omega};obtain⟨x0,x1,x2,x3,x4,la,ln,lc,x5,hil⟩:=hx k hlt;rw[Cy hlt]at x0 x1 x2 x3 x4 hil;simp only[yS]at x0 x1 x2 x3 x4 hil;have hb3:=h3 k hlt;obtain⟨K,hK⟩:∃K,kL k0 fs k=K:=⟨_,rfl⟩;obtain⟨B,og⟩:∃B,(fs.getD k .z).l.length=B:=⟨_,rfl⟩;have LJ:=af (au hK og);rw[hK]at hbd x0 x1 x2 x3 x4 hil;rw[og]at hb3 hil;rw[hK];have hbl:ln=B:=by{rw[←hil.1,sZ]};subst hbl;have hcon:=uO la ln lc (K+1+1+1+1+1) (by omega) (by omega) (by omega) w hil;have hnn:¬(K+1+1+1+1+1+(ln:Int)<0):=by{omega};clear hx hK og hil;go_wp2_with fail;refine hcon.mono ?_;rintro x w3 ⟨rfl,aR⟩;subst w3;clear hcon;go_wp2;go_round;(case rel=>obtain⟨hK,og⟩:=LJ.out;refine⟨k+1,?_,by simp,by omega⟩;simp only[kL,hK,og];congr 1;omega);case measure=>simp[intOf];omega};have hke:k=fs.length:=by{omega};subst hke;clear hrow;go_wp2;go_ret;exact⟨rfl,rfl⟩
theorem rZ {W W':World}{n₀ e k n:Nat}{v:Value}{xs:List Value}(h:W.ownsRow n₀ e k v n xs)(hb:∀g,n₀<=g->g<W.heap.size->W'.heap[g]?=W.heap[g]?):W'.ownsRow n₀ e k v n xs:=by refine⟨h.1,?_⟩;rcases h.2 with h'|⟨g',cap',cur,h',h1,h2,r⟩;{exact .inl h'};exact .inr ⟨g',cap',cur,h',h1,(hb g' h1 (Array.getElem?_eq_some_iff.1 h2).1).trans h2,r⟩
theorem jW.same {W W':World}{n₀:Nat}{v:Value}{fs:List Ln}{vs:List Lv}(h:jW W n₀ v fs vs)(hb:∀g,n₀<=g->g<W.heap.size->W'.heap[g]?=W.heap[g]?):jW W' n₀ v fs vs:=
 ⟨rZ h.1 hb,h.2.1,fun j hj=>by
   obtain⟨t0,t1,t2,t3,t4,t5⟩:=h.2.2.1 j hj
   exact⟨t0,t1,t2,t3,t4,rZ t5 hb⟩,h.2.2.2⟩
theorem jW.mono {W:World}{n₀ n₁:Nat}{v:Value}{fs:List Ln}{vs:List Lv}(h:jW W n₁ v fs vs)(hn:n₀<=n₁):jW W n₀ v fs vs:=by refine⟨?_,h.2.1,h.2.2.1.mono hn,h.2.2.2⟩;refine⟨h.1.1,?_⟩;rcases h.1.2 with h'|⟨g',cap',cur,h',hb,r⟩;{exact .inl h'};exact .inr ⟨g',cap',cur,h',Nat.le_trans hn hb,r⟩
theorem jW.ll {W:World}{n₀ g n cap:Nat}{fs:List Ln}{vs:List Lv}(h:jW W n₀ (.slice (some ⟨g,0,none⟩) n cap) fs vs)(hn:fs.length=n):LL W (some ⟨g,0,none⟩) n fs:=by have h1:=h.1;have h3:=h.2.2.1;rw[hn]at h1 h3;exact vK h1 hn h3
section
open Go.RowKit
def JZ (x:Ln)(sv:Value):Value:=
 if x.k=1 then .iface 143 (.agg #[.int .i64 x.d, .int .i64 x.n])
 else if x.k=2 then .iface 219 (.agg #[.int .i64 x.d, .int .i64 x.a])
 else if x.k=3 then .iface 222 (.agg #[.int .i64 x.d, .int .i64 x.n, .int .i64 x.a, .int .i64 x.b])
 else if x.k=4 then .iface 215 (.agg #[.int .i64 x.d, .int .i64 x.a])
 else if x.k=5 then .iface 218 (.agg #[.int .i64 x.n])
 else if x.k=6 then .iface 245 (.agg #[.int .i64 x.a, .int .i64 x.n])
 else if x.k=7 then .iface 248 (.agg #[.int .i64 x.d, .int .i64 x.n,sv])
 else if x.k=8 then .iface 224 (.agg #[.int .i64 x.d, .int .i64 x.a, .int .i64 x.n])
 else if x.k=9 then .iface 226 (.agg #[.int .i64 x.b, .int .i64 x.a, .int .i64 x.n])
 else if x.k=10 then .iface 198 (.agg #[.int .i64 x.a])
 else if x.k=11 then .iface 195 (.agg #[])
 else .nilIface
end
section
variable {w : World} {m0 N gE gO : Nat} {a : Option Addr} {len cap : Nat} {E O : List Int} {S : List Nat} {b : Bool} {W : World}
theorem Ht (n:Nat):(madeCells #[.int .i64 0] (n*1)).toList=(List.replicate n (0:Int)).map iv:=by apply List.ext_getElem;{simp[madeCells]};intro i h1 h2;simp[madeCells,iv,Nat.mod_one]
theorem ig (n:Nat)(hn:n<=80)(w:World):Calls Tryz.prog 109 #[.int .i64 n] w fun e w'=>∃g,e= .returned (.slice (some ⟨g,0,none⟩) n n)/\w'.ownsRow w.heap.size 2 1 (.slice (some ⟨g,0,none⟩) n n) n ((aF.dK n).map iv)/\Below w.heap.size w w':=by obtain⟨i0,hi,hz0,hz1,hz2⟩:=info_parts dA;obtain⟨wm,hmk,hown,hgrow⟩:=run_make_full (P:=Tryz.prog) w w.heap.size 39 2 i0 _ 1 Tryz.underlying39 hi hz0 hz1 .i64 .i64 n (by rw[hz2];omega) (by simp only[maxLen];omega) (Nat.le_refl _);have hBm:Below w.heap.size w wm:=⟨hgrow.os,hgrow.tape,hgrow.output,hgrow.size,fun k hk=>hgrow.block k hk (by simp)⟩;have hown0:wm.ownsRow w.heap.size 2 1 (.slice (some ⟨w.heap.size,0,none⟩) n n) n ((List.replicate n (0:Int)).map iv):=by{rw[←Ht];exact hown};clear hown hgrow;go_enter Tryz.func109,Tryz.ntmps109;go_wp2;go_loopw [9] (fun i wr=>∃(k:Nat)(ys:List Int),i= .int .i64 k/\k<=n/\ys.length=n/\(∀j,j<k->ys.getD j 0=-1)/\wr.ownsRow w.heap.size 2 1 (.slice (some ⟨w.heap.size,0,none⟩) n n) n (ys.map iv)/\Below w.heap.size w wr) (fun i _=>n-(intOf i).toNat);(case atStart=>exact⟨0,_,rfl,Nat.zero_le _,by simp,by simp,hown0,hBm⟩);case round=>obtain⟨k,ys,rfl,hk,hyl,hys,hown,hB⟩:=hrel;have HY:Hid (ys.length=n/\∀j,j<k->ys.getD j 0=-1):=⟨hyl,hys⟩;clear hys hown0 hBm hmk;by_cases hlt:k<n;{have hc0:=dR hown hlt 0;have hf0:=hown.frozenAt k;have jF:=hown.stored k (.int .i64 (-1));rw[←eT ys k]at jF;have HST:=af jF.1;have HB:=af (hB.setCell (p:=⟨w.heap.size,k,none⟩) (Nat.le_refl _) (.int .i64 (-1)));clear hyl jF hown hB;go_wp2;go_roundw;(case rel=>obtain⟨hyl,hys⟩:=HY.out;refine⟨k+1,ys.set k (-1),by simp,by omega,by simp[hyl],fun j hj=>?_,HST.out,HB.out⟩;by_cases e:j=k;{subst e;rw[ai,List.getElem?_set_self (by omega)];rfl};rw[←hys j (by omega),ai,List.getElem?_set_ne (by omega),←ai]);case measure=>simp[intOf];omega};have hke:k=n:=by{omega};subst hke;have HOW:=af hown;clear hyl hown;go_wp2;go_ret;obtain⟨hyl,hys⟩:=HY.out;have e:ys=aF.dK k:=by{apply List.ext_getElem;{rw[hyl];simp[aF.dK]};intro j h1 h2;have:=hys j (by omega);rw[ai,aj h1]at this;simpa[aF.dK]using this};rw[←e];exact⟨_,rfl,HOW.out,hB⟩
theorem mH {W:World}{n₀ n₁ e k n:Nat}{v:Value}{xs:List Value}(h:W.ownsRow n₁ e k v n xs)(hn:n₀<=n₁):W.ownsRow n₀ e k v n xs:=by refine⟨h.1,?_⟩;rcases h.2 with h'|⟨g',cap',cur,h',hb,r⟩;{exact .inl h'};exact .inr ⟨g',cap',cur,h',Nat.le_trans hn hb,r⟩
theorem gp (a:Option Addr)(len cap:Nat)(hn:len<=80)(w:World):Calls Tryz.prog 114 #[.slice a len cap] w fun e w'=>∃m0 N gE gO,e= .returned (.pointer (some ⟨N,0,none⟩))/\PS w m0 N gE gO a len cap (aF.dK len) (aF.dK len) [] false w':=by go_enter Tryz.func114,Tryz.ntmps114;go_wp2_with fail;refine(ig len hn w).mono ?_;rintro e w1 ⟨gE,rfl,hE,hB1⟩;go_wp2_with fail;refine(ig len hn w1).mono ?_;rintro e w2 ⟨gO,rfl,hO,hB2⟩;have h1:=hE.lt gE rfl;have h2:=hO.lt gO rfl;have hE2:=aG hE hB2;have hB3:=hB1.trans (hB2.mono hB1.size);have HA:=af (au hE2 (au hO hB3));have s1:=hB1.size;have s2:=hB2.size;clear hE hO hE2 hB1 hB2 hB3;go_wp2;go_ret;obtain⟨hE,hO,hB⟩:=HA.out;have hB':=aB w2 (.cells #[.slice a len cap, .slice none 0 0, .slice (some ⟨gE,0,none⟩) len len, .slice (some ⟨gO,0,none⟩) len len, .bool false] 167);exact⟨w2.heap.size+1,w2.heap.size,gE,gO,rfl,hB.alloc hB.size _,by simp,⟨by omega,by omega⟩,⟨h1.1,by omega⟩,⟨by omega,by omega⟩,⟨by omega,by omega,by omega⟩,aG hE hB',mH (aG hO hB') s1,_,kN.new w2 _ _ _ _ _ _,rfl, .inl ⟨rfl,rfl⟩⟩
theorem PS.XL (hs:PS w m0 N gE gO a len cap E O S b W)(t:Nat)(k:Int):PS w m0 N gE gO a len cap E (O.set t k) S b (W.setCell ⟨gO,t,none⟩ (.int .i64 k)):=by
 obtain⟨n1,n2,n3⟩:=hs.ne
 obtain⟨v,hb,hr⟩:=hs.st
 have hst:=hs.rO.stored t (.int .i64 k)
 rw[←eT]at hst
 have hg:=aP W ⟨gO,t,none⟩ (.int .i64 k)
 have hap:=hs.apart hr
 exact {hs with
   bQ:=hs.bQ.setCell (p:=⟨gO,t,none⟩) hs.iO.1 _
   hm:=by have:=hs.hm;simpa[World.setCell]using this
   rE:=dJ hs.rE hg n3
   rO:=hst.1
   st:=⟨v,hb.eP hg (by simp only[ne_eq,ah];omega),hr.kept hg (by
     rcases hv:v.ownBlock with _|x
     · exact .inl rfl
     · refine .inr ?_
       have:=hap x hv
       simp only[ne_eq,ah]
       omega)⟩}
theorem PS.Fs (hs:PS w m0 N gE gO a len cap E O S b W)(t:Nat)(k:Int):PS w m0 N gE gO a len cap (E.set t k) O S b (W.setCell ⟨gE,t,none⟩ (.int .i64 k)):=by
 obtain⟨n1,n2,n3⟩:=hs.ne
 obtain⟨v,hb,hr⟩:=hs.st
 have hst:=hs.rE.stored t (.int .i64 k)
 rw[←eT]at hst
 have hg:=aP W ⟨gE,t,none⟩ (.int .i64 k)
 have hap:=hs.apart hr
 exact {hs with
   bQ:=hs.bQ.setCell (p:=⟨gE,t,none⟩) hs.iE.1 _
   hm:=by have:=hs.hm;simpa[World.setCell]using this
   rE:=hst.1
   rO:=dJ hs.rO hg (Ne.symm n3)
   st:=⟨v,hb.eP hg (by simp only[ne_eq,ah];omega),hr.kept hg (by
     rcases hv:v.ownBlock with _|x
     · exact .inl rfl
     · refine .inr ?_
       have:=hap x hv
       simp only[ne_eq,ah]
       omega)⟩}
theorem PS.QR (hs:PS w m0 N gE gO a len cap E O S b W)(b':Bool):PS w m0 N gE gO a len cap E O S b' (W.setCell ⟨N,4,none⟩ (.bool b')):=by
 obtain⟨n1,n2,n3⟩:=hs.ne
 obtain⟨v,hb,hr⟩:=hs.st
 have hg:=aP W ⟨N,4,none⟩ (.bool b')
 have hap:=hs.apart hr
 exact {hs with
   bQ:=hs.bQ.setCell (p:=⟨N,4,none⟩) hs.iN.1 _
   hm:=by have:=hs.hm;simpa[World.setCell]using this
   rE:=dJ hs.rE hg (Ne.symm n1)
   rO:=dJ hs.rO hg (Ne.symm n2)
   st:=⟨v,hb.XD _,hr.kept hg (by
     rcases hv:v.ownBlock with _|x
     · exact .inl rfl
     · refine .inr ?_
       have:=hap x hv
       simp only[ne_eq,ah]
       omega)⟩}
theorem zk (k:Int)(hs:PS w m0 N gE gO a len cap E O [] b W):Calls Tryz.prog 156 #[.pointer (some ⟨N,0,none⟩), .int .i64 k] W fun e w'=>e= .returned (.bool false)/\Below W.heap.size W w':=by have hcon:=vo hs;have hN:N<W.heap.size:=by{have:=hs.iN;have:=hs.hm;omega};clear hs;go_enter Tryz.func156,Tryz.ntmps156;go_wp2_with fail;refine hcon.mono ?_;rintro e w1 ⟨rfl,rfl⟩;clear hcon;go_wp2;go_ret;exact⟨rfl,Below.refl _ _⟩
theorem SL.at {w:World}{a:Option Addr}{len:Nat}{xs:List (Int×Int)}(h:SL w a len xs){W:World}(hB:Below w.heap.size w W){t:Nat}(ht:t<len):∃bl off,a=some ⟨bl,off,none⟩/\bl<w.heap.size/\W.cell? ⟨bl,off+t*2,none⟩=some (.int .i64 (aF.op xs t))/\W.cell? ⟨bl,off+t*2+1,none⟩=some (.int .i64 (xs.getD t (0,0)).2):=by obtain⟨-,-,h3|⟨bl,off,rfl,hb,hx⟩⟩:=h;{omega};exact⟨bl,off,rfl,hb,(hB.cell (p:=⟨bl,off+t*2,none⟩) hb).trans (hx t ht).1,(hB.cell (p:=⟨bl,off+t*2+1,none⟩) hb).trans (hx t ht).2⟩
theorem Eo {xs:List (Int×Int)}(hl:SL w a len xs)(k:Int)(t:Nat)(ht:t<len)(h80:len<=80)(hS:S.length<=80)(hc:¬(aF.op xs t=10/\aF.aZ O t=-1))(hs:PS w m0 N gE gO a len cap E O (t::S) b W):Calls Tryz.prog 156 #[.pointer (some ⟨N,0,none⟩), .int .i64 k] W fun e w'=>e= .returned (.bool false)/\Below W.heap.size W w':=by have hN:N<W.heap.size:=by{have:=hs.iN;have:=hs.hm;omega};have hcon:=tH t hS hs;go_enter Tryz.func156,Tryz.ntmps156;go_wp2_with fail;refine hcon.mono ?_;rintro e w1 ⟨rfl,hB1⟩;clear hcon;replace hs:=hs.kept hB1;obtain⟨v,hb,-⟩:=hs.st;obtain⟨h0,⟨c0,c1,c2,c3,c4⟩,f0,f1,f2,f3,f4⟩:=hb;have hO:=dR hs.rO ht (-1);obtain⟨bl,off,rfl,hbl,x0,x1⟩:=hl.at hs.bQ ht;obtain⟨p,hp⟩:∃p,aF.op xs t=p:=⟨_,rfl⟩;obtain⟨o,ho⟩:∃o,O.getD t (-1)=o:=⟨_,rfl⟩;rw[hp]at x0 hc;unfold aF.aZ at hc;rw[ho]at hO hc;clear hp ho hs hl;by_cases h10:p=10;{subst h10;have ho1:(o==-1)=false:=by{simp at hc ⊢;exact hc};clear hc;go_wp2;go_ret;exact⟨rfl,hB1⟩};have XU:(p==10)=false:=by{simpa using h10};clear hc;go_wp2;go_ret;exact⟨rfl,hB1⟩
theorem Bc {xs:List (Int×Int)}(hl:SL w a len xs)(k:Int)(t:Nat)(ht:t<len)(h80:len<=80)(hS:S.length<=80)(h1:aF.op xs t=10)(h2:aF.aZ O t=-1)(hs:PS w m0 N gE gO a len cap E O (t::S) b W):Calls Tryz.prog 156 #[.pointer (some ⟨N,0,none⟩), .int .i64 k] W fun e w'=>e= .returned (.bool true)/\PS w m0 N gE gO a len cap E (O.set t k) (t::S) b w':=by have hN:N<W.heap.size:=by{have:=hs.iN;have:=hs.hm;omega};have hcon:=tH t hS hs;go_enter Tryz.func156,Tryz.ntmps156;go_wp2_with fail;refine hcon.mono ?_;rintro e w1 ⟨rfl,hB1⟩;clear hcon;replace hs:=hs.kept hB1;obtain⟨v,hb,-⟩:=hs.st;obtain⟨h0,⟨c0,c1,c2,c3,c4⟩,f0,f1,f2,f3,f4⟩:=hb;have hO:=dR hs.rO ht (-1);have hfO:=hs.rO.frozenAt t;obtain⟨bl,off,rfl,hbl,x0,x1⟩:=hl.at hs.bQ ht;have HP:=af (hs.XL t k);rw[h1]at x0;unfold aF.aZ at h2;rw[h2]at hO;clear h1 h2 hs hl hB1;go_wp2;go_ret;exact⟨rfl,HP.out⟩
theorem Gb (k:Int)(hs:PS w m0 N gE gO a len cap E O [] b W):Calls Tryz.prog 157 #[.pointer (some ⟨N,0,none⟩), .int .i64 k] W fun e w'=>e= .returned (.tuple #[])/\PS w m0 N gE gO a len cap E O [] true w':=by have hcon:=Bg hs;obtain⟨v,hb,-⟩:=hs.st;obtain⟨h0,⟨c0,c1,c2,c3,c4⟩,f0,f1,f2,f3,f4⟩:=hb;have HP:=af (hs.QR true);clear hs c0 c1 c2 c3 f0 f1 f2 f3;go_enter Tryz.func157,Tryz.ntmps157;go_wp2_with fail;refine hcon.mono ?_;rintro e w1 ⟨rfl,rfl⟩;clear hcon;go_wp2;(try simp only[Exit.inBlock,Exit.then]);refine bodyPost_ret (results_none rfl _ _ _) rfl ⟨rfl,HP.out⟩
theorem M6 (k:Nat)(t:Nat)(ht:t<len)(h80:len<=80)(hS:S.length<=80)(hlo:-1<=aF.aZ O t)(hhi:aF.aZ O t<len)(hs:PS w m0 N gE gO a len cap E O (t::S) b W):Calls Tryz.prog 157 #[.pointer (some ⟨N,0,none⟩), .int .i64 k] W fun e w'=>e= .returned (.tuple #[])/\PS w m0 N gE gO a len cap (aF.close E O t k) O S b w':=by go_enter Tryz.func157,Tryz.ntmps157;go_wp2_with fail;refine(DD t hS hs).mono ?_;rintro e w1 ⟨rfl,hs1⟩;clear hs;obtain⟨v,hb,-⟩:=hs1.st;obtain⟨h0,⟨c0,c1,c2,c3,c4⟩,f0,f1,f2,f3,f4⟩:=hb;have hE:=dR hs1.rE ht (-1);have QY:=fun j=>hs1.rE.frozenAt j;have hO:=dR hs1.rO ht (-1);have hE2:=fun j (hj:j<len)=>dR hs1.rE hj (-1);obtain⟨n1,n2,n3⟩:=hs1.ne;unfold aF.aZ at hlo hhi;obtain⟨o,ho⟩:∃o,O.getD t (-1)=o:=⟨_,rfl⟩;rw[ho]at hO hlo hhi;have hft:=QY t;by_cases hneg:o=-1;{subst hneg;have HP:=af (hs1.Fs t (k:Int));have HO:=af ho;clear ho hs1 QY hE2 hhi hlo;go_wp2;(try simp only[Exit.inBlock,Exit.then]);refine bodyPost_end (results_none rfl _ _ _) rfl ⟨rfl,?_⟩;rw[aF.close,HO.out,ay (by omega)];exact HP.out};obtain⟨d,rfl⟩:∃d:Nat,o=d:=⟨o.toNat,by omega⟩;have hd:d<len:=by{omega};have UJ:=QY d;have hEd:=hE2 d hd;have hdn:((d:Int)==-1)=false:=by{simp};have agA:=dR (hs1.Fs t (k:Int)).rE hd (-1);have agB:=(hs1.Fs t (k:Int)).rE.frozenAt d;have HP:=af ((hs1.Fs t (k:Int)).Fs d (k:Int));have HO:=af ho;clear ho hs1 QY hE2 hhi hlo hneg hEd UJ;go_wp2;(try simp only[Exit.inBlock,Exit.then]);refine bodyPost_end (results_none rfl _ _ _) rfl ⟨rfl,?_⟩;rw[aF.close,HO.out,az (by omega),aA];exact HP.out
end
section
structure PI (xs:List (Int×Int))(k:Nat)(E O:List Int)(S:List Nat)(b:Bool):Prop where
 sl:S.length<=k
 inv:b=false->aF.Inv xs k E O S/\aF.all xs=aF.go xs (xs.length+1-k) k E O S
 fin:b=true->aF.all xs=(E,O,decide (k=xs.length))
theorem PI.first (xs:List (Int×Int)):PI xs 0 (aF.dK xs.length) (aF.dK xs.length) [] false:=
 ⟨Nat.le_refl _,fun _=>⟨aF.Inv.first xs,rfl⟩,fun h=>by cases h⟩
variable {w : World} {m0 N gE gO : Nat} {a : Option Addr} {len cap : Nat} {E O : List Int} {S : List Nat} {b : Bool} {W : World} {xs : List (Int × Int)} {k t : Nat}
theorem go_succ (hk:k<xs.length):xs.length+1-k=(xs.length+1-(k+1))+1:=by omega
theorem PI.push (h:PI xs k E O S false)(hk:k<xs.length)(ho:St.opens (aF.op xs k)=true):PI xs (k+1) E O (k::S) false:=by obtain⟨h1,h2⟩:=h.inv rfl;exact⟨by have:=h.sl;simp;omega,fun _=>⟨h1.push hk ho,by rw[h2,go_succ hk,aF.jm hk ho]⟩,fun h=>by cases h⟩
theorem PI.other (h:PI xs k E O S false)(hk:k<xs.length)(ho:St.opens (aF.op xs k)=false)(h11:aF.op xs k≠11)(h12:aF.op xs k≠12):PI xs (k+1) E O S false:=by obtain⟨h1,h2⟩:=h.inv rfl;exact⟨by have:=h.sl;omega,fun _=>⟨h1.other hk ho h11,by rw[h2,go_succ hk,aF.jC hk ho h11 h12]⟩,fun h=>by cases h⟩
theorem PI.Es (h:PI xs k E O (t::S) false)(hk:k<xs.length)(ho:St.opens (aF.op xs k)=false)(h11:aF.op xs k=11)(h1:aF.op xs t=10)(h2:aF.aZ O t=-1):PI xs (k+1) E (O.set t (k:Int)) (t::S) false:=by obtain⟨h3,h4⟩:=h.inv rfl;exact⟨by have:=h.sl;omega,fun _=>⟨h3.Es hk h11 h1 (by omega),by rw[h4,go_succ hk,aF.jw hk ho h11 ⟨h1,by unfold aF.aZ at h2;omega⟩]⟩,fun h=>by cases h⟩
theorem PI.JQ (h:PI xs k E O (t::S) false)(hk:k<xs.length)(ho:St.opens (aF.op xs k)=false)(h12:aF.op xs k=12):PI xs (k+1) (aF.close E O t k) O S false:=by obtain⟨h3,h4⟩:=h.inv rfl;exact⟨by have:=h.sl;simp at this;omega,fun _=>⟨h3.JQ hk h12,by rw[h4,go_succ hk,aF.jo hk ho (by omega) h12]⟩,fun h=>by cases h⟩
theorem PI.last (h:PI xs k E O [] false)(hk:k<xs.length)(ho:St.opens (aF.op xs k)=false)(h12:aF.op xs k=12):PI xs (k+1) E O [] true:=by obtain⟨h3,h4⟩:=h.inv rfl;exact⟨by simp,(fun h=>by cases h),fun _=>by rw[h4,go_succ hk,aF.kZ hk ho (by omega) h12]⟩
theorem PI.no0 (h:PI xs k E O [] false)(hk:k<xs.length)(ho:St.opens (aF.op xs k)=false)(h11:aF.op xs k=11):(aF.all xs).2.2=false:=by obtain⟨h3,h4⟩:=h.inv rfl;rw[h4,go_succ hk,aF.jE hk ho h11]
theorem PI.noN (h:PI xs k E O (t::S) false)(hk:k<xs.length)(ho:St.opens (aF.op xs k)=false)(h11:aF.op xs k=11)(hc:¬(aF.op xs t=10/\aF.aZ O t=-1)):(aF.all xs).2.2=false:=by
 obtain⟨h3,h4⟩:=h.inv rfl
 rw[h4,go_succ hk,aF.iM hk ho h11 (by
  rintro⟨q1,q2⟩
  have:=(h3.low t).2.2
  unfold aF.aZ at this hc
  exact hc ⟨q1,by omega⟩)]
theorem PI.noE (h:PI xs k E O S true)(hk:k<xs.length):(aF.all xs).2.2=false:=by rw[h.fin rfl];exact decide_eq_false (by omega)
theorem Jw (hl:SL w a len xs)(hall:St.bi xs=true)(h80:len<=80)(hk:k<len)(hp:PI xs k E O S b)(hs:PS w m0 N gE gO a len cap E O S b W):
   Calls Tryz.prog 141 #[.pointer (some ⟨N,0,none⟩), .int .i64 k] W fun e w'=>
     (∃E' O' S' b',e= .returned (.bool true)/\PS w m0 N gE gO a len cap E' O' S' b' w'/\PI xs (k+1) E' O' S' b')\/(e= .returned (.bool false)/\(aF.all xs).2.2=false/\Below w.heap.size w w'):=by
 have hkx:k<xs.length:=by rw[hl.1];exact hk
 obtain⟨v,hb,-⟩:=hs.st
 obtain⟨h0,⟨c0,c1,c2,c3,c4⟩,f0,f1,f2,f3,f4⟩:=hb
 have hok:=St.aT hall hkx
 have qA:St.rG (aF.op xs k) (xs.getD k (0,0)).2=St.opens (aF.op xs k):=by
   rw[St.rG]
   unfold aF.op
   rw[hok,Bool.true_and]
 have hsl:=hp.sl
 obtain⟨bl,off,rfl,hbl,x0,x1⟩:=hl.at hs.bQ hk
 obtain⟨p,J7⟩:∃p,aF.op xs k=p:=⟨_,rfl⟩
 obtain⟨q,hq⟩:∃q,(xs.getD k (0,0)).2=q:=⟨_,rfl⟩
 rw[J7,hq]at qA
 rw[J7]at x0
 rw[hq]at x1
 have HP:=af hp
 have HS:=af hs
 have Kg:=af J7
 have LK:=af hkx
 clear hok hq J7 hp hs hkx
 rcases b with _|_
 · have hcon :=Az p q (W.alloc (.cells #[.int .i64 p, .int .i64 q] 121))
   rw[qA]at hcon
   rcases ho:St.opens p with _|_
   · rw [ho] at hcon
     have HO:Hid (St.opens (aF.op xs k)=false):=by rw[Kg.out];exact ho
     by_cases h11:p=11
     · subst h11
       rcases S with _|⟨t,S'⟩
       · go_enter Tryz.func141,Tryz.ntmps141
         go_wp2_with fail
         refine hcon.mono ?_
         rintro e w2 ⟨rfl,hB⟩
         obtain⟨y0,y1,hlt⟩:=dM W _ _ _ hB
         have hs2:=HS.out.kept ((aB W _).trans (hB.mono (by simp)))
         clear hcon hB x0 x1 c0 c1 c2 c3 c4 f0 f1 f2 f3 f4
         have bu:=zk (k:Int) hs2
         go_wp2_with fail
         refine bu.mono ?_
         rintro e w3 ⟨rfl,hB3⟩
         have hB4:=hs2.bQ.trans (hB3.mono hs2.bQ.size)
         clear bu hs2
         go_wp2
         go_ret
         exact .inr ⟨rfl,HP.out.no0 LK.out HO.out Kg.out,hB4⟩
       · have htl:t<len:=by have:=((HP.out.inv rfl).1.st t (by simp)).1;omega
         simp only[List.length_cons]at hsl
         by_cases hc:aF.op xs t=10/\aF.aZ O t=-1
         · go_enter Tryz.func141,Tryz.ntmps141
           go_wp2_with fail
           refine hcon.mono ?_
           rintro e w2 ⟨rfl,hB⟩
           obtain⟨y0,y1,hlt⟩:=dM W _ _ _ hB
           have hs2:=HS.out.kept ((aB W _).trans (hB.mono (by simp)))
           clear hcon hB x0 x1 c0 c1 c2 c3 c4 f0 f1 f2 f3 f4
           have bu:=Bc hl (k:Int) t htl h80 (by omega) hc.1 hc.2 hs2
           clear hs2
           go_wp2_with fail
           refine bu.mono ?_
           rintro e w3 ⟨rfl,hs3⟩
           clear bu
           have yx:=af hs3
           clear hs3
           go_wp2
           go_ret
           exact .inl ⟨_,_,_,_,rfl,yx.out,HP.out.Es LK.out HO.out Kg.out hc.1 hc.2⟩
         · go_enter Tryz.func141,Tryz.ntmps141
           go_wp2_with fail
           refine hcon.mono ?_
           rintro e w2 ⟨rfl,hB⟩
           obtain⟨y0,y1,hlt⟩:=dM W _ _ _ hB
           have hs2:=HS.out.kept ((aB W _).trans (hB.mono (by simp)))
           clear hcon hB x0 x1 c0 c1 c2 c3 c4 f0 f1 f2 f3 f4
           have bu:=Eo hl (k:Int) t htl h80 (by omega) hc hs2
           go_wp2_with fail
           refine bu.mono ?_
           rintro e w3 ⟨rfl,hB3⟩
           have hB4:=hs2.bQ.trans (hB3.mono hs2.bQ.size)
           clear bu hs2
           go_wp2
           go_ret
           exact .inr ⟨rfl,HP.out.noN LK.out HO.out Kg.out hc,hB4⟩
     · have Cc:(p==11)=false:=by simpa using h11
       by_cases h12:p=12
       · subst h12
         rcases S with _|⟨t,S'⟩
         · go_enter Tryz.func141,Tryz.ntmps141
           go_wp2_with fail
           refine hcon.mono ?_
           rintro e w2 ⟨rfl,hB⟩
           obtain⟨y0,y1,hlt⟩:=dM W _ _ _ hB
           have hs2:=HS.out.kept ((aB W _).trans (hB.mono (by simp)))
           clear hcon hB x0 x1 c0 c1 c2 c3 c4 f0 f1 f2 f3 f4
           have bu:=Gb (k:Int) hs2
           clear hs2
           go_wp2_with fail
           refine bu.mono ?_
           rintro e w3 ⟨rfl,hs3⟩
           clear bu
           have yx:=af hs3
           clear hs3
           go_wp2
           go_ret
           exact .inl ⟨_,_,_,_,rfl,yx.out,HP.out.last LK.out HO.out Kg.out⟩
         · have htl:t<len:=by have:=((HP.out.inv rfl).1.st t (by simp)).1;omega
           have hlo:=((HP.out.inv rfl).1.low t).2.2
           have hhi:aF.aZ O t<len:=by
             by_cases h:0<=aF.aZ O t
             · have:=((HP.out.inv rfl).1.oo t h).2.2.1;omega
             · omega
           simp only[List.length_cons]at hsl
           go_enter Tryz.func141,Tryz.ntmps141
           go_wp2_with fail
           refine hcon.mono ?_
           rintro e w2 ⟨rfl,hB⟩
           obtain⟨y0,y1,hlt⟩:=dM W _ _ _ hB
           have hs2:=HS.out.kept ((aB W _).trans (hB.mono (by simp)))
           clear hcon hB x0 x1 c0 c1 c2 c3 c4 f0 f1 f2 f3 f4
           have bu:=M6 k t htl h80 (by omega) hlo hhi hs2
           clear hs2 hlo hhi
           go_wp2_with fail
           refine bu.mono ?_
           rintro e w3 ⟨rfl,hs3⟩
           clear bu
           have yx:=af hs3
           clear hs3
           go_wp2
           go_ret
           exact .inl ⟨_,_,_,_,rfl,yx.out,HP.out.JQ LK.out HO.out Kg.out⟩
       · have XV:(p==12)=false:=by simpa using h12
         go_enter Tryz.func141,Tryz.ntmps141
         go_wp2_with fail
         refine hcon.mono ?_
         rintro e w2 ⟨rfl,hB⟩
         obtain⟨y0,y1,hlt⟩:=dM W _ _ _ hB
         have hs2:=HS.out.kept ((aB W _).trans (hB.mono (by simp)))
         clear hcon hB x0 x1 c0 c1 c2 c3 c4 f0 f1 f2 f3 f4
         have yx:=af hs2
         clear hs2
         go_wp2
         go_ret
         exact .inl ⟨_,_,_,_,rfl,yx.out,HP.out.other LK.out HO.out (by rw[Kg.out];exact h11) (by rw[Kg.out];exact h12)⟩
   · rw[ho]at hcon
     have HO:Hid (St.opens (aF.op xs k)=true):=by rw[Kg.out];exact ho
     go_enter Tryz.func141,Tryz.ntmps141
     go_wp2_with fail
     refine hcon.mono ?_
     rintro e w2 ⟨rfl,hB⟩
     obtain⟨y0,y1,hlt⟩:=dM W _ _ _ hB
     have hs2:=HS.out.kept ((aB W _).trans (hB.mono (by simp)))
     clear hcon hB x0 x1 c0 c1 c2 c3 c4 f0 f1 f2 f3 f4
     have bu:=Gj k (by omega) hs2
     clear hs2
     go_wp2_with fail
     refine bu.mono ?_
     rintro e w3 ⟨rfl,hs3⟩
     clear bu
     have yx:=af hs3
     clear hs3
     go_wp2
     go_ret
     exact .inl ⟨_,_,_,_,rfl,yx.out,HP.out.push LK.out HO.out⟩
 · have hBw:=HS.out.bQ
   go_enter Tryz.func141,Tryz.ntmps141
   go_wp2
   go_ret
   exact .inr ⟨rfl,HP.out.noE LK.out,hBw.alloc hBw.size _⟩
theorem ou (hl:SL w a len xs)(hall:St.bi xs=true)(h80:len<=80)(n:Nat)(hn:n<=len)(hs:PS w m0 N gE gO a len cap (aF.dK len) (aF.dK len) [] false W):
   Calls Tryz.prog 115 #[.pointer (some ⟨N,0,none⟩), .int .i64 n] W fun e w'=>
     (∃E' O' S' b',e= .returned (.bool true)/\PS w m0 N gE gO a len cap E' O' S' b' w'/\PI xs n E' O' S' b')\/(e= .returned (.bool false)/\(aF.all xs).2.2=false/\Below w.heap.size w w'):=by
 have hp:=PI.first xs
 rw[hl.1]at hp
 go_enter Tryz.func115,Tryz.ntmps115
 go_wp2
 go_loopw [7] (fun i wr=>∃(k:Nat)(E O:List Int)(S:List Nat)(b:Bool),i= .int .i64 k/\k<=n/\PS w m0 N gE gO a len cap E O S b wr/\PI xs k E O S b) (fun i _=>n-(intOf i).toNat)
 case atStart=>exact⟨0,_,_,_,_,rfl,Nat.zero_le _,hs,hp⟩
 case round=>
   obtain⟨k,E,O,S,b,rfl,hk,hs1,hp1⟩:=hrel
   clear hs hp
   by_cases hlt:k<n
   · have hcon:=Jw hl hall h80 (show k<len by omega) hp1 hs1
     clear hs1 hp1
     go_wp2_with fail
     refine hcon.mono ?_
     rintro e w2 (⟨E',O',S',b',rfl,hs2,hp2⟩|⟨rfl,hno,hB⟩)
     · clear hcon
       have HS:=af hs2
       have HP:=af hp2
       clear hs2 hp2
       go_wp2
       go_roundw
       case rel=>exact⟨k+1,E',O',S',b',by simp,by omega,HS.out,HP.out⟩
       case measure=>simp[intOf];omega
     · clear hcon
       have HN:=af hno
       clear hno
       go_wp2
       go_ret
       exact .inr ⟨rfl,HN.out,hB⟩
   · have hke:k=n:=by omega
     subst hke
     have HS:=af hs1
     have HP:=af hp1
     clear hs1 hp1
     go_wp2
     go_ret
     exact .inl ⟨E,O,S,b,rfl,HS.out,HP.out⟩
end
theorem PS.len {w:World}{m0 N gE gO:Nat}{a:Option Addr}{len cap:Nat}{E O:List Int}{S:List Nat}{b:Bool}{W:World}(hs:PS w m0 N gE gO a len cap E O S b W):E.length=len/\O.length=len:=by have h1:=hs.rE.1;have h2:=hs.rO.1;simp at h1 h2;exact⟨h1,h2⟩
def NB (W:World)(n0:Nat)(N:Nat)(E O:List Int):Prop:=
 ∃v0 v1 vE vO v4,kN W N v0 v1 vE vO v4/\OI W n0 vE E/\OI W n0 vO O/\n0<=N/\∃a0 l0 c0,v0= .slice a0 l0 c0
theorem PS.nb {w:World}{m0 N gE gO:Nat}{a:Option Addr}{len cap:Nat}{E O:List Int}{S:List Nat}{b:Bool}{W:World}{n0:Nat}(hs:PS w m0 N gE gO a len cap E O S b W)(hn:n0<=w.heap.size):NB W n0 N E O:=by obtain⟨v,hb,-⟩:=hs.st;obtain⟨l1,l2⟩:=hs.len;refine⟨_,_,_,_,_,hb,?_,?_,Nat.le_trans hn hs.iN.1,_,_,_,rfl⟩;{unfold OI;rw[l1];exact mH hs.rE hn};unfold OI;rw[l2];exact mH hs.rO hn
theorem PI.isOk {xs:List (Int×Int)}{n:Nat}{E O:List Int}{S:List Nat}{b:Bool}(h:PI xs xs.length E O S b)(hg:(decide (xs.length<=80)&&St.bi xs)=true):aF.isOk xs=b/\(b=true->aF.ends xs=E/\aF.aS xs=O):=by rcases b with _|_;{refine⟨?_,fun h=>by cases h⟩;rw[aF.isOk,hg,(h.inv rfl).2,Bool.true_and,show xs.length+1-xs.length=0+1 by omega,aF.nY (Nat.le_refl _)]};have e:=h.fin rfl;have h1:aF.isOk xs=true:=by{rw[aF.isOk,hg,e];simp};refine⟨h1,fun _=>?_⟩;rw[aF.ends,aF.aS,az h1,az h1,e];exact⟨rfl,rfl⟩
theorem aF.j6 {xs:List (Int×Int)}(h:aF.isOk xs=false):aF.ends xs=[]/\aF.aS xs=[]:=by rw[aF.ends,aF.aS,ay (by simp[h]),ay (by simp[h])];exact⟨rfl,rfl⟩
theorem iU (a:Option Addr)(len cap:Nat)(xs:List (Int×Int))(w:World)(hs:SL w a len xs):Calls Tryz.prog 87 #[.slice a len cap] w fun e w'=>∃N,e= .returned (.tuple #[.pointer (some ⟨N,0,none⟩), .bool (aF.isOk xs)])/\NB w' w.heap.size N (aF.ends xs) (aF.aS xs)/\Below w.heap.size w w':=by have hcon:=o7 a len cap xs w hs;rcases hok:(decide (len<=80)&&St.bi xs)with _|_;{rw[hok]at hcon;have fG:aF.isOk xs=false:=by{rw[aF.isOk,hs.1,hok,Bool.false_and]};rw[(aF.j6 fG).1,(aF.j6 fG).2,fG];clear fG hs hok;go_enter Tryz.func87,Tryz.ntmps87;go_wp2_with fail;refine hcon.mono ?_;rintro e w1 ⟨rfl,hB⟩;clear hcon;have bu:=gp none 0 0 (Nat.zero_le _) w1;go_wp2_with fail;refine bu.mono ?_;rintro e w2 ⟨m0,N,gE,gO,rfl,hps⟩;clear bu;have hB2:=hB.trans (hps.bQ.mono hB.size);have HN:=af (hps.nb hB.size);clear hps;go_wp2;go_ret2;exact⟨N,rfl,HN.out,hB2⟩};rw[hok]at hcon;have J6:Hid ((decide (xs.length<=80)&&St.bi xs)=true):=by{rw[hs.1];exact hok};rw[ax]at hok;have h80:len<=80:=of_decide_eq_true hok.1;have HA:=af hok.2;clear hok;go_enter Tryz.func87,Tryz.ntmps87;go_wp2_with fail;refine hcon.mono ?_;rintro e w1 ⟨rfl,hB⟩;clear hcon;have hs1:=hs.kept hB;have bu:=gp a len cap h80 w1;go_wp2_with fail;refine bu.mono ?_;rintro e w2 ⟨m0,N,gE,gO,rfl,hps⟩;clear bu;have fV:=ou hs1 HA.out h80 len (Nat.le_refl _) hps;clear hps;go_wp2_with fail;refine fV.mono ?_;rintro e w3 (⟨E',O',S',b',rfl,hs3,hp3⟩|⟨rfl,hno,hB3⟩);{clear fV;have hl:=hs.1;subst hl;obtain⟨q1,q2⟩:=hp3.isOk (n:=0) J6.out;obtain⟨v,⟨h0,⟨c0,c1,c2,c3,c4⟩,f0,f1,f2,f3,f4⟩,-⟩:=hs3.st;have hB4:=hB.trans (hs3.bQ.mono hB.size);have yx:=af hs3;clear hs3 hp3 hs hs1 c0 c1 c2 c3 f0 f1 f2 f3 f4;rcases b' with _|_;{obtain⟨z1,z2⟩:=aF.j6 q1;have HZ:=af (au q1 (au z1 z2));clear q1 q2 z1 z2;have mP:=gp none 0 0 (Nat.zero_le _) w3;go_wp2_with fail;refine mP.mono ?_;rintro e w4 ⟨m0',N',gE',gO',rfl,hps⟩;clear mP;have dP:=hB4.trans (hps.bQ.mono hB4.size);have HN:=af (hps.nb hB4.size);clear hps;go_wp2;go_ret2;rw[HZ.out.1,HZ.out.2.1,HZ.out.2.2];exact⟨N',rfl,HN.out,dP⟩};obtain⟨z1,z2⟩:=q2 rfl;have HZ:=af (au q1 (au z1 z2));clear q1 q2 z1 z2;have HN:=af (yx.out.nb hB.size);go_wp2;go_ret2;rw[HZ.out.1,HZ.out.2.1,HZ.out.2.2];exact⟨N,rfl,HN.out,hB4⟩};clear fV;have fG:aF.isOk xs=false:=by{rw[aF.isOk,hno,Bool.and_false]};have hB4:=hB.trans (hB3.mono hB.size);have HZ:=af fG;clear fG hno hs hs1;have mP:=gp none 0 0 (Nat.zero_le _) w3;go_wp2_with fail;refine mP.mono ?_;rintro e w4 ⟨m0',N',gE',gO',rfl,hps⟩;clear mP;have dP:=hB4.trans (hps.bQ.mono hB4.size);have HN:=af (hps.nb hB4.size);clear hps;go_wp2;go_ret2;rw[(aF.j6 HZ.out).1,(aF.j6 HZ.out).2,HZ.out];exact⟨N',rfl,HN.out,dP⟩
theorem zD (a:Option Addr)(len cap:Nat)(xs:List (Int×Int))(w:World)(hs:SL w a len xs):Calls Tryz.prog 163 #[.slice a len cap] w fun e w'=>e= .returned (.bool (aF.isOk xs))/\Below w.heap.size w w':=by go_enter Tryz.func163,Tryz.ntmps163;go_wp2_with fail;refine(iU a len cap xs w hs).mono ?_;rintro e w1 ⟨N,rfl,-,hB⟩;go_wp2;go_ret;exact⟨rfl,hB⟩
theorem rW (S:List Nat):(eG S).length=S.length:=by simp[eG]
theorem Gh (S:List Nat)(k:Nat)(hk:k<S.length):(eG S.reverse).getD k 0=(eG S).getD (S.length-1-k) 0:=by simp only[eG,ai,List.map_reverse];rw[List.getElem?_reverse (by simpa using hk)];simp
theorem uE {w:World}{m0 N gE gO:Nat}{a:Option Addr}{len cap:Nat}{E O:List Int}{S:List Nat}{b:Bool}{W:World}(hs:PS w m0 N gE gO a len cap E O S b W)(hS:S.length<=80):Calls Tryz.prog 164 #[.pointer (some ⟨N,1,none⟩)] W fun e w'=>∃v,e= .returned v/\OI w' W.heap.size v (eG S)/\Below W.heap.size W w':=by obtain⟨i0,hi,hz0,hz1,hz2⟩:=info_parts dA;obtain⟨v,hb,hr⟩:=hs.st;obtain⟨av,cv,rfl⟩:=bf hr;obtain⟨h0,⟨c0,c1,c2,c3,c4⟩,f0,f1,f2,f3,f4⟩:=hb;obtain⟨n,hn⟩:∃n,S.length=n:=⟨_,rfl⟩;rw[hn]at hr c1 hS;have hmk:=run_make (P:=Tryz.prog) W 39 2 i0 _ Tryz.underlying39 hi hz0 .i64 .i64 0 (n:Int) (by omega) (by omega) (by rw[hz2];omega) (by omega);rw[hz1]at hmk;simp only[aA,Int.toNat_zero]at hmk;have eD:=ry (World.ownsRow_lit (base:=W.heap.size) (size:=1) (e:=2) W (madeCells (Value.int .i64 0).cells (n*1)) n (Nat.le_refl _) (by simp only[maxLen];omega) (size_madeCells _ _)) 0 (Nat.zero_le _);rw[List.take_zero]at eD;have hB0:=aB W (.cells (madeCells (Value.int .i64 0).cells (n*1)) 2);obtain⟨wm,Di⟩:∃wm,W.alloc (.cells (madeCells (Value.int .i64 0).cells (n*1)) 2)=wm:=⟨_,rfl⟩;rw[Di]at hmk eD hB0;have d1:=(hB0.cell (p:=⟨N,1,none⟩) h0).trans c1;clear Di hs c0 c2 c3 c4 f0 f1 f2 f3 f4;go_enter Tryz.func164,Tryz.ntmps164;go_wp2;go_loopw [3,4] (fun v i wr=>∃(k g c:Nat),i= .int .i64 ((k:Int)-1)/\k<=n/\v= .slice (some ⟨g,0,none⟩) (n-k) c/\wr.ownsRow W.heap.size 2 1 (.slice (some ⟨g,0,none⟩) (n-k) c) (n-k) (((eG S).take (n-k)).map iv)/\Below W.heap.size W wr) (fun _ i _=>(intOf i+1).toNat);(case atStart=>refine⟨n,_,n,rfl,Nat.le_refl _,by rw[Nat.sub_self],?_,hB0⟩;rw[Nat.sub_self,List.take_zero];exact eD);case round=>obtain⟨k,g,c,rfl,hk,rfl,hown,hB⟩:=hrel;clear eD hB0 hmk d1;have HN:=af hn;clear hn;rcases Nat.eq_zero_or_pos k with rfl|hkp;{have HOW:=af hown;clear hown hr;go_wp2;go_ret;refine⟨_,rfl,?_,hB⟩;have h:=HOW.out;rw[Nat.sub_zero,List.take_of_length_le (by rw[rW,HN.out];exact Nat.le_refl _)]at h;unfold OI;rw[rW,HN.out];exact h};obtain⟨j,rfl⟩:∃j,k=j+1:=⟨k-1,by omega⟩;have hij:((j+1:Nat):Int)-1=(j:Int):=by{omega};rw[hij];rcases hr.2 with⟨-,h0'⟩|⟨gv,cap',cur,e',-⟩;{omega};cases e';have hx:=dR (xs:=eG S.reverse) hr (k:=j) (by omega) 0;have hgv:=(hr.lt gv rfl).2;rw[Gh S j (by rw[HN.out];omega),HN.out]at hx;obtain⟨x,gz⟩:∃x,(eG S).getD (n-1-j) 0=x:=⟨_,rfl⟩;rw[gz]at hx;have e1:=(hB.cell (p:=⟨N,1,none⟩) h0).trans c1;have e2:=(hB.cell (p:=⟨gv,j,none⟩) hgv).trans hx;have hBx:=hB.alloc hB.size (.cells #[.int .i64 x] 2);have HRW:=af (hown.alloc (.cells #[.int .i64 x] 2));have hsz:=hB.size;have HX:=af gz;obtain⟨m,hm⟩:∃m,n-(j+1)=m:=⟨_,rfl⟩;rw[hm]at HRW ⊢;have hmn:m<=80:=by{omega};have HM:=af hm;clear hr hown hB gz hx hm;go_wp2_with(at_builtin;refine wpList_append_own _ rfl _ _ 39 rfl W.heap.size 2 i0 (.int .i64 0) 1 8 Tryz.underlying39 hi hz0 hz1 hz2 rfl (by decide) _ _ _ rfl HRW.out ⟨wr.heap.size,0,none⟩ 1 1 [.int .i64 x] rfl rfl (fZ _ _ _ _ rfl) (by simp[Value.oneCell']) (by simp only[maxLen];omega) (by omega) (by simp;omega) ?_;intro v' wA hown' hgrow _;have hB4:=dW HRW.out hBx (by simp;omega) hgrow;obtain⟨g',cap',rfl⟩:=ownsRow_succ hown');go_roundw;(case rel=>have hm:=HM.out;have e:n-j=m+1:=by{omega};have e':(eG S).take (m+1)=(eG S).take m++[x]:=by{have hl:=rW S;have hn:=HN.out;have gz:=HX.out;rw[List.take_add_one,aj (by omega)];rw[ai,aj (by omega)]at gz;have:n-1-j=m:=by{omega};simp only[this,Option.getD_some]at gz;rw[gz];rfl};refine⟨j,g',cap',rfl,by omega,by rw[e],?_,hB4⟩;rw[e,e',List.map_append];exact hown');case measure=>first|(simp[intOf];done)|(simp[intOf];omega)
theorem PI.gP {xs:List (Int×Int)}{n:Nat}{E O:List Int}{S:List Nat}{b:Bool}(h:PI xs n E O S b)(hok:aF.isOk xs=true)(hn:n<xs.length):aF.gP xs n=eG S:=by have h2:(aF.all xs).2.2=true:=by{rw[aF.isOk,ax]at hok;exact hok.2};rcases b with _|_;{obtain⟨hi,hg⟩:=h.inv rfl;have:=hi.gP (Ef:=(aF.all xs).1) (Of:=(aF.all xs).2.1) (by rw[←hg,←h2]);rw[aF.gP,az ⟨hok,by omega,by omega⟩,aA,aF.ends,az hok];exact this};rw[h.noE hn]at h2;cases h2
theorem zo (a:Option Addr)(len cap:Nat)(xs:List (Int×Int))(at':Int)(w:World)(hs:SL w a len xs):Calls Tryz.prog 146 #[.slice a len cap, .int .i64 at'] w fun e w'=>∃v,e= .returned v/\OI w' w.heap.size v (aF.gP xs at')/\Below w.heap.size w w':=by have hcon:=zD a len cap xs w hs;have hl:=hs.1;have hm:=hs.2.1;unfold maxLen at hm;rcases h:aF.isOk xs with _|_;{rw[h]at hcon;have he:aF.gP xs at'=[]:=by{rw[aF.gP,ay (by simp[h])]};rw[he];clear he h;go_enter Tryz.func146,Tryz.ntmps146;go_wp2_with fail;refine hcon.mono ?_;rintro e w1 ⟨rfl,hB⟩;clear hcon;go_wp2;go_ret;exact⟨_,rfl,(OI.empty w1).mono hB.size,hB.alloc hB.size _⟩};rw[h]at hcon;have hg:decide (xs.length<=80)=true/\St.bi xs=true:=by{have h':=h;rw[aF.isOk,ax,ax]at h';exact h'.1};have h80:len<=80:=by{have:=of_decide_eq_true hg.1;omega};have HG:=af hg.2;have HI:=af h;rcases hin:Wd.dY at' 0 ((len:Int)-1)with _|_;{have he:aF.gP xs at'=[]:=by{rw[aF.gP,ay];rintro⟨-,q1,q2⟩;rw[Wd.bB.2 ⟨q1,by omega⟩]at hin;cases hin};rw[he];clear he h hg;go_enter Tryz.func146,Tryz.ntmps146;go_wp2_with fail;refine hcon.mono ?_;rintro e w1 ⟨rfl,hB⟩;clear hcon;go_wp2_with(go_at_call 33;refine(bJ _ _ _ _).mono ?_;rintro e w' ⟨rfl,aR⟩;subst w');go_ret;exact⟨_,rfl,(OI.empty w1).mono hB.size,hB.alloc hB.size _⟩};have hin':=Wd.bB.1 hin;obtain⟨n,rfl⟩:∃n:Nat,at'=n:=⟨at'.toNat,by omega⟩;have hnl:n<len:=by{omega};clear h hg;go_enter Tryz.func146,Tryz.ntmps146;go_wp2_with fail;refine hcon.mono ?_;rintro e w1 ⟨rfl,hB⟩;clear hcon;have hs1:=hs.kept hB;go_wp2_with(go_at_call 33;refine(bJ _ _ _ _).mono ?_;rintro e w' ⟨rfl,aR⟩;subst w');refine(gp a len cap h80 w1).mono ?_;rintro e w2 ⟨m0,N,gE,gO,rfl,hps⟩;have fV:=ou hs1 HG.out h80 n (by omega) hps;clear hps;go_wp2_with fail;refine fV.mono ?_;rintro e w3 (⟨E',O',S',b',rfl,hs3,hp3⟩|⟨rfl,hno,hB3⟩);{clear fV;have hB4:=hB.trans (hs3.bQ.mono hB.size);have hsl:=hp3.sl;have mP:=uE hs3 (by omega);have HP:=af (hp3.gP HI.out (by omega));clear hp3 hs3;go_wp2_with fail;refine mP.mono ?_;rintro e w4 ⟨v,rfl,hoi,dP⟩;clear mP;obtain⟨av,cv,rfl,-⟩:=hoi.slice;have NL:=af (hoi.mono hB4.size);have bU:=hB4.trans (dP.mono hB4.size);clear hoi;go_wp2;go_ret;rw[HP.out];exact⟨_,rfl,NL.out,bU⟩};exfalso;have h2:=HI.out;rw[aF.isOk,hno,Bool.and_false]at h2;cases h2
structure LY where
 B:Nat
 fa:Option Addr
 fl:Nat
 fc:Nat
 ba:Option Addr
 bc:Nat
 Nb:Nat
 ea:Option Addr
 ec:Nat
 oa:Option Addr
 oc:Nat
 ha:Option Addr
 hc:Nat
 fs:List Fn
 f:Fn
 E:List Int
 O:List Int
 H:List Int
def LY.jK (c:LY)(v vg:Value):List Value:=
 [.slice c.fa c.fl c.fc, .int .i64 c.f.a, .int .i64 c.f.l, .int .i64 c.f.g, .slice c.ba c.f.b.length c.bc, .int .i64 (Lw.wd c.f), .pointer (some ⟨c.Nb,0,none⟩), .slice c.ha c.f.b.length c.hc,vg,v]
structure TY (c:LY)(W0:World):Prop where
 lt:W0.heap.size<=c.B
 hF:FL W0 c.fa c.fl c.fs
 hH:IL W0 c.ha c.f.b.length c.H
 hN:∃v0 v1 v4,kN W0 c.Nb v0 v1 (.slice c.ea c.f.b.length c.ec) (.slice c.oa c.f.b.length c.oc) v4
 hE:IL W0 c.ea c.f.b.length c.E
 hO:IL W0 c.oa c.f.b.length c.O
 hS:SL W0 c.ba c.f.b.length c.f.b
 acc:Hg.Acc c.fs c.f c.E c.O c.H
 ok:0<=c.f.a/\c.f.a<=3/\0<=c.f.l/\c.f.l<=3/\(c.f.g=0\/c.f.g=1)/\c.f.b.length<=80
 all:St.bi c.f.b=true
 val:Mn.O7 c.fs
 io:aF.isOk c.f.b=true
 eE:c.E=aF.ends c.f.b
 aa0:∀j,-1<=aF.aZ c.O j
 aa1:∀j,j<c.f.b.length->-1<=c.H.getD j 0
def Qr (p q:Nat):Value:= .func (.func 145) #[] #[.pointer (some ⟨p,0,none⟩), .pointer (some ⟨q,0,none⟩)]
def Xz (p:Nat):Value:= .func (.func 147) #[] #[.pointer (some ⟨p,0,none⟩)]
def dfA (p:Nat):Value:= .func (.func 117) #[] #[.pointer (some ⟨p,0,none⟩)]
def dfJ (p:Nat):Value:= .func (.func 144) #[] #[.pointer (some ⟨p,0,none⟩)]
def dfI (p q:Nat):Value:= .func (.func 162) #[] #[.pointer (some ⟨p,0,none⟩), .pointer (some ⟨q,0,none⟩)]
def Lp:Value->Nat
 | .slice (some a) _ _=>a.block
 |_=>0
def rz (c:LY)(st:List Int)(W:World)(D:Nat->Prop)(pv:Value)(t:Int):Prop:=
 (∃p q,pv=Qr p q/\D p/\D q/\W.cell? ⟨p,0,none⟩=some (.pointer (some ⟨c.B,0,none⟩))/\W.cell? ⟨q,0,none⟩=some (.int .i64 t))\/
 (∃p,pv=Xz p/\D p/\W.cell? ⟨p,0,none⟩=some (.int .i64 (st.getD t.toNat 0)))
def AA (c:LY)(st:List Int)(W:World)(D:Nat->Prop)(cv u:Value)(x:Ln×Int):Prop:=
 (∃p,cv=dfA p/\x.2=-1/\(1<=x.1.k/\x.1.k<=11)/\Ln.cn x.1=x.1/\D p/\W.cell? ⟨p,0,none⟩=some (JZ x.1 u)/\(x.1.k=7->∃g n k,u= .slice (some ⟨g,0,none⟩) n k/\D g/\OI W (c.B+1) u x.1.l))\/
 (∃p pv,cv=dfJ p/\x.1=⟨5,0,0,0,0,[]⟩/\(0<=x.2/\x.2<st.length)/\D p/\W.cell? ⟨p,0,none⟩=some pv/\rz c st W D pv x.2)\/
 (∃p q pv a,cv=dfI p q/\x.1=⟨6,0,a,0,0,[]⟩/\(0<=x.2/\x.2<st.length)/\D p/\D q/\W.cell? ⟨p,0,none⟩=some (.int .i64 a)/\W.cell? ⟨q,0,none⟩=some pv/\rz c st W D pv x.2)
theorem ik {W W':World}{b i:Nat}(h:W'.heap[b]?=W.heap[b]?):W'.cell? ⟨b,i,none⟩=W.cell? ⟨b,i,none⟩:=World.cell?_of_block h
theorem zn {W W':World}{n₀ e k n g m c:Nat}{xs:List Value}(h:W.ownsRow n₀ e k (.slice (some ⟨g,0,none⟩) m c) n xs)(hs:W'.heap[g]?=W.heap[g]?):W'.ownsRow n₀ e k (.slice (some ⟨g,0,none⟩) m c) n xs:=by refine⟨h.1,?_⟩;rcases h.2 with h'|⟨g',cap',cur,h',h1,h2,r⟩;{exact .inl h'};cases h';exact .inr ⟨g,_,cur,rfl,h1,hs.trans h2,r⟩
theorem rz.same {c:LY}{st:List Int}{W W':World}{D D':Nat->Prop}{pv:Value}{t:Int}(h:rz c st W D pv t)(hs:∀g,D g->W'.heap[g]?=W.heap[g]?)(hD:∀g,D g->D' g):rz c st W' D' pv t:=by rcases h with⟨p,q,e,hp,hq,h1,h2⟩|⟨p,e,hp,h1⟩;{exact .inl ⟨p,q,e,hD p hp,hD q hq,(ik (hs p hp)).trans h1,(ik (hs q hq)).trans h2⟩};exact .inr ⟨p,e,hD p hp,(ik (hs p hp)).trans h1⟩
theorem AA.same {c:LY}{st:List Int}{W W':World}{D D':Nat->Prop}{cv u:Value}{x:Ln×Int}(h:AA c st W D cv u x)(hs:∀g,D g->W'.heap[g]?=W.heap[g]?)(hD:∀g,D g->D' g):AA c st W' D' cv u x:=by rcases h with⟨p,e,h1,h2,h3,hp,h4,h5⟩|⟨p,pv,e,h1,h2,hp,h3,h4⟩|⟨p,q,pv,a,e,h1,h2,hp,hq,h3,h4,h5⟩;{refine .inl ⟨p,e,h1,h2,h3,hD p hp,(ik (hs p hp)).trans h4,fun h7=>?_⟩;obtain⟨g,n,k,rfl,hg,ho⟩:=h5 h7;exact⟨g,n,k,rfl,hD g hg,zn ho (hs g hg)⟩};{exact .inr (.inl ⟨p,pv,e,h1,h2,hD p hp,(ik (hs p hp)).trans h3,h4.same hs hD⟩)};exact .inr (.inr ⟨p,q,pv,a,e,h1,h2,hD p hp,hD q hq,(ik (hs p hp)).trans h3,(ik (hs q hq)).trans h4,h5.same hs hD⟩)
def Xw (c:LY)(st:List Int)(W:World)(v vg:Value)(out:List (Ln×Int))(P:Nat)(D:Nat->Prop)(cs us:List Value):Prop:=
 W.ownsRow (c.B+1) 89 1 v out.length cs/\cs.length=out.length/\us.length=out.length/\(∀j,j<out.length->AA c st W D (cs.getD j undef) (us.getD j undef) (out.getD j (.z,0)))/\
 (∀g,D g->c.B+1<=g/\g<W.heap.size/\v.ownBlock≠some g/\vg.ownBlock≠some g)/\
 (∀j,j<out.length->(out.getD j (.z,0)).1.k=7->Lp (us.getD j undef)<P/\∀i,i<j->(out.getD i (.z,0)).1.k=7->Lp (us.getD i undef)<Lp (us.getD j undef))
structure MY (c:LY)(st:List Int)(W0 W:World)(v vg:Value)(out:List (Ln×Int))(bg:List Int)(P:Nat):Prop where
 bQ:Below W0.heap.size W0 W
 box:bG W c.B (c.jK v vg)
 sz:c.B+1<=W.heap.size
 row:∃(D:Nat->Prop)(cs us:List Value),Xw c st W v vg out P D cs us
 EI:OI W (c.B+1) vg bg
structure FY (B:Nat)(v v':Value)(W W':World):Prop where
 os:W'.os=W.os
 tape:W'.tape=W.tape
 out:W'.output=W.output
 size:W.heap.size<=W'.heap.size
 Aq:∀i,i<W.heap.size->i≠B->v.ownBlock≠some i->W'.heap[i]?=W.heap[i]?
 v1:v'.ownBlock=v.ownBlock\/∃g,v'.ownBlock=some g/\W.heap.size<=g
theorem FY.refl (B:Nat)(v:Value)(W:World):FY B v v W W:=⟨rfl,rfl,rfl,Nat.le_refl _,fun _ _ _ _=>rfl, .inl rfl⟩
theorem FY.trans {B:Nat}{v v' v2:Value}{W W' W2:World}(h:FY B v v' W W')(k:FY B v' v2 W' W2):FY B v v2 W W2:=by refine⟨k.os.trans h.os,k.tape.trans h.tape,k.out.trans h.out,Nat.le_trans h.size k.size,fun i hi hB hv=>?_,?_⟩;{refine(k.Aq i (ak hi h.size) hB ?_).trans (h.Aq i hi hB hv);rcases h.v1 with e|⟨g,e,hge⟩;{rw[e];exact hv};rw[e];simp only[ne_eq,ah];omega};rcases k.v1 with e|⟨g,e,hge⟩;{rw[e];exact h.v1};exact .inr ⟨g,e,Nat.le_trans h.size hge⟩
theorem FY.below {B:Nat}{v:Value}{W W':World}(h:Below W.heap.size W W'):FY B v v W W':=⟨h.os,h.tape,h.output,h.size,fun i hi _ _=>h.block i hi, .inl rfl⟩
theorem MY.kept {c:LY}{st:List Int}{W0 W W':World}{v vg:Value}{out:List (Ln×Int)}{bg:List Int}{P:Nat}(h:MY c st W0 W v vg out bg P)(hB:Below W.heap.size W W'):MY c st W0 W' v vg out bg P:=by obtain⟨D,cs,us,r1,r2,r3,r4,r5,r6⟩:=h.row;exact⟨h.bQ.trans (hB.mono h.bQ.size),h.box.kept hB,Nat.le_trans h.sz hB.size,⟨D,cs,us,aG r1 hB,r2,r3,fun j hj=>(r4 j hj).same (fun g hg=>hB.block g (r5 g hg).2.1) (fun g hg=>hg),fun g hg=>⟨(r5 g hg).1,ak (r5 g hg).2.1 hB.size,(r5 g hg).2.2⟩,r6⟩,h.EI.kept hB⟩
theorem MY.tight {c:LY}{st:List Int}{W0 W:World}{v vg:Value}{out:List (Ln×Int)}{bg:List Int}{P:Nat}(h:MY c st W0 W v vg out bg P):MY c st W0 W v vg out bg W.heap.size:=by obtain⟨D,cs,us,r1,r2,r3,r4,r5,r6⟩:=h.row;refine⟨h.bQ,h.box,h.sz,⟨D,cs,us,r1,r2,r3,r4,r5,fun j hj h7=>⟨?_,(r6 j hj h7).2⟩⟩,h.EI⟩;rcases r4 j hj with⟨p,e,h1,h2,h3,hp,h4,h5⟩|⟨p,pv,e,h1,h2,hp,h3,h4⟩|⟨p,q,pv,a,e,h1,h2,hp,hq,h3,h4,h5⟩;{obtain⟨g,n,k,e,hg,ho⟩:=h5 h7;rw[e];exact(r5 g hg).2.1};{rw[h1]at h7;simp at h7};rw[h1]at h7;simp at h7
theorem iA {W W':World}{b:Nat}{v0 v1 v2 v3 v4:Value}(h:kN W b v0 v1 v2 v3 v4)(hB:Below W.heap.size W W'):kN W' b v0 v1 v2 v3 v4:=by obtain⟨h0,⟨c0,c1,c2,c3,c4⟩,f0,f1,f2,f3,f4⟩:=h;have hb:=hB.block b h0;have hc:∀i,W'.cell? ⟨b,i,none⟩=W.cell? ⟨b,i,none⟩:=fun i=>World.cell?_of_block (a:=⟨b,i,none⟩) hb;have hf:∀i,W'.frozen? ⟨b,i,none⟩=W.frozen? ⟨b,i,none⟩:=fun i=>World.frozen?_of_block (a:=⟨b,i,none⟩) hb;exact⟨ak h0 hB.size,⟨(hc 0).trans c0,(hc 1).trans c1,(hc 2).trans c2,(hc 3).trans c3,(hc 4).trans c4⟩,(hf 0).trans f0,(hf 1).trans f1,(hf 2).trans f2,(hf 3).trans f3,(hf 4).trans f4⟩
theorem TY.il {c:LY}{W0 W:World}(T:TY c W0)(hB:Below W0.heap.size W0 W):FL W c.fa c.fl c.fs/\IL W c.ha c.f.b.length c.H/\(∃v0 v1 v4,kN W c.Nb v0 v1 (.slice c.ea c.f.b.length c.ec) (.slice c.oa c.f.b.length c.oc) v4)/\IL W c.ea c.f.b.length c.E/\IL W c.oa c.f.b.length c.O/\SL W c.ba c.f.b.length c.f.b:=by obtain⟨v0,v1,v4,hb⟩:=T.hN;exact⟨T.hF.kept hB,T.hH.kept hB,⟨v0,v1,v4,iA (W:=W0) hb (hB)⟩,T.hE.kept hB,T.hO.kept hB,T.hS.kept hB⟩
theorem MY.FC {c:LY}{st:List Int}{W0 W W1 W2:World}{v vg v':Value}{out:List (Ln×Int)}{bg:List Int}{P:Nat}(K:MY c st W0 W v vg out bg P)(hW:W0.heap.size<=c.B)(hB1:Below W.heap.size W W1)(D:Nat->Prop)(cs us:List Value)(hr:Xw c st W v vg out P D cs us)(D1:Nat->Prop)(cv u:Value)(x:Ln×Int)(hx:AA c st W1 D1 cv u x)(hD1:∀g,D1 g->c.B+1<=g/\g<W1.heap.size/\v.ownBlock≠some g/\vg.ownBlock≠some g)(hP:x.1.k=7->P<=Lp u)(hrow:W2.ownsRow (c.B+1) 89 1 v' (out.length+1) (cs++[cv]))(hg:W1.grownBy W2 v.ownBlock)(hat:v'.ownBlock=v.ownBlock\/v'.ownBlock=some W1.heap.size):MY c st W0 (W2.setCell ⟨c.B,9,none⟩ v') v' vg (out++[x]) bg (W2.setCell ⟨c.B,9,none⟩ v').heap.size/\FY c.B v v' W (W2.setCell ⟨c.B,9,none⟩ v'):=by
 obtain⟨r1,r2,r3,r4,r5,r6⟩:=hr
 have vB:∀g,v.ownBlock=some g->c.B+1<=g:=fun g hg=>(aV r1 hg).1
 have gs:=aP W2 ⟨c.B,9,none⟩ v'
 have NF:=((K.box.kept hB1).eP hg (fun e=>by have:=vB c.B e;omega)).set 9 v'
 have hint:2≠89:=by decide
 have gB:∀g,vg.ownBlock=some g->c.B+1<=g:=fun g hg=>(aV K.EI hg).1
 have Ke:OI W1 (c.B+1) vg bg:=K.EI.kept hB1
 have r1':=aG r1 hB1
 have og2:OI W2 (c.B+1) vg bg:=cZ Ke hg (fun g e=>dD Ke r1' hint e)
 have og3:OI (W2.setCell ⟨c.B,9,none⟩ v') (c.B+1) vg bg:=cZ og2 gs (fun g e=>by have:=gB g e;simp only[ne_eq,ah];omega)
 have hr3:=cZ hrow gs (fun g e=>by have:=(aV hrow e).1;simp only[ne_eq,ah];omega)
 have b1:=K.bQ.trans (hB1.mono K.bQ.size)
 have b2:=bq b1 hg (fun g e=>by have:=vB g e;omega)
 have b3:=bq b2 gs (fun g e=>by cases e;exact hW)
 have pF:W1.heap.size<=(W2.setCell ⟨c.B,9,none⟩ v').heap.size:=Nat.le_trans hg.size gs.size
 have same:∀g,g<W1.heap.size->c.B+1<=g->v.ownBlock≠some g->(W2.setCell ⟨c.B,9,none⟩ v').heap[g]?=W1.heap[g]?:=fun g h1 h2 h3=>
  (gs.block g (ak h1 hg.size) (by simp only[ne_eq,ah];omega)).trans (hg.block g h1 (fun e=>h3 e.symm))
 have hv':∀g,g<W1.heap.size->v.ownBlock≠some g->v'.ownBlock≠some g:=fun g h1 h2=>by rcases hat with e|e;{rw[e];exact h2};rw[e];simp only[ne_eq,ah];omega
 have hdn:∀j,j<out.length->AA c st (W2.setCell ⟨c.B,9,none⟩ v') (fun g=>D g\/D1 g) (cs.getD j undef) (us.getD j undef) (out.getD j (.z,0)):=fun j hj=>
  (r4 j hj).same (fun g hg'=>by
   obtain⟨a1,a2,a3,-⟩:=r5 g hg'
   exact(same g (ak a2 hB1.size) a1 a3).trans (hB1.block g a2)) (fun g h=> .inl h)
 have hxn:AA c st (W2.setCell ⟨c.B,9,none⟩ v') (fun g=>D g\/D1 g) cv u x:=hx.same (fun g hg'=>by
  obtain⟨a1,a2,a3,-⟩:=hD1 g hg'
  exact same g a2 a1 a3) (fun g h=> .inr h)
 have ecs:∀j,j<out.length->(cs++[cv]).getD j undef=cs.getD j undef:=fun j hj=>by rw[ai,List.getElem?_append_left (by omega),←ai]
 have WE:∀j,j<out.length->(us++[u]).getD j undef=us.getD j undef:=fun j hj=>by rw[ai,List.getElem?_append_left (by omega),←ai]
 have WG:∀j,j<out.length->(out++[x]).getD j (.z,0)=out.getD j (.z,0):=fun j hj=>by rw[ai,List.getElem?_append_left hj,←ai]
 have ecl:(cs++[cv]).getD out.length undef=cv:=by rw[ai,List.getElem?_append_right (by omega),r2];simp
 have eul:(us++[u]).getD out.length undef=u:=by rw[ai,List.getElem?_append_right (by omega),r3];simp
 have eol:(out++[x]).getD out.length (.z,0)=x:=by rw[ai,List.getElem?_append_right (Nat.le_refl _)];simp
 have hub:x.1.k=7->Lp u<W1.heap.size:=fun h7=>by rcases hx with⟨p,e,h1,h2,h3,hp,h4,h5⟩|⟨p,pv,e,h1,h2,hp,h3,h4⟩|⟨p,q,pv,a,e,h1,h2,hp,hq,h3,h4,h5⟩;{obtain⟨g,n,k,rfl,hg',ho⟩:=h5 h7;exact(hD1 g hg').2.1};{rw[h1]at h7;simp at h7};rw[h1]at h7;simp at h7
 have Kh:∀j,j<out.length->(out.getD j (.z,0)).1.k=7->Lp (us.getD j undef)<W1.heap.size:=fun j hj h7=>by rcases r4 j hj with⟨p,e,h1,h2,h3,hp,h4,h5⟩|⟨p,pv,e,h1,h2,hp,h3,h4⟩|⟨p,q,pv,a,e,h1,h2,hp,hq,h3,h4,h5⟩;{obtain⟨g,n,k,e,hg',ho⟩:=h5 h7;rw[e];exact ak (r5 g hg').2.1 hB1.size};{rw[h1]at h7;simp at h7};rw[h1]at h7;simp at h7
 refine⟨⟨b3,NF,?_,⟨fun g=>D g\/D1 g,cs++[cv],us++[u],?_,?_,?_,fun j hj=>?_,fun g hg'=>?_,fun j hj h7=>?_⟩,og3⟩,⟨(gs.os.trans hg.os).trans hB1.os,(gs.tape.trans hg.tape).trans hB1.tape,(gs.output.trans hg.output).trans hB1.output,Nat.le_trans hB1.size pF,fun i hi hb hv=>?_,?_⟩⟩
 · exact Nat.le_trans K.sz (Nat.le_trans hB1.size pF)
 · rw[List.length_append,List.length_singleton];exact hr3
 · rw[List.length_append,List.length_append,r2];rfl
 · rw[List.length_append,List.length_append,r3];rfl
 · rw[List.length_append,List.length_singleton]at hj;by_cases hjl:j<out.length;{rw[ecs j hjl,WE j hjl,WG j hjl];exact hdn j hjl};have ej:j=out.length:=by{omega};subst ej;rw[ecl,eul,eol];exact hxn
 · rcases hg' with h|h;{obtain⟨a1,a2,a3,a4⟩:=r5 g h;exact⟨a1,ak a2 (Nat.le_trans hB1.size pF),hv' g (ak a2 hB1.size) a3,a4⟩};obtain⟨a1,a2,a3,a4⟩:=hD1 g h;exact⟨a1,ak a2 pF,hv' g a2 a3,a4⟩
 · rw[List.length_append,List.length_singleton]at hj;by_cases hjl:j<out.length;{rw[WG j hjl]at h7;rw[WE j hjl];refine⟨ak (Kh j hjl h7) pF,fun i hi I9=>?_⟩;rw[WG i (by omega)]at I9;rw[WE i (by omega)];exact(r6 j hjl h7).2 i hi I9};have ej:j=out.length:=by{omega};subst ej;rw[eol]at h7;rw[eul];refine⟨ak (hub h7) pF,fun i hi I9=>?_⟩;rw[WG i hi]at I9;rw[WE i hi];exact ak (r6 i hi I9).1 (hP h7)
 · exact(gs.block i (ak hi (Nat.le_trans hB1.size hg.size)) (by simpa using hb)).trans ((hg.block i (ak hi hB1.size) (fun e=>hv e.symm)).trans (hB1.block i hi))
 · rcases hat with e|e;{exact .inl e};exact .inr ⟨_,e,hB1.size⟩
end Go.Proofs.YtellfmhljjdjbaaGreatDoor
