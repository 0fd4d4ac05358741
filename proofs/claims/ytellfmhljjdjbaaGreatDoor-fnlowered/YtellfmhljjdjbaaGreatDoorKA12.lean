/-
  Own texts for a law: Low6 Phi Phi2 Phi3 LowR
-/
import Derived.Test.YtellfmhljjdjbaaGreatDoorKA09
namespace Go.Proofs.YtellfmhljjdjbaaGreatDoor
open Go.RowKit Go.Shelf
set_option linter.all false
set_option maxRecDepth 100000
set_option maxHeartbeats 16000000
theorem Lw.GJ {c:LX}{W0:World}(T:TX c W0){at':Nat}(hat:at'<c.f.b.length)(h:aF.op c.f.b at'=16):0<=Hg.arg c.f.b at':=by have hok:St.ok (aF.op c.f.b at') (Hg.arg c.f.b at')=true:=St.aT T.all hat;simp only[St.ok,ax,Wd.bB]at hok;have h1:St.least (aF.op c.f.b at')=0:=by{rw[h];rfl};omega
def Lw.iP (t n:Int)(k:Nat):List Int:=(List.range k).map fun(i:Nat)=>t-n+1+(i:Int)
theorem Lw.yO (t n:Int)(k:Nat):Lw.iP t n (k+1)=Lw.iP t n k++[t-n+1+(k:Int)]:=by unfold Lw.iP;rw[List.range_succ,List.map_append];rfl
theorem MZ {W:World}{a:Option Addr}{n k:Nat}{fs:List Fn}(h:FL W a n fs)(hk:k<n):∃b off,a=some ⟨b,off,none⟩/\b<W.heap.size/\∃ba bl bc,W.cell? ⟨b,off+k*4,none⟩=some (.int .i64 (fs.getD k .z).a)/\W.cell? ⟨b,off+k*4+1,none⟩=some (.int .i64 (fs.getD k .z).l)/\W.cell? ⟨b,off+k*4+2,none⟩=some (.int .i64 (fs.getD k .z).g)/\W.cell? ⟨b,off+k*4+3,none⟩=some (.slice ba bl bc):=by obtain⟨hl,hm,h0|⟨b,off,e,hb,hx⟩⟩:=h;{omega};obtain⟨x0,x1,x2,ba,bl,bc,x3,-⟩:=hx k hk;exact⟨b,off,e,hb,ba,bl,bc,x0,x1,x2,x3⟩
theorem QM {c:LX} {W0 W:World} {v vg:Value} {out:List (Ln×Int)} {P:Nat->Prop} (T:TX c W0) (K:MK c W0 W v vg out P) (fa:Option Addr) (fl fc:Nat) (d:ByteArray) (oa:Option Addr) (oc:Nat) (hF:FL W0 fa fl c.fs) (hO:IL W0 oa c.f.b.length c.O) (at':Nat) (hat:at'<c.f.b.length) (hr:0<=c.H.getD at' 0) (hlen:out.length<=900) (p:Int) (hp:aF.op c.f.b at'=p) (hk:Hid (p=16)):Calls Tryz.prog 66 #[.pointer (some ⟨c.B,0,none⟩), .agg #[.slice fa fl fc, .string d], .slice oa c.f.b.length oc, .int .i64 at'] W fun e w'=>∃v' jI,e= .returned (.tuple #[])/\MK c W0 w' v' jI (out++Lw.step c.fs c.f c.E c.O c.H at') (fun g=>P g\/W.heap.size<=g)/\FX c v vg v' jI W w':=by
 have hty:=T.acc.typ at' hat hr
 obtain⟨hH,hE,hS⟩:=T.il K
 have Dj:=hO.kept K.bQ
 have hF1:=hF.kept K.bQ
 have hLen:=T.ok.2.2.2.2.2
 have htop:=T.acc.dH at' hat
 have hW:=T.lt
 have hwd:0<=Lw.wd c.f/\Lw.wd c.f<=6:=by have:=T.ok;unfold Lw.wd;omega
 have HST:Hid (Lw.step c.fs c.f c.E c.O c.H at'=Lw.DJ c.fs c.f c.E c.O c.H at' p (Hg.arg c.f.b at') (Lw.bx c.f (c.H.getD at' 0-1))):=by show _=_;unfold Lw.step;rw[hp]
 have hbx0:=K.box
 unfold LX.jK at hbx0
 obtain⟨bl,hbl⟩:∃n,c.f.b.length=n:=⟨_,rfl⟩
 rw[hbl]at hH hE hS Dj hLen hat hbx0 ⊢
 have UK:(at':Int)<(bl:Int):=by omega
 have cS:∃b o,c.ba=some ⟨b,o,none⟩/\b<W.heap.size/\W.cell? ⟨b,o+at'*2,none⟩=some (.int .i64 (aF.op c.f.b at'))/\W.cell? ⟨b,o+at'*2+1,none⟩=some (.int .i64 (Hg.arg c.f.b at')):=by obtain⟨hl,-,h3|⟨b,o,e,hb,hh⟩⟩:=hS;{omega};exact⟨b,o,e,hb,(hh at' hat).1,(hh at' hat).2⟩
 obtain⟨sb,so,es,lS,EH,cS2⟩:=cS
 have cH:∃b o,c.ha=some ⟨b,o,none⟩/\b<W.heap.size/\W.cell? ⟨b,o+at',none⟩=some (.int .i64 (c.H.getD at' 0)):=by obtain⟨hl,-,h3|⟨b,o,e,hb,hh⟩⟩:=hH;{omega};exact⟨b,o,e,hb,hh at' hat⟩
 obtain⟨hb',ho',eh,lH,cH⟩:=cH
 have cE:∃b o,c.ea=some ⟨b,o,none⟩/\b<W.heap.size/\W.cell? ⟨b,o+at',none⟩=some (.int .i64 (aF.aZ c.E at')):=by obtain⟨hl,-,h3|⟨b,o,e,hb,hh⟩⟩:=hE;{omega};refine⟨b,o,e,hb,?_⟩;rw[hh at' hat];unfold aF.aZ;rw[ai,ai,aj (by omega)];rfl
 obtain⟨eb,eo,ee,lE,cE⟩:=cE
 have cO:∃b o,oa=some ⟨b,o,none⟩/\b<W.heap.size/\W.cell? ⟨b,o+at',none⟩=some (.int .i64 (aF.aZ c.O at')):=by obtain⟨hl,-,h3|⟨b,o,e,hb,hh⟩⟩:=Dj;{omega};refine⟨b,o,e,hb,?_⟩;rw[hh at' hat];unfold aF.aZ;rw[ai,ai,aj (by omega)];rfl
 obtain⟨ob,oo,rfl,lO,cO⟩:=cO
 rw[hp]at EH
 obtain⟨q,hq⟩:∃q,Hg.arg c.f.b at'=q:=⟨_,rfl⟩
 obtain⟨u,hu⟩:∃u,c.H.getD at' 0=u:=⟨_,rfl⟩
 rw[hq]at cS2 HST
 rw[hu]at cH htop hr HST
 have d2:=(hbx0.2 2 _ rfl).1
 have d3:=(hbx0.2 3 _ rfl).1
 have d4:=(hbx0.2 4 _ rfl).1
 have d5:=(hbx0.2 5 _ rfl).1
 have H8:=hbx0.1
 rw[eh]at d3
 rw[ee]at d4
 rw[es]at d5
 have hB1:=aB W (.cells #[.slice fa fl fc, .string d] 26)
 have hA1:ny (W.alloc (.cells #[.slice fa fl fc, .string d] 26)) W.heap.size 26 [.slice fa fl fc, .string d]:=heap_alloc_last W _
 obtain⟨W1,hW1⟩:∃X,W.alloc (.cells #[.slice fa fl fc, .string d] 26)=X:=⟨_,rfl⟩
 rw[hW1]at hB1 hA1
 have hB2:=aB W1 (.cells #[.int .i64 (p), .int .i64 q] 121)
 have hA2:ny (W1.alloc (.cells #[.int .i64 (p), .int .i64 q] 121)) W1.heap.size 121 [.int .i64 (p), .int .i64 q]:=heap_alloc_last W1 _
 obtain⟨W2,hW2⟩:∃X,W1.alloc (.cells #[.int .i64 (p), .int .i64 q] 121)=X:=⟨_,rfl⟩
 rw[hW2]at hB2 hA2
 have hB:=hB1.trans (hB2.mono hB1.size)
 have K2:=K.kept hB
 have qR:=hA1.kept hB2
 have hcon:=jR T K2 (u-1) (by omega) (by omega)
 have UL:-1<=Lw.bx c.f (u-1)/\Lw.bx c.f (u-1)<=26:=by unfold Lw.bx;omega
 obtain⟨tt,zZ⟩:∃tt,Lw.bx c.f (u-1)=tt:=⟨_,rfl⟩
 rw[zZ]at hcon UL HST
 have c3:=aU hB1 d3
 have k3:=aU hB d3
 have k4:=aU hB d4
 have c5:=aU hB1 d5
 have c6:=aU hB1 EH
 have c7:=aU hB1 cS2
 have c8:=aU hB cH
 have uA:=aU hB cE
 have uB:=aU hB cO
 have k2:=aU hB d2
 have s0:=hA2.cell (j:=0) rfl
 have s1:=hA2.cell (j:=1) rfl
 have m0:=qR.cell (j:=0) rfl
 have F0:FX c v vg v vg W W2:=FX.below hB
 have hF2:=hF1.kept hB
 have HQ:=af (au hp (au hq (au hbl (au hu hty))))
 clear hH hE hS hO Dj hF hF1 d2 d3 d4 d5 EH cS2 cH cE cO hbx0 hA1 hB1 hB2 K hu zZ hp hq hbl
 go_enter Tryz.func66,Tryz.ntmps66
 go_wp2_with fail
 refine hcon.mono ?_
 rintro e w3 ⟨rfl,aR⟩
 subst w3
 dsimp only
 clear hcon
 obtain rfl:=hk.out
 have hq0:0<=q:=by have:=Lw.GJ T (at':=at') (by rw[HQ.out.2.2.1];exact hat) HQ.out.1;rw[HQ.out.2.1]at this;exact this
 have hq1:q<c.fs.length:=by have:=HQ.out.2.2.2.2.call HQ.out.1;rw[HQ.out.2.1]at this;exact this
 have hfl:c.fs.length=fl:=hF2.1
 obtain⟨qn,rfl⟩:=Int.eq_ofNat_of_zero_le hq0
 have hqn:qn<fl:=by omega
 have hqZ:(qn:Int)<(fl:Int):=by omega
 obtain⟨fb,fo,rfl,lF,WH,WI,WJ,y0,y1,y2,y3⟩:=MZ hF2 hqn
 have yz:=Mn.nK T.val (k:=qn) (by omega)
 have tY:fl<=4:=by have:=T.val.len.2;omega
 unfold Mn.fn at yz
 obtain⟨G,hG⟩:∃G,c.fs.getD qn .z=G:=⟨_,rfl⟩
 rw[hG]at yz y0 y1 y2
 replace HST:Hid (Lw.step c.fs c.f c.E c.O c.H at'=[(⟨7,if G.g=1 then tt-G.a+1 else Lw.wd c.f+20,0,0,qn,Lw.args tt G.a⟩,-1)]):=by show _=_;rw[HST.out];show[((⟨7,if(c.fs.getD (qn:Int).toNat .z).g=1 then _ else _,0,0,_,Lw.args tt (c.fs.getD (qn:Int).toNat .z).a⟩:Ln),(-1:Int))]=_;rw[aA,hG]
 obtain⟨ga,hga⟩:∃ga:Nat,G.a=(ga:Int):=Int.eq_ofNat_of_zero_le yz.1
 have agI:ga<=3:=by omega
 obtain⟨gg,hgg⟩:∃gg,G.g=gg:=⟨_,rfl⟩
 have Km:gg=0\/gg=1:=by rw[←hgg];exact yz.2.2.2.2.1
 obtain⟨gl,hgl⟩:∃gl,G.l=gl:=⟨_,rfl⟩
 have HAR:Hid (Lw.args tt G.a=Lw.iP tt ga ga):=by show _=_;rw[hga];rfl
 rw[hga]at y0 HST HAR
 rw[hgg]at y2 HST
 rw[hgl]at y1
 obtain⟨NN,UN⟩:∃NN,Lw.wd c.f=NN:=⟨_,rfl⟩
 rw[UN]at k2 hwd HST
 have hBG:=aB W2 (.cells #[.int .i64 (ga:Int), .int .i64 gl, .int .i64 gg, .slice WH WI WJ] 33)
 have hAG:ny (W2.alloc (.cells #[.int .i64 (ga:Int), .int .i64 gl, .int .i64 gg, .slice WH WI WJ] 33)) W2.heap.size 33 [.int .i64 (ga:Int), .int .i64 gl, .int .i64 gg, .slice WH WI WJ]:=heap_alloc_last W2 _
 obtain⟨W3,hW3⟩:∃X,W2.alloc (.cells #[.int .i64 (ga:Int), .int .i64 gl, .int .i64 gg, .slice WH WI WJ] 33)=X:=⟨_,rfl⟩
 rw[hW3]at hBG hAG
 have j2:=aU hBG k2
 have t1:=aU hBG s1
 have hlB:c.B<W3.heap.size:=ak K2.sz hBG.size
 have hlS:=(hA2.kept hBG).lt
 have HKK:=af (au (K2.kept hBG) (au (F0.trans (FX.below (c:=c) (v:=v) (vg:=vg) hBG)) hAG))
 clear c3 k3 k4 c5 c6 c7 c8 uA uB qR hW1 hW2 hty hF2 hG hga hgg hgl UN yz hfl K2 F0 hB hA2
 go_wp2
 go_region
 all_goals
  clear j2 t1 y0 y1 y2 y3 k2 s0 s1 m0
  have NP:=aB W3 (.cells #[.int .i64 7, .int .i64 (NN+20), .int .i64 0, .int .i64 0, .int .i64 qn, .slice none 0 0] 41)
  have hBL:=NP.trans ((Below.refl _ _).drew.mono NP.size)
  have hAL:ny (W3.alloc (.cells #[.int .i64 7, .int .i64 (NN+20), .int .i64 0, .int .i64 0, .int .i64 qn, .slice none 0 0] 41)).drew W3.heap.size 41 [.int .i64 7, .int .i64 (NN+20), .int .i64 0, .int .i64 0, .int .i64 qn, .slice none 0 0]:=heap_alloc_last W3 _
  obtain⟨i0,hi,hz0,hz1,hz2⟩:=info_parts dA
  have HS:=af (au hAL hBL)
  clear NP hAL hBL hW3
  go_wp2
  go_loopw [20] (fun vi wr=>∃(k:Nat)(lv:Value),vi= .int .i64 k/\k<=ga/\ny wr W3.heap.size 41 [.int .i64 7, .int .i64 (NN+20), .int .i64 0, .int .i64 0, .int .i64 qn,lv]/\OI wr (W3.heap.size+1) lv (Lw.iP tt ga k)/\Below W3.heap.size W3 wr) (fun i _=>ga-(intOf i).toNat)
  case atStart=>exact⟨0,_,rfl,Nat.zero_le _,HS.out.1,OI.nil _ _,HS.out.2⟩
  case round=>
   obtain⟨k,lv,rfl,hk,hAr,hol,hBr⟩:=hrel
   clear HS
   have WK:=HKK.out.2.2.kept hBr
   have g0:=WK.cell (j:=0) rfl
   have g2:=WK.cell (j:=2) rfl
   have hll:(Lw.iP tt ga k).length=k:=by unfold Lw.iP;simp
   have EJ:wr.ownsRow (W3.heap.size+1) 2 1 lv k ((Lw.iP tt ga k).map iv):=by unfold OI at hol;rwa [hll]at hol
   obtain⟨la,lc,rfl⟩:=bf EJ
   have EK:∀g,(Value.slice la k lc).ownBlock=some g->W3.heap.size+1<=g:=fun g hg=>(aV EJ hg).1
   have a5:=hAr.cell (j:=5) rfl
   have al:=hAr.lt
   by_cases hlt:k<ga
   · have ja:(k:Int)<(ga:Int):=by{omega};obtain⟨y,hy⟩:∃y,tt-(ga:Int)+1+(k:Int)=y:=⟨_,rfl⟩;have HY:=af hy;clear hy;have tT:=aB wr (.cells #[.int .i64 (tt-(ga:Int)+1+(k:Int))] 2);have HO:=af (aG EJ tT);have HA:=af (hAr.kept tT);have HBr:=af (hBr.trans (tT.mono hBr.size));have Cg:=hBr.size;clear tT hol EJ hAr hBr WK hll;go_wp2_with(at_builtin;refine wpList_append_own _ rfl _ _ 39 rfl (W3.heap.size+1) 2 i0 (.int .i64 0) 1 8 Tryz.underlying39 hi hz0 hz1 hz2 rfl (by decide) (.slice la k lc) k _ rfl HO.out ⟨wr.heap.size,0,none⟩ 1 1 [.int .i64 (tt-(ga:Int)+1+(k:Int))] rfl rfl (cell_one_new _ _ _) (by simp[Value.oneCell']) (by simp only[maxLen];omega) (by omega) (by simp;omega) ?_;intro v2 wB hown2 hgrow2 _;obtain⟨g2',cap2,rfl⟩:=ownsRow_succ hown2;have hA3:=HA.out.eP hgrow2 (fun e=>by have:=EK W3.heap.size e.symm;omega);have b5:=hA3.cell (j:=5) rfl;have f5:=hA3.frozen 5;have l5:=hA3.lt;have fE:=af (au hown2 (au hgrow2 hA3));clear hown2 hgrow2 hA3);go_roundw;(case rel=>obtain⟨o1,o2,o3⟩:=fE.out;have gs:=aP wB ⟨W3.heap.size,5,none⟩ (.slice (some ⟨g2',0,none⟩) (k+1) cap2);refine⟨k+1,_,by simp,hlt,o3.set 5 _,?_,?_⟩;{show World.ownsRow _ _ _ _ _ _ _;rw[Lw.yO,List.map_append,List.length_append,List.length_singleton,show(Lw.iP tt ga k).length=k by unfold Lw.iP;simp];exact cZ o1 gs (fun g e=>by have:=(aV o1 e).1;simp only[ne_eq,ah];omega)};exact bq (bq HBr.out o2 (fun g e=>by have:=EK g e;omega)) gs (fun g e=>by cases e;exact Nat.le_refl _));case measure=>simp[intOf];omega
   · have hke:k=ga:=by omega
     subst hke
     have ja:¬(k:Int)<(k:Int):=by omega
     have HX:=af (au (HKK.out.1.kept hBr) (HKK.out.2.1.trans (FX.below (c:=c) (v:=v) (vg:=vg) hBr)))
     have HBr:=af hBr
     have WL:=af EJ
     have HAr:=af hAr
     have a0:=hAr.cell (j:=0) rfl
     have a1:=hAr.cell (j:=1) rfl
     have a2:=hAr.cell (j:=2) rfl
     have a3:=hAr.cell (j:=3) rfl
     have a4:=hAr.cell (j:=4) rfl
     have q1:=hAr.frozen 1
     have hKs:=HKK.out.1.zX
     have UO:∀g,vg.ownBlock=some g->g<W3.heap.size:=fun g e=>(aV hKs e).2
     have hB3:c.B+1<=W3.heap.size:=HKK.out.1.sz
     have hWW:=HKK.out.2.1.size
     clear hol EJ hAr hBr WK hKs
     rcases Km with rfl|rfl
     · have hadd:=aQ c W0 wr v vg out (fun g=>P g\/W.heap.size<=g) hW (HX.out.1.gL (fun g h=> .inl h)) ⟨7,NN+20,0,0,qn,Lw.iP tt k k⟩ la k lc (by
        show World.ownsRow _ _ _ _ _ _ _
        rw[hll]
        refine⟨WL.out.1,?_⟩
        rcases WL.out.2 with h'|⟨g',cap',cur,h',hb,r⟩
        · exact .inl h'
        · exact .inr ⟨g',cap',cur,h',by omega,r⟩) (fun g e=>⟨fun e2=>by have:=EK g e;have:=UO g e2;omega, .inr (by have:=EK g e;omega)⟩) (-1) (by omega)
       go_wp2_with fail
       refine hadd.mono ?_
       rintro e X1 ⟨v1,jG,rfl,K1,F1⟩
       dsimp only
       have G1:=HX.out.2.trans F1
       clear hadd a0 a1 a2 a3 a4 a5 g0 g2
       go_wp2
       (try simp only[Exit.inBlock,Exit.then])
       refine bodyPost_end (results_none rfl _ _ _) rfl ⟨v1,jG,rfl,?_,G1⟩
       rw[HST.out,HAR.out]
       exact K1
     · have gs:=aP wr ⟨W3.heap.size,1,none⟩ (.int .i64 (tt-(k:Int)+1))
       have hAs:=HAr.out.set 1 (.int .i64 (tt-(k:Int)+1))
       have hBs:=bq HBr.out gs (fun g e=>by cases e;exact Nat.le_refl _)
       have hos:=cZ WL.out gs (fun g e=>by have:=(aV WL.out e).1;simp only[ne_eq,ah];omega)
       obtain⟨ws,hws⟩:∃ws,wr.setCell ⟨W3.heap.size,1,none⟩ (.int .i64 (tt-(k:Int)+1))=ws:=⟨_,rfl⟩
       rw[hws]at hAs hBs hos
       have b0:=hAs.cell (j:=0) rfl
       have b1:=hAs.cell (j:=1) rfl
       have b2:=hAs.cell (j:=2) rfl
       have b3:=hAs.cell (j:=3) rfl
       have b4:=hAs.cell (j:=4) rfl
       have b5:=hAs.cell (j:=5) rfl
       have hKx:=HKK.out.1.kept hBs
       have z8:=HKK.out.2.1.trans (FX.below (c:=c) (v:=v) (vg:=vg) hBs)
       have hadd:=aQ c W0 ws v vg out (fun g=>P g\/W.heap.size<=g) hW (hKx.gL (fun g h=> .inl h)) ⟨7,tt-(k:Int)+1,0,0,qn,Lw.iP tt k k⟩ la k lc (by
        show World.ownsRow _ _ _ _ _ _ _
        rw[hll]
        refine⟨hos.1,?_⟩
        rcases hos.2 with h'|⟨g',cap',cur,h',hb,r⟩
        · exact .inl h'
        · exact .inr ⟨g',cap',cur,h',by omega,r⟩) (fun g e=>⟨fun e2=>by have:=EK g e;have:=UO g e2;omega, .inr (by have:=EK g e;omega)⟩) (-1) (by omega)
       go_wp2_with fail
       refine hadd.mono ?_
       rintro e X1 ⟨v1,jG,rfl,K1,F1⟩
       dsimp only
       have G1:=z8.trans F1
       clear hadd a0 a1 a2 a3 a4 a5 g0 g2 b0 b1 b2 b3 b4 b5 hws
       go_wp2
       (try simp only[Exit.inBlock,Exit.then])
       refine bodyPost_end (results_none rfl _ _ _) rfl ⟨v1,jG,rfl,?_,G1⟩
       rw[HST.out,HAR.out]
       exact K1
section
open Go.RowKit
variable {P : Program} {ops : Array Oper} {md : Region.Mode} {Q : Exit → Act → World → Prop} {n : Nat}
theorem aC {b:Act}{t:Nat}{v:Value}(h:b.eval (.tmp t)=v):b.tmps[t]?.getD undef=v:=by simpa[Act.eval]using h
def zg (n:Nat)(l:Array Bool):Nat:=((List.range n).filter fun i=> !l.getD i true).length
theorem jr (n:Nat)(l:Array Bool):zg (n+1) l=zg n l+(if l.getD n true=false then 1 else 0):=by unfold zg;rw[List.range_succ,List.filter_append,List.length_append];congr 1;cases h:l.getD n true<;>simp only[List.filter,h]<;>rfl
theorem sI {i:Nat}{l:Array Bool}:∀n,n<=i->zg n (l.setIfInBounds i true)=zg n l
 |0,_=>rfl
 |n+1,h=>by rw[jr,jr,sI n (by omega),getD_set_ne true (by omega)]
theorem xc {i:Nat}{l:Array Bool}(hs:l.getD i true=false):∀n,i<n->zg n (l.setIfInBounds i true)+1=zg n l
 |0,h=>by omega
 | n + 1,h=>by
   rw[jr,jr]
   by_cases e:i=n
   · subst e
     rw[sI i (Nat.le_refl _),hs]
     have hi:i<l.size:=by
       rcases Nat.lt_or_ge i l.size with h'|h'
       · exact h'
       · simp[Array.getElem?_eq_none h']at hs
     have e2:(l.setIfInBounds i true).getD i true=true:=by simp[hi]
     rw[e2]
     simp
   · rw[←xc hs n (by omega),getD_set_ne true e]
     omega
theorem o5 {l:Array Bool}(h:zg n l=0)(i:Nat)(hi:i<n):l.getD i true=true:=by unfold zg at h;have h2:=List.filter_eq_nil_iff.1 (List.length_eq_zero_iff.1 h) i (List.mem_range.2 hi);simpa using h2
theorem CO {l:Array Bool}(h:zg n l≠0):∃i,i<n/\l.getD i true=false/\∀j,j<i->l.getD j true=true:=by
 induction n with
 |zero=>exact absurd rfl h
 |succ n ih=>
  by_cases e:zg n l=0
  · rw[jr,e]at h;refine⟨n,by omega,?_,fun j hj=>o5 e j hj⟩;cases h2:l.getD n true;{rfl};rw[h2]at h;simp at h
  · obtain⟨i,h1,h2,h3⟩:=ih e;exact⟨i,by omega,h2,h3⟩
theorem Ey (g:Nat)(I:Array Bool->Act->World->Prop)(hs:Region.sinkB md ops n=true)(hc:Region.chainB md ops n=true)(hn:n<ops.size)(hback:∀i o,i<n->ops[i]?=some o->∀e∈o.after,Region.binds md e=true->e.on<i)(hstep:∀l b x i o,HeadInv md ops n l->ops[i]?=some o->i<n->l.getD i true=false->(∀e∈o.after,Region.binds md e=true->l.getD e.on false=true)->I l b x->wpOp P ops Q i (fun b' x'=>I (l.setIfInBounds i true) b' x') b x)(hend:∀l b x,HeadInv md ops n l->(∀i,i<n->l.getD i true=true)->I l b x->wpAny P md ops Q g l b x):∀f l b x,HeadInv md ops n l->zg n l=f->I l b x->wpAny P md ops Q (f+g) l b x:=by
 intro f
 induction f with
 |zero=>intro l b x inv hu hI;rw[Nat.zero_add];exact hend l b x inv (fun i hi=>o5 hu i hi) hI
 |succ f ih=>
  intro l b x inv hu hI
  rw[show f+1+g=(f+g)+1 by omega]
  obtain⟨i,hin,hun,hmin⟩:=CO (l:=l) (n:=n) (by omega)
  refine⟨fun h0=>?_,fun j hj=>?_⟩
  · have ho:∃o,ops[i]?=some o:=⟨ops[i]'(by omega),Array.getElem?_eq_getElem (by omega)⟩
    obtain⟨o,ho⟩:=ho
    have:i∈Region.ready md ops l:=mem_ready.2 ⟨hun,o,ho,fun e he hbi=>by
     have h1:=hback i o hin ho e he hbi
     have h2:=hmin e.on h1
     have h3:e.on<l.size:=by rw[inv.size];omega
     simp[h3]at h2 ⊢
     exact h2⟩
    rw[h0]at this
    cases this
  · have hjn:=ku hs hc hn inv hin hun hj;obtain⟨hjun,o,ho,hall⟩:=mem_ready.1 hj;refine wpOp_mono (fun b' x' h'=>ih _ b' x' (inv.set hj hjn) ?_ h') (hstep l b x j o inv ho hjn hjun hall hI);have:=xc hjun n hjn;omega
def La (l:List Oper)(n:Nat)(ds:List Nat):Bool:=
 decide (ds.length=n)&&ds.Nodup&&(List.range n).all fun i=>match l[i]? with
   |some o=>o.dst==ds[i]?&&o.guard.isNone&&o.after.all fun e=> !Region.binds .any e||decide (e.on<i)
   |none=>false
def Ea (size n:Nat):Array Bool:=((List.replicate n true)++List.replicate (size-n) false).toArray
def Li (P:Program)(Q:Exit->Act->World->Prop)(a:Act)(ds:List Nat)(A:World->Prop)(R:World->World->Prop)(F:Nat->Value->World->Prop)(k:Nat)(o:Oper):Prop:=
 ∀ (b:Act) (x:World),A x->(∀t,t∉ds->b.eval (.tmp t)=a.eval (.tmp t))->(∀j,(o.after.any fun e=>Region.binds .any e&&e.on==j)=true->F j (b.eval (.tmp (ds.getD j 0))) x)->
   o.wp P b x (fun b' x'=>∃y,b'=b.put o.dst y/\A x'/\F k y x'/\R x x') Q
def tF (P:Program)(Q:Exit->Act->World->Prop)(a:Act)(ds:List Nat)(A:World->Prop)(R:World->World->Prop)(F:Nat->Value->World->Prop):Nat->List Oper->Prop
 |_,[]=>True
 |k,o::r=>Li P Q a ds A R F k o/\tF P Q a ds A R F (k+1) r
theorem tF.at {a:Act}{ds:List Nat}{A:World->Prop}{R:World->World->Prop}{F:Nat->Value->World->Prop}:∀{r:List Oper}{k:Nat},tF P Q a ds A R F k r->∀i o,r[i]?=some o->Li P Q a ds A R F (k+i) o
 |[],_,_,i,o,h=>by simp at h
 |q::r,k,h,0,o,e=>by cases e;exact h.1
 | q::r,k,h,i+1,o,e=>by
   have:=tF.at h.2 i o (by simpa using e)
   rwa [show k+1+i=k+(i+1)by omega]at this
theorem oD (b:Act)(d:Nat)(v:Value)(t:Nat)(hd:d<b.tmps.size):(b.put (some d) v).eval (.tmp t)=if d=t then v else b.eval (.tmp t):=by unfold Act.put Act.eval;by_cases e:d=t;{subst e;simp[hd]};simp[Array.getElem?_setIfInBounds_ne e,e]
theorem pV (f:Nat->Value):∀(ds:List Nat)(a:Act),(ds.foldl (fun a' t=>a'.put (some t) (f t)) a).tmps.size=a.tmps.size/\(ds.foldl (fun a' t=>a'.put (some t) (f t)) a).defers=a.defers/\
   ∀t,(ds.foldl (fun a' t=>a'.put (some t) (f t)) a).tmps[t]?=if t∈ds/\t<a.tmps.size then some (f t)else a.tmps[t]?
 |[],a=>⟨rfl,rfl,fun t=>by simp⟩
 | d ::ds,a=>by
   obtain⟨h1,h2,h3⟩:=pV f ds (a.put (some d) (f d))
   have s1:(a.put (some d) (f d)).tmps.size=a.tmps.size:=by simp[Act.put]
   refine⟨by rw[List.foldl_cons,h1,s1],by rw[List.foldl_cons,h2];rfl,fun t=>?_⟩
   rw[List.foldl_cons,h3 t,s1]
   by_cases e:t∈ds/\t<a.tmps.size
   · rw[az e,az ⟨List.mem_cons_of_mem _ e.1,e.2⟩]
   · rw[ay e]
     by_cases e2:t=d
     · subst e2
       by_cases e3:t<a.tmps.size
       · rw[az ⟨List.mem_cons_self ..,e3⟩]
         simp[Act.put,e3]
       · rw[ay (fun h=>e3 h.2)]
         have h4:a.tmps[t]?=none:=Array.getElem?_eq_none (by omega)
         have h5:(a.put (some t) (f t)).tmps[t]?=none:=Array.getElem?_eq_none (by rw[s1];omega)
         rw[h4,h5]
     · rw[ay (fun h=>by rcases List.mem_cons.1 h.1 with h'|h';exact e2 h';exact e ⟨h',h.2⟩)]
       simp[Act.put,Array.getElem?_setIfInBounds_ne (Ne.symm e2)]
theorem cz {id:Nat}{a:Act}{w:World}{l:List Oper}(n:Nat)(ds:List Nat)(A:World->Prop)(R:World->World->Prop)(F:Nat->Value->World->Prop)(hm:P.follows .mixedOrders=true)(hB:(Region.noSelect l.toArray&&decide (n<l.length)&&Region.sinkB .any l.toArray n&&Region.chainB .any l.toArray n&&La l n ds&&Region.seqB .any l.toArray (l.length-n) n (Ea l.length n))=true)(hsz:∀d∈ds,d<a.tmps.size)(h0:A w.drew)(hR:∀i y x x',R x x'->F i y x->F i y x')(hall:tF P Q a ds A R F 0 (l.take n))(hend:∀b x,A x->(∀j,j<n->F j (b.eval (.tmp (ds.getD j 0))) x)->b=ds.foldl (fun a' t=>a'.put (some t) (b.eval (.tmp t))) a->wpList P l.toArray Q (l.drop n) b x):(Code.region id l.toArray true).wp P Q a w:=by
 simp only[ax,decide_eq_true_eq]at hB
 obtain⟨⟨⟨⟨⟨hsel,hn⟩,hs⟩,hc⟩,hhd⟩,hseq⟩:=hB
 have hn':n<l.toArray.size:=by simpa using hn
 simp only[La,ax,decide_eq_true_eq,List.all_eq_true,List.mem_range]at hhd
 obtain⟨⟨hdl,hnd⟩,hops⟩:=hhd
 have hop:∀i o,i<n->l.toArray[i]?=some o->o.dst=some (ds.getD i 0)/\o.guard=none/\(∀e∈o.after,Region.binds .any e=true->e.on<i)/\ds.getD i 0∈ds:=by intro i o hi ho;have h1:=hops i hi;have ho':l[i]?=some o:=by{simpa using ho};rw[ho']at h1;simp only[ax,beq_iff_eq,Option.isNone_iff_eq_none,Array.all_eq_true',decide_eq_true_eq,Bool.or_eq_true,Bool.not_eq_true']at h1;have h2:ds[i]?=some (ds.getD i 0):=by{rw[ai,aj (by omega)];rfl};exact⟨by rw[h1.1.1,h2],h1.1.2,fun e he hbi=>(h1.2 e he).elim (fun h=>by rw[hbi]at h;cases h) (fun h=>h),List.mem_of_getElem? h2⟩
 have hinj:∀i j,i<n->j<n->ds.getD i 0=ds.getD j 0->i=j:=by intro i j hi hj e;rw[ai,ai,aj (by omega),aj (by omega)]at e;have e':ds[i]'(by omega)=ds[j]'(by omega):=e;rcases Nat.lt_trichotomy i j with h|h|h;{exact absurd e' (List.pairwise_iff_getElem.1 hnd i j (by omega) (by omega) h)};{exact h};exact absurd e'.symm (List.pairwise_iff_getElem.1 hnd j i (by omega) (by omega) h)
 let I:Array Bool->Act->World->Prop:=fun q b x=>A x/\b.defers=a.defers/\b.tmps.size=a.tmps.size/\(∀t,t∉ds->b.eval (.tmp t)=a.eval (.tmp t))/\∀j,j<n->q.getD j false=true->F j (b.eval (.tmp (ds.getD j 0))) x
 have inv:HeadInv .any l.toArray n (Array.replicate l.toArray.size false):=by refine⟨by simp,fun j oj _ hl=>?_,fun t _ ht=>getD_in (by simpa using ht) (getD_replicate_false _ _)⟩;rw[getD_replicate_false]at hl;cases hl
 have hu:zg n (Array.replicate l.toArray.size false)=n:=by
  have:∀m,m<=l.toArray.size->zg m (Array.replicate l.toArray.size false)=m:=by
   intro m
   induction m with
   |zero=>intro _;rfl
   |succ m ih=>
    intro hm
    rw[jr,ih (by omega)]
    have:(Array.replicate l.toArray.size false).getD m true=false:=getD_in (by simp at hm ⊢;omega) (getD_replicate_false _ _)
    rw[az this]
  exact this n (by omega)
 have H := Ey (P:=P) (Q:=Q) (md:= .any) (l.toArray.size-n) I hs hc hn' (fun i o hi ho=>(hop i o hi ho).2.2.1)
   (fun q b x i o hq ho hi hun hafter hI=>by
     obtain⟨hA,hdf,hsize,hfr,hF⟩:=hI
     obtain⟨hd,hg,hb,hmem⟩:=hop i o hi ho
     have Kh:=hall.at i o (by rw[List.getElem?_take_of_lt hi];simpa using ho)
     rw[Nat.zero_add]at Kh
     have hwp:=Kh b x hA hfr (fun j hj=>by
       obtain⟨e,he,hbe⟩:=Array.any_eq_true'.1 hj
       simp only[ax,beq_iff_eq]at hbe
       have h1:=hafter e he hbe.1
       have h2:=hb e he hbe.1
       rw[hbe.2]at h1 h2
       exact hF j (by omega) h1)
     unfold wpOp
     simp only[ho]
     have hw:Region.wanted o (yielded l.toArray b.tmps)=true:=by simp[Region.wanted,hg]
     rw[az hw]
     refine .inl (Oper.wp_mono (fun b' x' h'=>?_) hwp)
     obtain⟨y,rfl,hA',hF',Ja⟩:=h'
     have hds:ds.getD i 0<b.tmps.size:=by rw[hsize];exact hsz _ hmem
     rw[hd]
     refine⟨hA',hdf,by simpa[Act.put]using hsize,fun t ht=>?_,fun j hj hq'=>?_⟩
     · rw[oD _ _ _ _ hds,ay (fun e=>ht (by rw[←e];exact hmem))]
       exact hfr t ht
     · rw[oD _ _ _ _ hds]
       by_cases e:i=j
       · subst e
         rw[az rfl]
         exact hF'
       · rw[ay (fun e2=>e (hinj i j hi hj e2))]
         rw[getD_set_ne false e]at hq'
         exact hR j _ x x' Ja (hF j hj hq'))
   (fun q b x hq Dk hI=>by
     obtain⟨hA,hdf,hsize,hfr,hF⟩:=hI
     have hqf:q=Ea l.length n:=by
       apply Array.ext
       · rw[hq.size];simp[Ea];omega
       · intro i h1 h2
         have e1:q.getD i true=q[i]:=by simp[h1]
         have e2:q.getD i false=q[i]:=by simp[h1]
         by_cases e:i<n
         · have:=Dk i e
           rw[e1]at this
           rw[this]
           simp only[Ea,List.getElem_toArray]
           rw[List.getElem_append_left (by simpa using e)]
           simp
         · have h3:i<l.toArray.size:=by rw[←hq.size];exact h1
           have:=hq.tail i (by omega) h3
           rw[e1]at this
           rw[this]
           simp only[Ea,List.getElem_toArray]
           rw[List.getElem_append_right (by simpa using e)]
           simp
     have hF2:∀j,j<n->F j (b.eval (.tmp (ds.getD j 0))) x:=fun j hj=>hF j hj (by
       have:=Dk j hj
       have h1:j<q.size:=by rw[hq.size];omega
       simp[h1]at this ⊢
       exact this)
     have hbf:b=ds.foldl (fun a' t=>a'.put (some t) (b.eval (.tmp t))) a:=by
       obtain⟨s1,s2,s3⟩:=pV (fun t=>b.eval (.tmp t)) ds a
       have ht:b.tmps=(ds.foldl (fun a' t=>a'.put (some t) (b.eval (.tmp t))) a).tmps:=by
         apply Array.ext_getElem?
         intro t
         rw[s3 t]
         by_cases e:t<a.tmps.size
         · have eb:b.tmps[t]?=some (b.eval (.tmp t)):=by
             have h1:t<b.tmps.size:=by omega
             simp[Act.eval,h1]
           by_cases e2:t∈ds
           · rw[az ⟨e2,e⟩,eb]
           · rw[ay (fun h=>e2 h.1),eb,hfr t e2]
             simp[Act.eval,e]
         · rw[ay (fun h=>e h.2),Array.getElem?_eq_none (by omega),Array.getElem?_eq_none (by omega)]
       have e3:∀c d:Act,c.tmps=d.tmps->c.defers=d.defers->c=d:=by
         rintro⟨c1,c2⟩ ⟨d1,d2⟩ h1 h2
         simp only at h1 h2
         rw[h1,h2]
       exact e3 _ _ ht (hdf.trans s2.symm)
     have:=hend b x hA hF2 hbf
     rw[hqf]
     have e2:(l.drop n).length=l.toArray.size-n:=by rw[List.length_drop];simp
     have R2:=wpAny_of_seq (md:= .any) (Q':=Q) (l.drop n) n (Ea l.length n) b x (fun j=>by simp[List.getElem?_drop]) (by rw[e2];simpa using hseq) this
     rwa [e2]at R2)
   n _ a w.drew inv hu ⟨h0,rfl,rfl,fun t _=>rfl,fun j hj h=>by rw[getD_replicate_false]at h;cases h⟩
 rw[show n+(l.toArray.size-n)=l.toArray.size by omega]at H
 exact wp_region_any hm H
end
section
open Go.RowKit
variable {P : Program} {ops : Array Oper} {md : Region.Mode} {Q : Exit → Act → World → Prop} {n : Nat}
def Gi (P:Program)(Q:Exit->Act->World->Prop)(a:Act)(ds:List Nat)(m:Nat)(A:Bool->World->Prop)(F:Nat->Value->World->Prop)(k:Nat)(o:Oper):Prop:=
 ∀ (t:Bool) (b:Act) (x:World),A t x->(k=m->t=false)->((o.after.any fun e=>Region.binds .any e&&e.on==m)=true->t=true)->(∀t,t∉ds->b.eval (.tmp t)=a.eval (.tmp t))->b.defers=a.defers->(∀j,(o.after.any fun e=>Region.binds .any e&&e.on==j)=true->F j (b.eval (.tmp (ds.getD j 0))) x)->
   o.wp P b x (fun b' x'=>∃y,b'=b.put o.dst y/\A (t||decide (k=m)) x'/\F k y x'/\∀i z,F i z x->F i z x') Q
def rF (P:Program)(Q:Exit->Act->World->Prop)(a:Act)(ds:List Nat)(m:Nat)(A:Bool->World->Prop)(F:Nat->Value->World->Prop):Nat->List Oper->Prop
 |_,[]=>True
 |k,o::r=>Gi P Q a ds m A F k o/\rF P Q a ds m A F (k+1) r
theorem rF.at {a:Act}{ds:List Nat}{m:Nat}{A:Bool->World->Prop}{F:Nat->Value->World->Prop}:∀{r:List Oper}{k:Nat},rF P Q a ds m A F k r->∀i o,r[i]?=some o->Gi P Q a ds m A F (k+i) o
 |[],_,_,i,o,h=>by simp at h
 |q::r,k,h,0,o,e=>by cases e;exact h.1
 | q::r,k,h,i+1,o,e=>by
   have:=rF.at h.2 i o (by simpa using e)
   rwa [show k+1+i=k+(i+1)by omega]at this
end
section
open Go.RowKit
variable {P : Program} {ops : Array Oper} {md : Region.Mode} {Q : Exit → Act → World → Prop} {n : Nat}
theorem wpAny_all (I:Array Bool->Act->World->Prop)(hback:∀i o,ops[i]?=some o->∀e∈o.after,Region.binds md e=true->e.on<i)(hstep:∀l b x i o,l.size=ops.size->ops[i]?=some o->i<ops.size->l.getD i true=false->(∀e∈o.after,Region.binds md e=true->l.getD e.on false=true)->I l b x->wpOp P ops Q i (fun b' x'=>I (l.setIfInBounds i true) b' x') b x)(hend:∀l b x,l.size=ops.size->(∀i,i<ops.size->l.getD i true=true)->I l b x->Q .normal b x):∀f l b x,l.size=ops.size->zg ops.size l=f->I l b x->wpAny P md ops Q f l b x:=by
 intro f
 induction f with
 |zero=>
  intro l b x hsz hu hI
  refine⟨?_,hend l b x hsz (fun i hi=>o5 hu i hi) hI⟩
  rcases hr:Region.ready md ops l with _|⟨j,r⟩
  · rfl
  · have hj:j∈Region.ready md ops l:=by{rw[hr];simp};obtain⟨h1,o,ho,-⟩:=mem_ready.1 hj;have hlt:j<ops.size:=(Array.getElem?_eq_some_iff.1 ho).1;rw[o5 hu j hlt]at h1;cases h1
 |succ f ih=>
  intro l b x hsz hu hI
  obtain⟨i,hin,hun,hmin⟩:=CO (l:=l) (n:=ops.size) (by omega)
  refine⟨fun h0=>?_,fun j hj=>?_⟩
  · have ho:∃o,ops[i]?=some o:=⟨ops[i]'(by omega),Array.getElem?_eq_getElem (by omega)⟩
    obtain⟨o,ho⟩:=ho
    have:i∈Region.ready md ops l:=mem_ready.2 ⟨hun,o,ho,fun e he hbi=>by
     have h1:=hback i o ho e he hbi
     have h2:=hmin e.on h1
     have h3:e.on<l.size:=by omega
     simp[h3]at h2 ⊢
     exact h2⟩
    rw[h0]at this
    cases this
  · obtain⟨hjun,o,ho,hall⟩:=mem_ready.1 hj;have hlt:j<ops.size:=(Array.getElem?_eq_some_iff.1 ho).1;refine wpOp_mono (fun b' x' h'=>ih _ b' x' (by simpa using hsz) ?_ h') (hstep l b x j o hsz ho hlt hjun hall hI);have:=xc hjun ops.size hlt;omega
end
namespace aF
theorem Hf {xs:List (Int×Int)}(h:isOk xs=true)(j:Nat):-1<=aZ (aS xs) j:=by
 have h2:(all xs).2.2=true:=by rw[isOk,ax]at h;exact h.2
 obtain⟨⟨m,hm,h12,hi⟩,-⟩:=Inv.goes (xs:=xs) (Ef:=(all xs).1) (Of:=(all xs).2.1) (xs.length+1) 0 _ _ _ (Inv.first xs) (by
  show all xs=_
  rw[←h2])
 rw[aS,az h]
 exact(hi.low j).2.2
end aF
namespace Hg
theorem Cz {f:Fn}{p a h mo h' fq:Int}{x:bT}{S S':List bT}(ha:p=8\/p=9\/p=10->0<=a)(hh:-1<=h)(sb:∀y∈x::S,-1<=y.st/\0<=y.wd)(h1:dX f p a h mo x S=some (h',fq,S')):-1<=h'/\∀y∈S',-1<=y.st/\0<=y.wd:=by have hx:=sb x (by simp);have XO:∀y∈S,-1<=y.st/\0<=y.wd:=fun y hy=>sb y (List.mem_cons_of_mem _ hy);unfold dX at h1;by_cases c1:p=8\/p=9\/p=10;{rw[az c1]at h1;cases h1;refine⟨hh,fun y hy=>?_⟩;rcases List.mem_cons.1 hy with rfl|hy;{exact⟨hh,ha c1⟩};exact sb y hy};rw[ay c1]at h1;by_cases c2:p=13\/p=14;{rw[az c2]at h1;split at h1;{cases h1};cases h1;refine⟨?_,sb⟩;split<;>omega};rw[ay c2]at h1;by_cases c3:p=15;{rw[az c3]at h1;split at h1;{cases h1};cases h1;exact⟨by omega,sb⟩};rw[ay c3]at h1;by_cases c4:p=19;{rw[az c4]at h1;cases h1;exact⟨by omega,sb⟩};rw[ay c4]at h1;by_cases c5:p=11;{rw[az c5]at h1;split at h1;{cases h1};cases h1;refine⟨?_,sb⟩;split<;>omega};rw[ay c5]at h1;by_cases c6:p=12;{rw[az c6]at h1;split at h1;{cases h1};cases h1;refine⟨?_,XO⟩;split<;>omega};rw[ay c6]at h1;cases h1;exact⟨hh,sb⟩
theorem Gf {fs:List Fn}{f:Fn}{O:List Int}(hgs:∀k,0<=(fs.getD k .z).g)(ha:∀t,t<f.b.length->0<=arg f.b t):∀(n i:Nat)(h mo:Int)(S:List bT)(out:List Int){r:List Int×Int},i+n=f.b.length->-1<=h->(∀y∈S,-1<=y.st/\0<=y.wd)->go fs f O n i h mo S out=some r->(∀y∈out,-1<=y)->∀y∈r.1,-1<=y
 | 0,i,h,mo,S,out,r,hi,hh,hs,e,ho=>by
   unfold go at e
   cases e
   exact ho
 | n + 1,i,h,mo,S,out,r,hi,hh,hs,e,ho=>by
   unfold go at e
   rcases e1:one fs f (O.getD i (-1)) (aF.op f.b i) (f.b.getD i (0,0)).2 h mo S with _|⟨h',EC,S'⟩
   · rw[e1]at e;cases e
   rw[e1]at e
   have har:=ha i (by omega)
   have hout:∀y∈out++[h],-1<=y:=fun y hy=>by
     rcases List.mem_append.1 hy with hy|hy
     · exact ho y hy
     · rw[List.mem_singleton]at hy;rw[hy];exact hh
   cases S with
   |nil=>cases e1
   | cons x S0=>
     obtain⟨hb,hc⟩:=vL e1
     have hx:=hs x (by simp)
     have hp:=FR hgs (aF.op f.b i) (f.b.getD i (0,0)).2
     have hlow:-1<=h'/\∀y∈S',-1<=y.st/\0<=y.wd:=by
       rcases hc with⟨c1,c2,c3⟩|⟨c1,c2⟩
       · exact Cz (fun _=>har) (by omega) hs c3
       · exact Cz (fun _=>har) hh hs c2
     exact Gf hgs ha n (i+1) h' EC S' (out++[h]) (by omega) hlow.1 hlow.2 e hout
theorem Jr {fs:List Fn}{f:Fn}{H:List Int}{mo:Int}(hf:Md.iW f=true)(hfs:Md.bi fs=true)(h:gY fs f=some (H,mo)):∀j,j<H.length->-1<=H.getD j 0:=by simp only[Md.iW,ax,decide_eq_true_eq,Wd.bB]at hf;obtain⟨-,-,⟨hg0,-⟩,-,hst⟩:=hf;have hgs:∀k,0<=(fs.getD k .z).g:=fun k=>by{by_cases hk:k<fs.length;{have:=Md.aT hfs hk;simp only[Md.iW,ax,Wd.bB]at this;exact this.2.2.1.1};rw[ai,List.getElem?_eq_none (by omega)];exact Int.le_refl _};have ha:∀t,t<f.b.length->0<=arg f.b t:=fun t ht=>by{have hok:St.ok (aF.op f.b t) (arg f.b t)=true:=St.aT hst ht;simp only[St.ok,ax,Wd.bB]at hok;(have:0<=St.least (aF.op f.b t):=by unfold St.least;split<;>omega);omega};have hall:∃m,all fs f=some (H,m):=by{unfold gY at h;split at h;{rcases e:all fs f with _|⟨o',fq⟩;{rw[e]at h;cases h};rw[e]at h;simp only at h;split at h;{cases h;exact⟨_,rfl⟩};cases h};cases h};obtain⟨m,hall⟩:=hall;have:=Gf hgs ha f.b.length 0 0 f.g [⟨0,f.g,true⟩] [] (by omega) (by omega) (fun y hy=>by rw[List.mem_singleton]at hy;rw[hy];exact⟨by show(-1:Int)<=0;omega,hg0⟩) hall (fun y hy=>by cases hy);intro j hj;rw[ai,aj hj];exact this _ (List.getElem_mem hj)
end Hg
namespace Lw
theorem Dc (fs:List Fn)(f:Fn)(E O H:List Int):∀n j,j<n->(df fs f E O H n).2.getD j 0=((df fs f E O H j).1.length:Int)
 |0,j,h=>by omega
 | n +1,j,h=>by
   have hl:=(iG fs f E O H n).2
   by_cases e:j=n
   · subst e
     show((df fs f E O H j).2++[((df fs f E O H j).1.length:Int)]).getD j 0=_
     rw[ai,List.getElem?_append_right (by omega),hl,Nat.sub_self]
     simp
   · rw[←Dc fs f E O H n j (by omega)]
     show((df fs f E O H n).2++[((df fs f E O H n).1.length:Int)]).getD j 0=_
     rw[ai,List.getElem?_append_left (by omega),←ai]
theorem Ep (fs:List Fn)(f:Fn)(E O H:List Int){j:Nat}(h:j<f.b.length):(cu fs f E O H).getD j 0=((df fs f E O H j).1.length:Int):=Dc fs f E O H _ j h
theorem BU (fs:List Fn)(f:Fn)(E O H:List Int):(cu fs f E O H).length=f.b.length:=(iG fs f E O H _).2
theorem zh (fs:List Fn)(f:Fn)(E O H:List Int)(n:Nat):(df fs f E O H (n+1)).1=(df fs f E O H n).1++(if 0<=H.getD n 0 then step fs f E O H n else[])/\(df fs f E O H (n+1)).2=(df fs f E O H n).2++[((df fs f E O H n).1.length:Int)]:=⟨rfl,rfl⟩
end Lw
end Go.Proofs.YtellfmhljjdjbaaGreatDoor
