/-
  Own texts for a law: Low6 Low7 LowQ LowR Sim0 Sim1 LinM Mem2 Mem3
-/
import Derived.Test.YthkjdjmjdlimnaaGreatKT16
namespace Go.Proofs.YthkjdjmjdlimnaaGreat
open Go.RowKit Go.Shelf
set_option linter.all false
set_option maxRecDepth 100000
set_option maxHeartbeats 16000000
theorem Lw.SC {c:LX}{W0:World}(T:TX c W0){at':Nat}(hat:at'<c.f.b.length)(h:aQ.op c.f.b at'=16):0<=Hg.arg c.f.b at':=by have hok:St.ok (aQ.op c.f.b at') (Hg.arg c.f.b at')=true:=St.bA T.all hat;simp only[St.ok,au,Wd.bi]at hok;have h1:St.least (aQ.op c.f.b at')=0:=by{rw[h];rfl};omega
def Lw.kT (t n:Int)(k:Nat):List Int:=(List.range k).map fun(i:Nat)=>t-n+1+(i:Int)
theorem Lw.Jz (t n:Int)(k:Nat):Lw.kT t n (k+1)=Lw.kT t n k++[t-n+1+(k:Int)]:=by unfold Lw.kT;rw[List.range_succ,List.map_append];rfl
theorem abW {W:World}{a:Option Addr}{n k:Nat}{fs:List Fn}(h:FL W a n fs)(hk:k<n):∃b off,a=some ⟨b,off,none⟩/\b<W.heap.size/\∃ba bl bc,W.cell? ⟨b,off+k*4,none⟩=some (.int .i64 (fs.getD k .z).a)/\W.cell? ⟨b,off+k*4+1,none⟩=some (.int .i64 (fs.getD k .z).l)/\W.cell? ⟨b,off+k*4+2,none⟩=some (.int .i64 (fs.getD k .z).g)/\W.cell? ⟨b,off+k*4+3,none⟩=some (.slice ba bl bc):=by obtain⟨hl,hm,h0|⟨b,off,e,hb,hx⟩⟩:=h;{omega};obtain⟨x0,x1,x2,ba,bl,bc,x3,-⟩:=hx k hk;exact⟨b,off,e,hb,ba,bl,bc,x0,x1,x2,x3⟩
theorem ahf {c:LX} {W0 W:World} {v vg:Value} {out:List (Ln×Int)} {P:Nat->Prop} (T:TX c W0) (K:MK c W0 W v vg out P) (fa:Option Addr) (fl fc:Nat) (d:ByteArray) (oa:Option Addr) (oc:Nat) (hF:FL W0 fa fl c.fs) (hO:IL W0 oa c.f.b.length c.O) (at':Nat) (hat:at'<c.f.b.length) (hr:0<=c.H.getD at' 0) (hlen:out.length<=900) (p:Int) (hp:aQ.op c.f.b at'=p) (hk:Hid (p=16)):Calls Tryz.prog 63 #[.pointer (some ⟨c.B,0,none⟩), .agg #[.slice fa fl fc, .string d], .slice oa c.f.b.length oc, .int .i64 at'] W fun e w'=>∃v' qD,e= .returned (.tuple #[])/\MK c W0 w' v' qD (out++Lw.step c.fs c.f c.E c.O c.H at') (fun g=>P g\/W.heap.size<=g)/\FX c v vg v' qD W w':=by
 have hty:=T.acc.typ at' hat hr
 obtain⟨hH,hE,hS⟩:=T.il K
 have U5:=hO.kept K.fP
 have hF1:=hF.kept K.fP
 have hLen:=T.ok.2.2.2.2.2
 have htop:=T.acc.eG at' hat
 have hW:=T.lt
 have hwd:0<=Lw.wd c.f/\Lw.wd c.f<=6:=by have:=T.ok;unfold Lw.wd;omega
 have HST:Hid (Lw.step c.fs c.f c.E c.O c.H at'=Lw.uO c.fs c.f c.E c.O c.H at' p (Hg.arg c.f.b at') (Lw.bx c.f (c.H.getD at' 0-1))):=by show _=_;unfold Lw.step;rw[hp]
 have hbx0:=K.box
 unfold LX.eY at hbx0
 obtain⟨bl,hbl⟩:∃n,c.f.b.length=n:=⟨_,rfl⟩
 rw[hbl]at hH hE hS U5 hLen hat hbx0 ⊢
 have ng:(at':Int)<(bl:Int):=by omega
 have cS:∃b o,c.ba=some ⟨b,o,none⟩/\b<W.heap.size/\W.cell? ⟨b,o+at'*2,none⟩=some (.int .i64 (aQ.op c.f.b at'))/\W.cell? ⟨b,o+at'*2+1,none⟩=some (.int .i64 (Hg.arg c.f.b at')):=by obtain⟨hl,-,h3|⟨b,o,e,hb,hh⟩⟩:=hS;{omega};exact⟨b,o,e,hb,(hh at' hat).1,(hh at' hat).2⟩
 obtain⟨sb,so,es,lS,NG,cS2⟩:=cS
 have cH:∃b o,c.ha=some ⟨b,o,none⟩/\b<W.heap.size/\W.cell? ⟨b,o+at',none⟩=some (.int .i64 (c.H.getD at' 0)):=by obtain⟨hl,-,h3|⟨b,o,e,hb,hh⟩⟩:=hH;{omega};exact⟨b,o,e,hb,hh at' hat⟩
 obtain⟨hb',ho',eh,lH,cH⟩:=cH
 have cE:∃b o,c.ea=some ⟨b,o,none⟩/\b<W.heap.size/\W.cell? ⟨b,o+at',none⟩=some (.int .i64 (aQ.aO c.E at')):=by obtain⟨hl,-,h3|⟨b,o,e,hb,hh⟩⟩:=hE;{omega};refine⟨b,o,e,hb,?_⟩;rw[hh at' hat];unfold aQ.aO;rw[ah,ah,ai (by omega)];rfl
 obtain⟨eb,eo,ee,lE,cE⟩:=cE
 have cO:∃b o,oa=some ⟨b,o,none⟩/\b<W.heap.size/\W.cell? ⟨b,o+at',none⟩=some (.int .i64 (aQ.aO c.O at')):=by obtain⟨hl,-,h3|⟨b,o,e,hb,hh⟩⟩:=U5;{omega};refine⟨b,o,e,hb,?_⟩;rw[hh at' hat];unfold aQ.aO;rw[ah,ah,ai (by omega)];rfl
 obtain⟨ob,oo,rfl,lO,cO⟩:=cO
 rw[hp]at NG
 obtain⟨q,hq⟩:∃q,Hg.arg c.f.b at'=q:=⟨_,rfl⟩
 obtain⟨u,hu⟩:∃u,c.H.getD at' 0=u:=⟨_,rfl⟩
 rw[hq]at cS2 HST
 rw[hu]at cH htop hr HST
 have d2:=(hbx0.2 2 _ rfl).1
 have d3:=(hbx0.2 3 _ rfl).1
 have d4:=(hbx0.2 4 _ rfl).1
 have d5:=(hbx0.2 5 _ rfl).1
 have U3:=hbx0.1
 rw[eh]at d3
 rw[ee]at d4
 rw[es]at d5
 have hB1:=aB W (.cells #[.slice fa fl fc, .string d] 26)
 have hA1:dM (W.alloc (.cells #[.slice fa fl fc, .string d] 26)) W.heap.size 26 [.slice fa fl fc, .string d]:=heap_alloc_last W _
 obtain⟨W1,hW1⟩:∃X,W.alloc (.cells #[.slice fa fl fc, .string d] 26)=X:=⟨_,rfl⟩
 rw[hW1]at hB1 hA1
 have hB2:=aB W1 (.cells #[.int .i64 (p), .int .i64 q] 95)
 have hA2:dM (W1.alloc (.cells #[.int .i64 (p), .int .i64 q] 95)) W1.heap.size 95 [.int .i64 (p), .int .i64 q]:=heap_alloc_last W1 _
 obtain⟨W2,hW2⟩:∃X,W1.alloc (.cells #[.int .i64 (p), .int .i64 q] 95)=X:=⟨_,rfl⟩
 rw[hW2]at hB2 hA2
 have hB:=hB1.trans (hB2.mono hB1.size)
 have K2:=K.kept hB
 have mE:=hA1.kept hB2
 have hcon:=mM T K2 (u-1) (by omega) (by omega)
 have htt:-1<=Lw.bx c.f (u-1)/\Lw.bx c.f (u-1)<=26:=by unfold Lw.bx;omega
 obtain⟨tt,Lr⟩:∃tt,Lw.bx c.f (u-1)=tt:=⟨_,rfl⟩
 rw[Lr]at hcon htt HST
 have c3:=bG hB1 d3
 have k3:=bG hB d3
 have k4:=bG hB d4
 have c5:=bG hB1 d5
 have c6:=bG hB1 NG
 have c7:=bG hB1 cS2
 have c8:=bG hB cH
 have Aw:=bG hB cE
 have Ay:=bG hB cO
 have k2:=bG hB d2
 have s0:=hA2.cell (j:=0) rfl
 have s1:=hA2.cell (j:=1) rfl
 have m0:=mE.cell (j:=0) rfl
 have F0:FX c v vg v vg W W2:=FX.below hB
 have hF2:=hF1.kept hB
 have HQ:=ae (ak hp (ak hq (ak hbl (ak hu hty))))
 clear hH hE hS hO U5 hF hF1 d2 d3 d4 d5 NG cS2 cH cE cO hbx0 hA1 hB1 hB2 K hu Lr hp hq hbl
 go_enter Tryz.func63,Tryz.ntmps63
 go_wp2_with fail
 refine hcon.mono ?_
 rintro e w3 ⟨rfl,aX⟩
 subst w3
 dsimp only
 clear hcon
 obtain rfl:=hk.out
 have hq0:0<=q:=by have:=Lw.SC T (at':=at') (by rw[HQ.out.2.2.1];exact hat) HQ.out.1;rw[HQ.out.2.1]at this;exact this
 have hq1:q<c.fs.length:=by have:=HQ.out.2.2.2.2.call HQ.out.1;rw[HQ.out.2.1]at this;exact this
 have hfl:c.fs.length=fl:=hF2.1
 obtain⟨qn,rfl⟩:=Int.eq_ofNat_of_zero_le hq0
 have hqn:qn<fl:=by omega
 have hqZ:(qn:Int)<(fl:Int):=by omega
 obtain⟨fb,fo,rfl,lF,gba,gbl,gbc,y0,y1,y2,y3⟩:=abW hF2 hqn
 have U6:=Mn.jd T.val (k:=qn) (by omega)
 have ZY:fl<=4:=by have:=T.val.len.2;omega
 unfold Mn.fn at U6
 obtain⟨G,hG⟩:∃G,c.fs.getD qn .z=G:=⟨_,rfl⟩
 rw[hG]at U6 y0 y1 y2
 replace HST:Hid (Lw.step c.fs c.f c.E c.O c.H at'=[(⟨7,if G.g=1 then tt-G.a+1 else Lw.wd c.f+20,0,0,qn,Lw.args tt G.a⟩,-1)]):=by show _=_;rw[HST.out];show[((⟨7,if(c.fs.getD (qn:Int).toNat .z).g=1 then _ else _,0,0,_,Lw.args tt (c.fs.getD (qn:Int).toNat .z).a⟩:Ln),(-1:Int))]=_;rw[aA,hG]
 obtain⟨ga,hga⟩:∃ga:Nat,G.a=(ga:Int):=Int.eq_ofNat_of_zero_le U6.1
 have arY:ga<=3:=by omega
 obtain⟨gg,hgg⟩:∃gg,G.g=gg:=⟨_,rfl⟩
 have NH:gg=0\/gg=1:=by rw[←hgg];exact U6.2.2.2.2.1
 obtain⟨gl,hgl⟩:∃gl,G.l=gl:=⟨_,rfl⟩
 have HAR:Hid (Lw.args tt G.a=Lw.kT tt ga ga):=by show _=_;rw[hga];rfl
 rw[hga]at y0 HST HAR
 rw[hgg]at y2 HST
 rw[hgl]at y1
 obtain⟨wd0,aiD⟩:∃wd0,Lw.wd c.f=wd0:=⟨_,rfl⟩
 rw[aiD]at k2 hwd HST
 have hBG:=aB W2 (.cells #[.int .i64 (ga:Int), .int .i64 gl, .int .i64 gg, .slice gba gbl gbc] 93)
 have hAG:dM (W2.alloc (.cells #[.int .i64 (ga:Int), .int .i64 gl, .int .i64 gg, .slice gba gbl gbc] 93)) W2.heap.size 93 [.int .i64 (ga:Int), .int .i64 gl, .int .i64 gg, .slice gba gbl gbc]:=heap_alloc_last W2 _
 obtain⟨W3,hW3⟩:∃X,W2.alloc (.cells #[.int .i64 (ga:Int), .int .i64 gl, .int .i64 gg, .slice gba gbl gbc] 93)=X:=⟨_,rfl⟩
 rw[hW3]at hBG hAG
 have j2:=bG hBG k2
 have t1:=bG hBG s1
 have hlB:c.B<W3.heap.size:=aj K2.sz hBG.size
 have hlS:=(hA2.kept hBG).lt
 have HKK:=ae (ak (K2.kept hBG) (ak (F0.trans (FX.below (c:=c) (v:=v) (vg:=vg) hBG)) hAG))
 clear c3 k3 k4 c5 c6 c7 c8 Aw Ay mE hW1 hW2 hty hF2 hG hga hgg hgl aiD U6 hfl K2 F0 hB hA2
 go_wp2
 go_region
 all_goals
  clear j2 t1 y0 y1 y2 y3 k2 s0 s1 m0
  have acU:=aB W3 (.cells #[.int .i64 7, .int .i64 (wd0+20), .int .i64 0, .int .i64 0, .int .i64 qn, .slice none 0 0] 109)
  have hBL:=acU.trans ((Below.refl _ _).drew.mono acU.size)
  have hAL:dM (W3.alloc (.cells #[.int .i64 7, .int .i64 (wd0+20), .int .i64 0, .int .i64 0, .int .i64 qn, .slice none 0 0] 109)).drew W3.heap.size 109 [.int .i64 7, .int .i64 (wd0+20), .int .i64 0, .int .i64 0, .int .i64 qn, .slice none 0 0]:=heap_alloc_last W3 _
  obtain⟨i0,hi,hz0,hz1,hz2⟩:=info_parts bT
  have HS:=ae (ak hAL hBL)
  clear acU hAL hBL hW3
  go_wp2
  go_loopw [20] (fun vi wr=>∃(k:Nat)(lv:Value),vi= .int .i64 k/\k<=ga/\dM wr W3.heap.size 109 [.int .i64 7, .int .i64 (wd0+20), .int .i64 0, .int .i64 0, .int .i64 qn,lv]/\OI wr (W3.heap.size+1) lv (Lw.kT tt ga k)/\Below W3.heap.size W3 wr) (fun i _=>ga-(intOf i).toNat)
  case atStart=>exact⟨0,_,rfl,Nat.zero_le _,HS.out.1,OI.nil _ _,HS.out.2⟩
  case round=>
   obtain⟨k,lv,rfl,hk,hAr,hol,hBr⟩:=hrel
   clear HS
   have hG9:=HKK.out.2.2.kept hBr
   have g0:=hG9.cell (j:=0) rfl
   have g2:=hG9.cell (j:=2) rfl
   have hll:(Lw.kT tt ga k).length=k:=by unfold Lw.kT;simp
   have QG:wr.ownsRow (W3.heap.size+1) 2 1 lv k ((Lw.kT tt ga k).map iv):=by unfold OI at hol;rwa [hll]at hol
   obtain⟨la,lc,rfl⟩:=bQ QG
   have QH:∀g,(Value.slice la k lc).ownBlock=some g->W3.heap.size+1<=g:=fun g hg=>(dX QG hg).1
   have a5:=hAr.cell (j:=5) rfl
   have al:=hAr.lt
   by_cases hlt:k<ga
   · have gI:(k:Int)<(ga:Int):=by{omega};obtain⟨y,hy⟩:∃y,tt-(ga:Int)+1+(k:Int)=y:=⟨_,rfl⟩;have HY:=ae hy;clear hy;have uS:=aB wr (.cells #[.int .i64 (tt-(ga:Int)+1+(k:Int))] 2);have HO:=ae (aP QG uS);have HA:=ae (hAr.kept uS);have HBr:=ae (hBr.trans (uS.mono hBr.size));have ZZ:=hBr.size;clear uS hol QG hAr hBr hG9 hll;go_wp2_with(at_builtin;refine wpList_append_own _ rfl _ _ 27 rfl (W3.heap.size+1) 2 i0 (.int .i64 0) 1 8 Tryz.underlying27 hi hz0 hz1 hz2 rfl (by decide) (.slice la k lc) k _ rfl HO.out ⟨wr.heap.size,0,none⟩ 1 1 [.int .i64 (tt-(ga:Int)+1+(k:Int))] rfl rfl (cell_one_new _ _ _) (by simp[Value.oneCell']) (by simp only[maxLen];omega) (by omega) (by simp;omega) ?_;intro v2 wB hown2 hgrow2 _;obtain⟨g2',cap2,rfl⟩:=ownsRow_succ hown2;have hA3:=HA.out.dJ hgrow2 (fun e=>by have:=QH W3.heap.size e.symm;omega);have b5:=hA3.cell (j:=5) rfl;have f5:=hA3.frozen 5;have l5:=hA3.lt;have mZ:=ae (ak hown2 (ak hgrow2 hA3));clear hown2 hgrow2 hA3);go_roundw;(case rel=>obtain⟨o1,o2,o3⟩:=mZ.out;have gs:=aC wB ⟨W3.heap.size,5,none⟩ (.slice (some ⟨g2',0,none⟩) (k+1) cap2);refine⟨k+1,_,by simp,hlt,o3.set 5 _,?_,?_⟩;{show World.ownsRow _ _ _ _ _ _ _;rw[Lw.Jz,List.map_append,List.length_append,List.length_singleton,show(Lw.kT tt ga k).length=k by unfold Lw.kT;simp];exact fE o1 gs (fun g e=>by have:=(dX o1 e).1;simp only[ne_eq,af];omega)};exact fV (fV HBr.out o2 (fun g e=>by have:=QH g e;omega)) gs (fun g e=>by cases e;exact Nat.le_refl _));case measure=>simp[intOf];omega
   · have hke:k=ga:=by omega
     subst hke
     have gI:¬(k:Int)<(k:Int):=by omega
     have HX:=ae (ak (HKK.out.1.kept hBr) (HKK.out.2.1.trans (FX.below (c:=c) (v:=v) (vg:=vg) hBr)))
     have HBr:=ae hBr
     have HOl:=ae QG
     have HAr:=ae hAr
     have a0:=hAr.cell (j:=0) rfl
     have a1:=hAr.cell (j:=1) rfl
     have a2:=hAr.cell (j:=2) rfl
     have a3:=hAr.cell (j:=3) rfl
     have a4:=hAr.cell (j:=4) rfl
     have q1:=hAr.frozen 1
     have hKs:=HKK.out.1.Lp
     have aiE:∀g,vg.ownBlock=some g->g<W3.heap.size:=fun g e=>(dX hKs e).2
     have hB3:c.B+1<=W3.heap.size:=HKK.out.1.sz
     have hWW:=HKK.out.2.1.size
     clear hol QG hAr hBr hG9 hKs
     rcases NH with rfl|rfl
     · have hadd:=aY c W0 wr v vg out (fun g=>P g\/W.heap.size<=g) hW (HX.out.1.jH (fun g h=> .inl h)) ⟨7,wd0+20,0,0,qn,Lw.kT tt k k⟩ la k lc (by
        show World.ownsRow _ _ _ _ _ _ _
        rw[hll]
        refine⟨HOl.out.1,?_⟩
        rcases HOl.out.2 with h'|⟨g',cap',cur,h',hb,r⟩
        · exact .inl h'
        · exact .inr ⟨g',cap',cur,h',by omega,r⟩) (fun g e=>⟨fun e2=>by have:=QH g e;have:=aiE g e2;omega, .inr (by have:=QH g e;omega)⟩) (-1) (by omega)
       go_wp2_with fail
       refine hadd.mono ?_
       rintro e X1 ⟨v1,mq,rfl,K1,F1⟩
       dsimp only
       have G1:=HX.out.2.trans F1
       clear hadd a0 a1 a2 a3 a4 a5 g0 g2
       go_wp2
       (try simp only[Exit.inBlock,Exit.then])
       refine bodyPost_end (results_none rfl _ _ _) rfl ⟨v1,mq,rfl,?_,G1⟩
       rw[HST.out,HAR.out]
       exact K1
     · have gs:=aC wr ⟨W3.heap.size,1,none⟩ (.int .i64 (tt-(k:Int)+1))
       have hAs:=HAr.out.set 1 (.int .i64 (tt-(k:Int)+1))
       have hBs:=fV HBr.out gs (fun g e=>by cases e;exact Nat.le_refl _)
       have hos:=fE HOl.out gs (fun g e=>by have:=(dX HOl.out e).1;simp only[ne_eq,af];omega)
       obtain⟨ws,hws⟩:∃ws,wr.setCell ⟨W3.heap.size,1,none⟩ (.int .i64 (tt-(k:Int)+1))=ws:=⟨_,rfl⟩
       rw[hws]at hAs hBs hos
       have b0:=hAs.cell (j:=0) rfl
       have b1:=hAs.cell (j:=1) rfl
       have b2:=hAs.cell (j:=2) rfl
       have b3:=hAs.cell (j:=3) rfl
       have b4:=hAs.cell (j:=4) rfl
       have b5:=hAs.cell (j:=5) rfl
       have hKx:=HKK.out.1.kept hBs
       have Bu:=HKK.out.2.1.trans (FX.below (c:=c) (v:=v) (vg:=vg) hBs)
       have hadd:=aY c W0 ws v vg out (fun g=>P g\/W.heap.size<=g) hW (hKx.jH (fun g h=> .inl h)) ⟨7,tt-(k:Int)+1,0,0,qn,Lw.kT tt k k⟩ la k lc (by
        show World.ownsRow _ _ _ _ _ _ _
        rw[hll]
        refine⟨hos.1,?_⟩
        rcases hos.2 with h'|⟨g',cap',cur,h',hb,r⟩
        · exact .inl h'
        · exact .inr ⟨g',cap',cur,h',by omega,r⟩) (fun g e=>⟨fun e2=>by have:=QH g e;have:=aiE g e2;omega, .inr (by have:=QH g e;omega)⟩) (-1) (by omega)
       go_wp2_with fail
       refine hadd.mono ?_
       rintro e X1 ⟨v1,mq,rfl,K1,F1⟩
       dsimp only
       have G1:=Bu.trans F1
       clear hadd a0 a1 a2 a3 a4 a5 g0 g2 b0 b1 b2 b3 b4 b5 hws
       go_wp2
       (try simp only[Exit.inBlock,Exit.then])
       refine bodyPost_end (results_none rfl _ _ _) rfl ⟨v1,mq,rfl,?_,G1⟩
       rw[HST.out,HAR.out]
       exact K1
theorem EA {c:LX}{W0 W:World}{v vg:Value}{out:List (Ln×Int)}{P:Nat->Prop}(T:TX c W0)(K:MK c W0 W v vg out P)(fa:Option Addr)(fl fc:Nat)(d:ByteArray)(oa:Option Addr)(oc:Nat)(hF:FL W0 fa fl c.fs)(hO:IL W0 oa c.f.b.length c.O)(at':Nat)(hat:at'<c.f.b.length)(hr:0<=c.H.getD at' 0)(hlen:out.length<=900):Calls Tryz.prog 63 #[.pointer (some ⟨c.B,0,none⟩), .agg #[.slice fa fl fc, .string d], .slice oa c.f.b.length oc, .int .i64 at'] W fun e w'=>∃v' qD,e= .returned (.tuple #[])/\MK c W0 w' v' qD (out++Lw.step c.fs c.f c.E c.O c.H at') (fun g=>P g\/W.heap.size<=g)/\FX c v vg v' qD W w':=by have hok:St.ok (aQ.op c.f.b at') (Hg.arg c.f.b at')=true:=St.bA T.all hat;simp only[St.ok,au,Wd.bi]at hok;obtain⟨p,hp⟩:∃p,aQ.op c.f.b at'=p:=⟨_,rfl⟩;rw[hp]at hok;have h3:(p=7\/p=8\/p=9\/p=12\/p=20\/p=1\/p=2\/p=3\/p=4\/p=5\/p=6\/p=17\/p=18\/p=19)\/(p=10\/p=11\/p=13\/p=15\/p=14)\/p=16:=by{omega};rcases h3 with h|h|h;{exact agF T K fa fl fc d oa oc hF hO at' hat hr hlen p hp h};{exact ahz T K fa fl fc d oa oc hF hO at' hat hr hlen p hp h};exact ahf T K fa fl fc d oa oc hF hO at' hat hr hlen p hp h
namespace Lw
open Hg (arg)
theorem nC {fs:List Fn}{f:Fn}{E O H:List Int}(hA:Hg.Acc fs f E O H){n:Nat}(hn:n<f.b.length)(dp:Int):0<=(gG f E H n dp).1/\(gG f E H n dp).1<f.b.length:=by by_cases hlt:dp.toNat<(aQ.dP f.b E n n).length;{obtain⟨t,et,htl,hEt,-⟩:=aQ.Eb hA.NF rfl hlt;rw[uf hlt (t:=t) et];have f3:=hA.NF.f3 t (by omega) (by omega);split;{exact⟨by simp only;omega,by simp only;omega⟩};split;{exact⟨by simp only;omega,by simp only;omega⟩};exact⟨by simp only;omega,by simp only;omega⟩};rw[vk hlt];have:=hA.pos;exact⟨by simp only;omega,by simp only;omega⟩
theorem Co {fs:List Fn}{f:Fn}{E O H:List Int}(hA:Hg.Acc fs f E O H){n:Nat}(hn:n<f.b.length)(hr:0<=H.getD n 0):∀x∈step fs f E O H n,-1<=x.2/\x.2<f.b.length:=by have hty:=hA.typ n hn hr;have hpos:=hA.pos;have one:∀(l:Ln)(x:Ln×Int),x∈[(l,(-1:Int))]->-1<=x.2/\x.2<f.b.length:=fun l x hx=>by{rw[List.mem_singleton]at hx;rw[hx];exact⟨Int.le_refl _,by simp only;omega⟩};intro x hx;unfold step uO at hx;obtain⟨p,hp⟩:∃p,aQ.op f.b n=p:=⟨_,rfl⟩;rw[hp]at hx;by_cases h1:p=1;{rw[az h1]at hx;exact one _ x hx};rw[ax h1]at hx;by_cases h2:p=2;{rw[az h2]at hx;exact one _ x hx};rw[ax h2]at hx;by_cases h3:p=3\/p=4;{rw[az h3]at hx;exact one _ x hx};rw[ax h3]at hx;by_cases h5:p=5;{rw[az h5]at hx;exact one _ x hx};rw[ax h5]at hx;by_cases h6:p=6;{rw[az h6]at hx;exact one _ x hx};rw[ax h6]at hx;by_cases h10:p=10;{rw[az h10]at hx;have hi:=hty.iff (by rw[hp];exact h10);rcases List.mem_cons.1 hx with rfl|hx;{exact⟨Int.le_refl _,by simp only;omega⟩};rw[List.mem_singleton]at hx;rw[hx];simp only;split;{rcases hi with⟨-,a,-⟩|⟨a,-⟩;{omega};omega};rcases hi with⟨a,-⟩|⟨-,a,b,-⟩;{omega};omega};rw[ax h10]at hx;by_cases h11:p=11;{rw[az h11]at hx;have hi:=hty.Qk (by rw[hp];exact h11);rw[List.mem_singleton]at hx;rw[hx];simp only;omega};rw[ax h11]at hx;by_cases Ar:p=13\/p=15;{rw[az Ar]at hx;have hg:=nC hA hn (if p=15 then 99 else arg f.b n);generalize gG f E H n (if p=15 then 99 else arg f.b n)=L at hx hg;simp only[List.mem_append,List.mem_singleton]at hx;rcases hx with hx|hx;{by_cases hc:L.2.2=1/\L.2.1≠bx f (H.getD n 0-1);{rw[az hc]at hx;exact one _ x hx};rw[ax hc]at hx;cases hx};rw[hx];simp only;omega};rw[ax Ar]at hx;by_cases Br:p=14;{rw[az Br]at hx;have hg:=nC hA hn (arg f.b n);have hnx:=hty.next (by omega) (by omega) (by omega) (by omega) (by omega);generalize gG f E H n (arg f.b n)=L at hx hg;simp only at hx;by_cases hc:L.2.2=1/\L.2.1≠bx f (H.getD n 0-1)-1;{rw[az hc]at hx;rcases List.mem_cons.1 hx with rfl|hx;{exact⟨Int.le_refl _,by simp only;omega⟩};rcases List.mem_cons.1 hx with rfl|hx;{exact⟨by simp only;omega,by simp only;omega⟩};rcases List.mem_cons.1 hx with rfl|hx;{exact⟨Int.le_refl _,by simp only;omega⟩};rw[List.mem_singleton]at hx;rw[hx];simp only;omega};rw[ax hc,List.mem_singleton]at hx;rw[hx];simp only;omega};rw[ax Br]at hx;by_cases h16:p=16;{rw[az h16]at hx;exact one _ x hx};rw[ax h16]at hx;by_cases EG:p=17;{rw[az EG]at hx;exact one _ x hx};rw[ax EG]at hx;by_cases h18:p=18;{rw[az h18]at hx;exact one _ x hx};rw[ax h18]at hx;by_cases h19:p=19;{rw[az h19]at hx;exact one _ x hx};rw[ax h19]at hx;cases hx
theorem Cu {fs:List Fn}{f:Fn}{E O H:List Int}(hA:Hg.Acc fs f E O H):∀n,n<=f.b.length->∀x∈(eD fs f E O H n).1,-1<=x.2/\x.2<f.b.length
 | 0,_,x,hx=>by
   unfold eD first at hx
   simp only[List.mem_map]at hx
   obtain⟨i,-,rfl⟩:=hx
   have:=hA.pos
   exact⟨Int.le_refl _,by simp only;omega⟩
 | n +1,hn,x,hx=>by
   unfold eD at hx
   simp only[List.mem_append]at hx
   rcases hx with hx|hx
   · exact Cu hA n (by omega) x hx
   · split at hx
     · exact Co hA (by omega) (by assumption) x hx
     · cases hx
theorem JH {fs:List Fn}{f:Fn}{E O H:List Int}(hA:Hg.Acc fs f E O H):∀x∈raw fs f E O H,-1<=x.2/\x.2<f.b.length:=fun x hx=>by
 unfold raw at hx
 rcases List.mem_append.1 hx with hx|hx
 · exact Cu hA _ (Nat.le_refl _) x hx
 · have:=hA.pos
   unfold last at hx
   split at hx
   · rcases List.mem_cons.1 hx with rfl|hx
     · exact⟨Int.le_refl _,by simp only;omega⟩
     · rw[List.mem_singleton]at hx
       rw[hx]
       exact⟨Int.le_refl _,by simp only;omega⟩
   · rw[List.mem_singleton]at hx
     rw[hx]
     exact⟨Int.le_refl _,by simp only;omega⟩
end Lw
theorem wV:∀(xs:List Lv)(k:Nat)(y:Int),k<xs.length->gy (xs.set k ((xs.getD k jy).1,(xs.getD k jy).2.1,(xs.getD k jy).2.2.1,(xs.getD k jy).2.2.2.1,y,(xs.getD k jy).2.2.2.2.2))=(gy xs).set (k*6+4) (.int .i64 y)
 |[],k,y,h=>by simp at h
 |x::xs,0,y,h=>rfl
 | x::xs,k+1,y,h=>by
   have ih:=wV xs k y (by simpa using h)
   have e:(x::xs).getD (k+1) jy=xs.getD k jy:=rfl
   rw[e,List.set_cons_succ,kg,ih,kg,show(k+1)*6+4=k*6+4+1+1+1+1+1+1 by omega]
   simp only[List.set_cons_succ]
namespace Lw
open Hg (arg)
structure kr (fs:List Fn)(f:Fn)(x:Ln×Int):Prop where
 ok:∀N:Int,0<=N->N<=299->Ln.ok (if 0<=x.2 then{x.1 with n:=N}else x.1)=true
 mF:x.1.k=5\/x.1.k=6->0<=x.2
 st:Ln.st x.1<=wd f+20
 us:∀y∈Ln.us x.1,y<=wd f+20
 call:x.1.k=7->x.2<0/\0<=x.1.n/\x.1.n<fs.length/\(x.1.l.length:Int)=(fs.getD x.1.n.toNat .z).a
theorem mH {b m:Int}(h0:0<=b)(h1:b<=m)(hm:m<=39):Ln.bx b=true:=Ln.fM.2 ⟨h0,by omega⟩
variable {fs : List Fn} {f : Fn}
theorem Sq (hw:0<=wd f/\wd f<=6){d n:Int}(hd:0<=d/\d<=wd f+20)(hn:Wd.ok n=true):kr fs f (⟨1,d,0,0,n,[]⟩,-1):=by refine⟨fun N h0 h1=>?_,fun h=>by simp at h,by simp[Ln.st];omega,fun y hy=>by simp[Ln.us,Ln.kH]at hy,fun h=>by simp at h⟩;rw[ax (by show¬(0:Int)<=-1;omega)];simp[Ln.ok,Ln.asks,Ln.q0,mH hd.1 hd.2 (by omega),hn]
theorem qH (hw:0<=wd f/\wd f<=6){k d a:Int}(hk:k=2\/k=4)(hd:0<=d/\d<=wd f+20)(ha:0<=a/\a<=wd f+20):kr fs f (⟨k,d,a,0,0,[]⟩,-1):=by refine⟨fun N h0 h1=>?_,fun h=>by simp at h;omega,?_,fun y hy=>?_,fun h=>by simp at h;omega⟩;{rw[ax (by show¬(0:Int)<=-1;omega)];rcases hk with rfl|rfl<;>simp[Ln.ok,Ln.asks,Ln.q0,mH hd.1 hd.2 (by omega),mH ha.1 ha.2 (by omega)]};{rcases hk with rfl|rfl<;>simp[Ln.st]<;>omega};rcases hk with rfl|rfl<;>simp[Ln.us]at hy<;>omega
theorem ag2 (hw:0<=wd f/\wd f<=6){d a b n:Int}(hd:0<=d/\d<=wd f+20)(ha:0<=a/\a<=wd f+20)(hb:0<=b/\b<=wd f+20)(hn:1<=n/\n<=12):kr fs f (⟨3,d,a,b,n,[]⟩,-1):=by refine⟨fun N h0 h1=>?_,fun h=>by simp at h,by simp[Ln.st];omega,fun y hy=>?_,fun h=>by simp at h⟩;{rw[ax (by show¬(0:Int)<=-1;omega)];simp[Ln.ok,Ln.asks,mH hd.1 hd.2 (by omega),mH ha.1 ha.2 (by omega),mH hb.1 hb.2 (by omega),Wd.l6 hn.1 hn.2]};have:y∈Ln.put [a] b:=by{simpa[Ln.us]using hy};rcases Ln.rZ this with rfl|h;{omega};simp at h;omega
theorem Sl (hw:0<=wd f/\wd f<=6){t:Int}(ht:0<=t):kr fs f (⟨5,0,0,0,0,[]⟩,t):=by refine⟨fun N h0 h1=>?_,fun _=>ht,by simp[Ln.st];omega,fun y hy=>by simp[Ln.us,Ln.kH]at hy,fun h=>by simp at h⟩;rw[az ht];simp[Ln.ok,Ln.asks,Ln.q0,Wd.l6 h0 h1]
theorem Tt (hw:0<=wd f/\wd f<=6){a t:Int}(ha:0<=a/\a<=wd f+20)(ht:0<=t):kr fs f (⟨6,0,a,0,0,[]⟩,t):=by refine⟨fun N h0 h1=>?_,fun _=>ht,by simp[Ln.st];omega,fun y hy=>by simp[Ln.us]at hy;omega,fun h=>by simp at h⟩;rw[az ht];simp[Ln.ok,Ln.asks,Ln.q0,Wd.l6 h0 h1,mH ha.1 ha.2 (by omega)]
theorem ag8 (hw:0<=wd f/\wd f<=6){d n:Int}{l:List Int}(hd:0<=d/\d<=wd f+20)(hn:0<=n/\n<=3/\n<fs.length)(hl:∀y∈l,0<=y/\y<=wd f+20)(hl3:l.length<=3)(ha:(l.length:Int)=(fs.getD n.toNat .z).a):kr fs f (⟨7,d,0,0,n,l⟩,-1):=by refine⟨fun N h0 h1=>?_,fun h=>by simp at h,by simp[Ln.st];omega,fun y hy=>?_,fun h=>⟨by simp,hn.1,hn.2.2,ha⟩⟩;{rw[ax (by show¬(0:Int)<=-1;omega)];have:∀y∈l,Ln.bx y=true:=fun y hy=>mH (hl y hy).1 (hl y hy).2 (by omega);simp[Ln.ok,Ln.asks,Ln.q0,mH hd.1 hd.2 (by omega),Wd.l6 hn.1 hn.2.1,hl3];exact this};have:y∈Ln.kH l:=by{simpa[Ln.us]using hy};rcases Ln.I6 l [] this with h|h;{exact(hl y h).2};cases h
theorem agC (hw:0<=wd f/\wd f<=6){d a n:Int}(hd:0<=d/\d<=wd f+20)(ha:0<=a/\a<=wd f+20)(hn:0<=n/\n<=255):kr fs f (⟨8,d,a,0,n,[]⟩,-1):=by refine⟨fun N h0 h1=>?_,fun h=>by simp at h,by simp[Ln.st];omega,fun y hy=>by simp[Ln.us]at hy;omega,fun h=>by simp at h⟩;rw[ax (by show¬(0:Int)<=-1;omega)];simp[Ln.ok,Ln.asks,Ln.q0,mH hd.1 hd.2 (by omega),mH ha.1 ha.2 (by omega),Wd.l6 hn.1 hn.2]
theorem agT (hw:0<=wd f/\wd f<=6){a b n:Int}(ha:0<=a/\a<=wd f+20)(hb:0<=b/\b<=wd f+20)(hn:0<=n/\n<=255):kr fs f (⟨9,0,a,b,n,[]⟩,-1):=by refine⟨fun N h0 h1=>?_,fun h=>by simp at h,by simp[Ln.st];omega,fun y hy=>?_,fun h=>by simp at h⟩;{rw[ax (by show¬(0:Int)<=-1;omega)];simp[Ln.ok,Ln.asks,Ln.q0,mH ha.1 ha.2 (by omega),mH hb.1 hb.2 (by omega),Wd.l6 hn.1 hn.2]};have:y∈Ln.put [a] b:=by{simpa[Ln.us]using hy};rcases Ln.rZ this with rfl|h;{omega};simp at h;omega
theorem SF (hw:0<=wd f/\wd f<=6){a:Int}(ha:0<=a/\a<=wd f+20):kr fs f (⟨10,0,a,0,0,[]⟩,-1):=by refine⟨fun N h0 h1=>?_,fun h=>by simp at h,by simp[Ln.st];omega,fun y hy=>by simp[Ln.us]at hy;omega,fun h=>by simp at h⟩;rw[ax (by show¬(0:Int)<=-1;omega)];simp[Ln.ok,Ln.asks,Ln.q0,mH ha.1 ha.2 (by omega)]
theorem acd (hw:0<=wd f/\wd f<=6):kr fs f (⟨11,0,0,0,0,[]⟩,-1):=by refine⟨fun N h0 h1=>?_,fun h=>by simp at h,by simp[Ln.st];omega,fun y hy=>by simp[Ln.us,Ln.kH]at hy,fun h=>by simp at h⟩;rw[ax (by show¬(0:Int)<=-1;omega)];simp[Ln.ok,Ln.asks,Ln.q0]
theorem pg (xs:List (Int×Int))(E:List Int)(n:Nat):∀k,(aQ.dP xs E n k).length<=k
 |0=>by simp[aQ.dP]
 | k+1=>by
   rw[aQ.sZ]
   have:=pg xs E n k
   split
   · simp only[List.length_cons];omega
   · omega
theorem Jw {E O H:List Int}(hA:Hg.Acc fs f E O H)(hf:f.g=0\/f.g=1){n:Nat}{h a:Int}(hJ:Hg.jS f E H n h a)(h1:(gG f E H n a).2.2=1):wd f<=(gG f E H n a).2.1/\(gG f E H n a).2.1<=wd f+20/\1<=h:=by by_cases hlt:a.toNat<(aQ.dP f.b E n n).length;{obtain⟨t,et,htn,hop,hH0,hst,hle,hae,-⟩:=hJ.1 hlt;rw[uf hlt (t:=t) et]at h1 ⊢;have htl:t<f.b.length:=by{rcases Nat.lt_or_ge t f.b.length with h|h;{exact h};exfalso;have:H.getD t 0=0:=by{rw[ah,List.getElem?_eq_none (by rw[hA.lH];omega)];rfl};have he:aQ.op f.b t=0:=by{unfold aQ.op;rw[ah,List.getElem?_eq_none (by omega)];rfl};rw[he]at hop;simp[St.opens]at hop};have htop:=hA.eG t htl;unfold Hg.kL at hst hle;rw[az hH0]at hst hle;unfold bx;by_cases h9:aQ.op f.b t=9;{rw[az h9]at h1;simp at h1};rw[ax h9]at h1 ⊢;by_cases h10:aQ.op f.b t=10;{rw[az h10]at h1 ⊢ hst hle;simp only at h1 ⊢;omega};rw[ax h10]at h1 ⊢ hst hle;simp only at h1 ⊢;omega};have:=hJ.2 hlt;rw[vk hlt]at h1 ⊢;simp only[bx]at h1 ⊢;omega
theorem fJ {E O H:List Int}(hA:Hg.Acc fs f E O H)(hf:0<=f.a/\f.a<=3/\0<=f.l/\f.l<=3/\(f.g=0\/f.g=1)/\f.b.length<=80)(hfs:∀k,k<fs.length->0<=(fs.getD k .z).a/\(fs.getD k .z).a<=3)(hst:St.dz f.b=true){n:Nat}(hn:n<f.b.length)(hr:0<=H.getD n 0):∀x∈step fs f E O H n,kr fs f x:=by have hty:=hA.typ n hn hr;have OV:=Co hA hn hr;have htop:=hA.eG n hn;have hw:0<=wd f/\wd f<=6:=by{unfold wd;omega};have hok:St.ok (aQ.op f.b n) (arg f.b n)=true:=St.bA hst hn;have htake:=hty.take;obtain⟨p,hp⟩:∃p,aQ.op f.b n=p:=⟨_,rfl⟩;have ebx:bx f (H.getD n 0-1)=wd f+(H.getD n 0-1):=rfl;intro x hx;have hgx:=OV x hx;unfold step uO at hx;rw[hp]at hx hok htake;rw[ebx]at hx;simp only[St.ok,au,Wd.bi]at hok;have hag:St.least p<=arg f.b n:=hok.2.1;have hal:arg f.b n<=St.dA p:=hok.2.2;by_cases h1:p=1;{subst h1;rw[az rfl,List.mem_singleton]at hx;rw[hx];have e1:St.least 1=0:=by{decide};have e2:St.dA 1=4294967295:=by{decide};rw[e1]at hag;rw[e2]at hal;exact Sq hw (by omega) (Wd.l6 hag hal)};rw[ax h1]at hx;by_cases h2:p=2;{subst h2;have:=hty.loc (.inl hp);have e1:St.least 2=0:=by{decide};rw[az rfl,List.mem_singleton]at hx;rw[hx];exact qH hw (.inl rfl) (by omega) (by unfold wd;omega)};rw[ax h2]at hx;by_cases h3:p=3\/p=4;{have:=hty.loc (.inr (by rw[hp];exact h3));have e1:St.least p=0:=by{unfold St.least;rw[ax (by omega)]};have e2:Hg.tk fs p (arg f.b n)=1:=by{unfold Hg.tk;rcases h3 with rfl|rfl;{rfl};rfl};rw[az h3,List.mem_singleton]at hx;rw[hx];exact qH hw (.inl rfl) (by unfold wd;omega) (by omega)};rw[ax h3]at hx;by_cases h5:p=5;{subst h5;have e1:St.least 5=1:=by{decide};have e2:St.dA 5=12:=by{decide};have e3:Hg.tk fs 5 (arg f.b n)=2:=rfl;rw[az rfl,List.mem_singleton]at hx;rw[hx];exact ag2 hw (by omega) (by omega) (by omega) (by omega)};rw[ax h5]at hx;by_cases h6:p=6;{subst h6;have e3:Hg.tk fs 6 (arg f.b n)=1:=rfl;rw[az rfl,List.mem_singleton]at hx;rw[hx];exact qH hw (.inr rfl) (by omega) (by omega)};rw[ax h6]at hx;by_cases h10:p=10;{subst h10;have e3:Hg.tk fs 10 (arg f.b n)=1:=rfl;rw[az rfl]at hx;have hi:=hty.iff hp;rcases List.mem_cons.1 hx with rfl|hx;{exact qH hw (.inr rfl) (by omega) (by omega)};rw[List.mem_singleton]at hx;rw[hx];refine Tt hw (by omega) ?_;split;{omega};rcases hi with⟨a,-⟩|⟨-,a,b,-⟩;{omega};omega};rw[ax h10]at hx;by_cases h11:p=11;{subst h11;rw[az rfl]at hx;have hi:=hty.Qk hp;rw[List.mem_singleton]at hx;rw[hx];exact Sl hw hi.1};rw[ax h11]at hx;by_cases Ar:p=13\/p=15;{rw[az Ar]at hx;have hg:=nC hA hn (if p=15 then 99 else arg f.b n);have hJ:Hg.jS f E H n (H.getD n 0) (if p=15 then 99 else arg f.b n):=by{by_cases uI:p=15;{rw[az uI];have hlen:=pg f.b E n n;exact⟨fun h=>by exfalso;simp at h;omega,fun _=>hty.ret (by rw[hp];exact uI)⟩};rw[ax uI];exact hty.jump (by rw[hp];omega)};have hlf:=Jw hA hf.2.2.2.2.1 hJ;generalize gG f E H n (if p=15 then 99 else arg f.b n)=L at hx hg hlf;simp only[List.mem_append,List.mem_singleton]at hx;rcases hx with hx|hx;{by_cases hc:L.2.2=1/\L.2.1≠wd f+(H.getD n 0-1);{rw[az hc,List.mem_singleton]at hx;have:=hlf hc.1;rw[hx];exact qH hw (.inl rfl) (by omega) (by omega)};rw[ax hc]at hx;cases hx};rw[hx];exact Sl hw hg.1};rw[ax Ar]at hx;by_cases Br:p=14;{subst Br;have e3:Hg.tk fs 14 (arg f.b n)=1:=rfl;rw[az rfl]at hx;have hg:=nC hA hn (arg f.b n);have hlf:=Jw hA hf.2.2.2.2.1 (hty.jif hp);generalize gG f E H n (arg f.b n)=L at hx hg hlf;simp only at hx;by_cases hc:L.2.2=1/\L.2.1≠wd f+(H.getD n 0-1)-1;{rw[az hc]at hx;have hl2:=hlf hc.1;rcases List.mem_cons.1 hx with rfl|hx;{exact qH hw (.inr rfl) (by omega) (by omega)};rcases List.mem_cons.1 hx with rfl|hx;{exact Tt hw (by omega) (by omega)};rcases List.mem_cons.1 hx with rfl|hx;{exact qH hw (.inl rfl) (by omega) (by omega)};rw[List.mem_singleton]at hx;rw[hx];exact Sl hw hg.1};rw[ax hc,List.mem_singleton]at hx;rw[hx];exact Tt hw (by omega) hg.1};rw[ax Br]at hx;by_cases h16:p=16;{subst h16;have e1:St.least 16=0:=by{decide};have e2:St.dA 16=3:=by{decide};have e3:Hg.tk fs 16 (arg f.b n)=(fs.getD (arg f.b n).toNat .z).a:=rfl;have hc:=hty.call hp;have ha:=hfs (arg f.b n).toNat (by omega);rw[az rfl,List.mem_singleton]at hx;rw[hx];have hle:((args (wd f+(H.getD n 0-1)) (fs.getD (arg f.b n).toNat .z).a).length:Int)=(fs.getD (arg f.b n).toNat .z).a:=by{unfold args;simp only[List.length_map,List.length_range];omega};refine ag8 hw ?_ (by omega) ?_ (by omega) hle;{split<;>omega};intro y hy;unfold args at hy;simp only[List.mem_map,List.mem_range]at hy;obtain⟨i,hi,rfl⟩:=hy;omega};rw[ax h16]at hx;by_cases EG:p=17;{subst EG;have e1:St.least 17=0:=by{decide};have e2:St.dA 17=255:=by{decide};have e3:Hg.tk fs 17 (arg f.b n)=1:=rfl;rw[az rfl,List.mem_singleton]at hx;rw[hx];exact agC hw (by omega) (by omega) (by omega)};rw[ax EG]at hx;by_cases h18:p=18;{subst h18;have e1:St.least 18=0:=by{decide};have e2:St.dA 18=255:=by{decide};have e3:Hg.tk fs 18 (arg f.b n)=2:=rfl;rw[az rfl,List.mem_singleton]at hx;rw[hx];exact agT hw (by omega) (by omega) (by omega)};rw[ax h18]at hx;by_cases h19:p=19;{rw[az h19,List.mem_singleton]at hx;rw[hx];exact acd hw};rw[ax h19]at hx;cases hx
theorem BV {E O H:List Int}(hA:Hg.Acc fs f E O H)(hf:0<=f.a/\f.a<=3/\0<=f.l/\f.l<=3/\(f.g=0\/f.g=1)/\f.b.length<=80)(hfs:∀k,k<fs.length->0<=(fs.getD k .z).a/\(fs.getD k .z).a<=3)(hst:St.dz f.b=true):∀n,n<=f.b.length->∀x∈(eD fs f E O H n).1,kr fs f x
 | 0,_,x,hx=>by
   unfold eD first at hx
   simp only[List.mem_map,List.mem_range]at hx
   obtain⟨i,hi,rfl⟩:=hx
   exact Sq (by unfold wd;omega) (by unfold wd;omega) (by decide)
 | n +1,hn,x,hx=>by
   unfold eD at hx
   simp only[List.mem_append]at hx
   rcases hx with hx|hx
   · exact BV hA hf hfs hst n (by omega) x hx
   · split at hx
     · exact fJ hA hf hfs hst (by omega) (by assumption) x hx
     · cases hx
theorem RH {E O H:List Int}(hA:Hg.Acc fs f E O H)(hf:0<=f.a/\f.a<=3/\0<=f.l/\f.l<=3/\(f.g=0\/f.g=1)/\f.b.length<=80)(hfs:∀k,k<fs.length->0<=(fs.getD k .z).a/\(fs.getD k .z).a<=3)(hst:St.dz f.b=true):∀x∈raw fs f E O H,kr fs f x:=fun x hx=>by
 unfold raw at hx
 have hw:0<=wd f/\wd f<=6:=by unfold wd;omega
 rcases List.mem_append.1 hx with hx|hx
 · exact BV hA hf hfs hst _ (Nat.le_refl _) x hx
 · unfold last at hx
   split at hx
   · rcases List.mem_cons.1 hx with rfl|hx
     · exact Sq hw (by omega) (by decide)
     · rw[List.mem_singleton]at hx
       rw[hx]
       exact SF hw (by omega)
   · rw[List.mem_singleton]at hx
     rw[hx]
     exact SF hw (by omega)
theorem uH (fs:List Fn)(f:Fn)(E O H:List Int):∀n j,j<n->0<=(eD fs f E O H n).2.getD j 0/\(eD fs f E O H n).2.getD j 0<=((eD fs f E O H n).1.length:Int)
 |0,j,h=>by omega
 | n +1,j,h=>by
   have hl:=(nD fs f E O H n).2
   unfold eD
   simp only[List.length_append]
   by_cases e:j=n
   · subst e
     rw[ah,List.getElem?_append_right (by omega),hl,Nat.sub_self]
     simp only[List.getElem?_cons_zero,Option.getD_some]
     omega
   · have ih:=uH fs f E O H n j (by omega)
     rw[ah,List.getElem?_append_left (by omega),←ah]
     omega
theorem D6 (fs:List Fn)(f:Fn)(E O H:List Int):(eD fs f E O H f.b.length).1.length<(raw fs f E O H).length/\(raw fs f E O H).length<=f.l.toNat+4*f.b.length+2:=by have h:=(nD fs f E O H f.b.length).1;unfold raw last;rw[List.length_append];split;{simp only[List.length_cons,List.length_nil];omega};simp only[List.length_cons,List.length_nil];omega
theorem Qa (fs:List Fn)(f:Fn)(E O H:List Int){j:Nat}(h:j<f.b.length):0<=(dQ fs f E O H).getD j 0/\(dQ fs f E O H).getD j 0<((raw fs f E O H).length:Int):=by have h1:=uH fs f E O H f.b.length j h;have h2:=(D6 fs f E O H).1;unfold dQ;omega
theorem Rh {fs:List Fn}{f:Fn}{E O H:List Int}(h3:(raw fs f E O H).length<=300){x:Ln×Int}(hF:kr fs f x)(hg:-1<=x.2/\x.2<f.b.length):Ln.jZ (raw fs f E O H).length (pQ (dQ fs f E O H) x)=true/\Ln.st (pQ (dQ fs f E O H) x)<=wd f+20/\(∀y∈Ln.us (pQ (dQ fs f E O H) x),y<=wd f+20)/\((pQ (dQ fs f E O H) x).k=7->0<=(pQ (dQ fs f E O H) x).n/\(pQ (dQ fs f E O H) x).n<fs.length/\((pQ (dQ fs f E O H) x).l.length:Int)=(fs.getD (pQ (dQ fs f E O H) x).n.toNat .z).a)/\(pQ (dQ fs f E O H) x).k=x.1.k:=by unfold pQ;by_cases h0:0<=x.2;{have hs:=Qa fs f E O H (j:=x.2.toNat) (by omega);have ho:=hF.ok ((dQ fs f E O H).getD x.2.toNat 0) hs.1 (by omega);rw[az h0]at ho ⊢;refine⟨?_,hF.st,hF.us,fun h=>by have:=(hF.call h).1;omega,rfl⟩;unfold Ln.jZ;rw[ho];have hs2:=hs;rw[ah]at hs2;simp;omega};have ho:=hF.ok 0 (by omega) (by omega);rw[ax h0]at ho ⊢;refine⟨?_,hF.st,hF.us,fun h=>(hF.call h).2,rfl⟩;unfold Ln.jZ;rw[ho];have:=hF.mF;simp;omega
theorem Qi {E O H:List Int} (hA:Hg.Acc fs f E O H) (hf:0<=f.a/\f.a<=3/\0<=f.l/\f.l<=3/\(f.g=0\/f.g=1)/\f.b.length<=80) (hfs:∀k,k<fs.length->0<=(fs.getD k .z).a/\(fs.getD k .z).a<=3) (hst:St.dz f.b=true):(f.b.length<=50->func fs f E O H≠[])/\(func fs f E O H≠[]->Ln.isOk (func fs f E O H)=true/\((func fs f E O H).getD ((func fs f E O H).length-1) .z).k=10/\Ln.boxes (func fs f E O H)<=wd f+21/\∀y∈func fs f E O H,y.k=7->0<=y.n/\y.n<fs.length/\(y.l.length:Int)=(fs.getD y.n.toNat .z).a):=by
 have hrl:=D6 fs f E O H
 have hne:raw fs f E O H≠[]:=fun e=>by rw[e]at hrl;simp at hrl
 refine⟨fun h5=>?_,fun h=>?_⟩
 · unfold func;rw[az (by omega)];intro e;exact hne (by simpa using e)
 · have h3:(raw fs f E O H).length<=300:=by rcases Nat.lt_or_ge 300 (raw fs f E O H).length with h'|h';{exfalso;apply h;unfold func;rw[ax (by omega)]};exact h'
   have e:func fs f E O H=(raw fs f E O H).map (pQ (dQ fs f E O H)):=by unfold func;rw[az h3]
   rw[e]
   have hall:∀y∈(raw fs f E O H).map (pQ (dQ fs f E O H)),Ln.jZ (raw fs f E O H).length y=true/\Ln.st y<=wd f+20/\(∀z∈Ln.us y,z<=wd f+20)/\(y.k=7->0<=y.n/\y.n<fs.length/\(y.l.length:Int)=(fs.getD y.n.toNat .z).a):=fun y hy=>by obtain⟨x,hx,rfl⟩:=List.mem_map.1 hy;have:=Rh h3 (RH hA hf hfs hst x hx) (JH hA x hx);exact⟨this.1,this.2.1,this.2.2.1,this.2.2.2.1⟩
   have hlast:(((raw fs f E O H).map (pQ (dQ fs f E O H))).getD (((raw fs f E O H).map (pQ (dQ fs f E O H))).length-1) .z).k=10:=by rw[List.length_map,ah,List.getElem?_map];have hl:(raw fs f E O H)[(raw fs f E O H).length-1]?=(last f)[(last f).length-1]?:=by{(have hp:0<(last f).length:=by unfold last;split<;>simp);have e2:(raw fs f E O H).length=(eD fs f E O H f.b.length).1.length+(last f).length:=by{unfold raw;rw[List.length_append]};rw[e2];unfold raw;rw[List.getElem?_append_right (by omega)];congr 1;omega};rw[hl];unfold last;split;{rfl};rfl
   refine⟨?_,hlast,?_,fun y hy=>(hall y hy).2.2.2⟩
   · unfold Ln.isOk Ln.mU;rw[hlast];simp only[List.length_map,au,decide_eq_true_eq,List.all_eq_true];exact⟨⟨by omega,h3⟩,fun y hy=>(hall y hy).1,by decide⟩
   · unfold Ln.boxes
     split
     · unfold Ln.Oo
       have hmx:∀a b c:Int,a<=c->b<=c->Ln.mx a b<=c:=fun a b c h1 h2=>by unfold Ln.mx;split<;>assumption
       have aiF:∀(l:List Int)(m:Int),m<=wd f+21->(∀z∈l,z<=wd f+20)->l.foldl (fun n y=>Ln.mx n (y+1)) m<=wd f+21:=by
        intro l
        induction l with
        |nil=>intro m hm _;exact hm
        |cons z r ih=>
         intro m hm hz
         exact ih _ (hmx _ _ _ hm (by have:=hz z (by simp);omega)) (fun y hy=>hz y (by simp[hy]))
       have acV:∀(l:List Ln)(m:Int),m<=wd f+21->(∀y∈l,Ln.st y<=wd f+20/\∀z∈Ln.us y,z<=wd f+20)->l.foldl Ln.most m<=wd f+21:=by
        intro l
        induction l with
        |nil=>intro m hm _;exact hm
        |cons z r ih=>
         intro m hm hz
         refine ih _ ?_ (fun y hy=>hz y (by simp[hy]))
         unfold Ln.most
         have:=hz z (by simp)
         exact aiF _ _ (hmx _ _ _ hm (by omega)) this.2
       exact acV _ 0 (by unfold wd;omega) (fun y hy=>⟨(hall y hy).2.1,(hall y hy).2.2.1⟩)
     · unfold wd;omega
end Lw
namespace aQ
theorem Rv {xs:List (Int×Int)}(h:isOk xs=true)(j:Nat):-1<=aO (bH xs) j:=by
 have h2:(all xs).2.2=true:=by rw[isOk,au]at h;exact h.2
 obtain⟨⟨m,hm,h12,hi⟩,-⟩:=Inv.mF (xs:=xs) (Ef:=(all xs).1) (Of:=(all xs).2.1) (xs.length+1) 0 _ _ _ (Inv.first xs) (by
  show all xs=_
  rw[←h2])
 rw[bH,az h]
 exact(hi.low j).2.2
end aQ
namespace Hg
end Hg
namespace Lw
theorem Ob (fs:List Fn)(f:Fn)(E O H:List Int):∀n j,j<n->(eD fs f E O H n).2.getD j 0=((eD fs f E O H j).1.length:Int)
 |0,j,h=>by omega
 | n +1,j,h=>by
   have hl:=(nD fs f E O H n).2
   by_cases e:j=n
   · subst e
     show((eD fs f E O H j).2++[((eD fs f E O H j).1.length:Int)]).getD j 0=_
     rw[ah,List.getElem?_append_right (by omega),hl,Nat.sub_self]
     simp
   · rw[←Ob fs f E O H n j (by omega)]
     show((eD fs f E O H n).2++[((eD fs f E O H n).1.length:Int)]).getD j 0=_
     rw[ah,List.getElem?_append_left (by omega),←ah]
theorem PZ (fs:List Fn)(f:Fn)(E O H:List Int){j:Nat}(h:j<f.b.length):(dQ fs f E O H).getD j 0=((eD fs f E O H j).1.length:Int):=Ob fs f E O H _ j h
theorem rR (fs:List Fn)(f:Fn)(E O H:List Int)(n:Nat):(eD fs f E O H (n+1)).1=(eD fs f E O H n).1++(if 0<=H.getD n 0 then step fs f E O H n else[])/\(eD fs f E O H (n+1)).2=(eD fs f E O H n).2++[((eD fs f E O H n).1.length:Int)]:=⟨rfl,rfl⟩
end Lw
namespace Sm
open Mn (Rs words)
open Lw (wd eD raw dQ pQ func)
open Hg (arg)
def R (cs:List (List Ln))(N d k at':Nat)(B mem:List Int):Rs:=Rl.run cs (N+1) N d k at' B mem
variable {cs : List (List Ln)} {N d k at' : Nat} {B mem : List Int}
theorem Sc {a:Nat}{b m:List Int}(h:Rl.aT cs k at' B mem= .next a b m):R cs (N+1) d k at' B mem=R cs N d k a b m:=Rl.dR h
theorem Rf {v:Int}(h:Rl.aT cs k at' B mem= .qP v):R cs (N+1) d k at' B mem= .done v mem N:=Rl.jk h
theorem aci {c:Int}(h:Rl.aT cs k at' B mem= .halt c):R cs (N+1) d k at' B mem= .stop c mem N:=Rl.run_halt h
theorem ab4 {x q:Nat}{args:List Int}(h:Rl.aT cs k at' B mem= .call x q args)(hd:12<=d+1):R cs (N+1) d k at' B mem= .stop 6 mem N:=Rl.ed h hd
theorem acu {x q l:Nat}{c:Int}{args m:List Int}(h:Rl.aT cs k at' B mem= .call x q args)(hd:¬12<=d+1)(hr:R cs N (d+1) q 0 (Rl.jN args) mem= .stop c m l):R cs (N+1) d k at' B mem= .stop c m l:=Rl.dU h hd hr
theorem abE {x q l:Nat}{v:Int}{args m:List Int}(h:Rl.aT cs k at' B mem= .call x q args)(hd:¬12<=d+1)(hr:R cs N (d+1) q 0 (Rl.jN args) mem= .done v m l):R cs (N+1) d k at' B mem=R cs l d k (at'+1) (B.set x v) m:=by have hl:=(Rl.eu (cs:=cs) (N+1) N (d+1) q 0 (Rl.jN args) mem).1;have e:=Rl.dL h hd hr;unfold R at hr ⊢;rw[hr]at hl;simp only[Rs.left]at hl;rw[e];exact Rl.jQ _ _ _ _ _ _ _ _ (by omega) (by omega)
def iV (cs:List (List Ln))(k at':Nat)(B mem:List Int)(u a:Nat)(b m:List Int):Prop:=∀d N,R cs (N+u) d k at' B mem=R cs N d k a b m
theorem iV.refl (cs:List (List Ln))(k at':Nat)(B mem:List Int):iV cs k at' B mem 0 at' B mem:=fun _ _=>rfl
theorem iV.one {a:Nat}{b m:List Int}(h:Rl.aT cs k at' B mem= .next a b m):iV cs k at' B mem 1 a b m:=fun _ _=>Sc h
theorem iV.andThen {u v a a':Nat}{b m b' m':List Int}(h:iV cs k at' B mem u a b m)(h':iV cs k a b m v a' b' m'):iV cs k at' B mem (u+v) a' b' m':=fun d N=>by
 rw[show N+(u+v)=N+v+u by omega,h d (N+v),h' d N]
structure Rel (pile loc B:List Int):Prop where
 lB:B.length=40
 lo:∀i,i<loc.length->B.getD i 0=loc.getD i 0
 pi:∀j,j<pile.length->B.getD (loc.length+j) 0=pile.getD j 0
theorem getD_take {l:List Int}{q j:Nat}(h:j<q):(l.take q).getD j 0=l.getD j 0:=by rw[ah,ah,List.getElem?_take,az h]
theorem PT {l m:List Int}{j:Nat}(h:j<l.length):(l++m).getD j 0=l.getD j 0:=by rw[ah,ah,List.getElem?_append_left h]
theorem Pd {l:List Int}{v:Int}{j:Nat}(h:j=l.length):(l++[v]).getD j 0=v:=by rw[ah,List.getElem?_append_right (by omega),h,Nat.sub_self];rfl
theorem Rel.put {pile loc:List Int}(h:Rel pile loc B){q:Nat}(hq:q<=pile.length)(hl:loc.length+q<40)(v:Int):Rel (pile.take q++[v]) loc (B.set (loc.length+q) v):=by have hlt:(pile.take q).length=q:=by{rw[List.length_take];omega};refine⟨by rw[List.length_set];exact h.lB,fun i hi=>?_,fun j hj=>?_⟩;{rw[Mm.iK (by rw[h.lB];omega),ax (by omega)];exact h.lo i hi};rw[List.length_append,hlt,List.length_singleton]at hj;rw[Mm.iK (by rw[h.lB];omega)];by_cases e:j=q;{rw[az (by omega),Pd (by omega)]};rw[ax (by omega),PT (by omega),getD_take (by omega)];exact h.pi j (by omega)
theorem Rel.take {pile loc:List Int}(h:Rel pile loc B)(q:Nat):Rel (pile.take q) loc B:=⟨h.lB,h.lo,fun j hj=>by
 rw[List.length_take]at hj
 rw[getD_take (by omega)]
 exact h.pi j (by omega)⟩
theorem Rel.Ta {pile loc:List Int}(h:Rel pile loc B){i:Nat}(hi:i<loc.length)(hl:loc.length<=40)(v:Int):Rel pile (loc.set i v) (B.set i v):=by refine⟨by rw[List.length_set];exact h.lB,fun j hj=>?_,fun j hj=>?_⟩;{rw[List.length_set]at hj;rw[Mm.iK (by rw[h.lB];omega),Mm.iK hi,h.lo j hj]};rw[List.length_set,Mm.iK (by rw[h.lB];omega),ax (by omega)];exact h.pi j hj
theorem Rel.spare {pile loc:List Int}(h:Rel pile loc B){i:Nat}(hi:loc.length+pile.length<=i)(v:Int):Rel pile loc (B.set i v):=by by_cases hb:i<B.length;{refine⟨by rw[List.length_set];exact h.lB,fun j hj=>?_,fun j hj=>?_⟩;{rw[Mm.iK hb,ax (by omega)];exact h.lo j hj};rw[Mm.iK hb,ax (by omega)];exact h.pi j hj};rw[List.set_eq_of_length_le (by omega)];exact h
theorem Rel.eG {pile loc:List Int}(h:Rel pile loc B)(h0:0<pile.length):B.getD (loc.length+(pile.length-1)) 0=Mn.eG pile:=h.pi _ (by omega)
theorem Rel.under {pile loc:List Int}(h:Rel pile loc B)(h0:1<pile.length):B.getD (loc.length+(pile.length-2)) 0=Mn.under pile:=h.pi _ (by omega)
def pos (fs:List Fn)(f:Fn)(E O H:List Int)(j:Nat):Nat:=(eD fs f E O H j).1.length
variable {fs : List Fn} {f : Fn} {E O H : List Int}
theorem wz:∀(n j:Nat),j<=n->∃r,(eD fs f E O H n).1=(eD fs f E O H j).1++r
 |0,j,h=>⟨[],by rw[show j=0 by omega];simp⟩
 | n +1,j,h=>by
   by_cases e:j=n+1
   · exact⟨[],by rw[e];simp⟩
   · obtain⟨r,hr⟩:=wz n j (by omega)
     exact⟨r++(if 0<=H.getD n 0 then Lw.step fs f E O H n else[]),by rw[(Lw.rR fs f E O H n).1,hr,List.append_assoc]⟩
theorem Dx (h3:(raw fs f E O H).length<=300){i:Nat}{x:Ln×Int}(h:(raw fs f E O H)[i]?=some x):(func fs f E O H).getD i .z=pQ (dQ fs f E O H) x:=by unfold func;rw[az h3,ah,List.getElem?_map,h];rfl
theorem PN (h3:(raw fs f E O H).length<=300){j:Nat}(hj:j<f.b.length)(h0:0<=H.getD j 0){i:Nat}{x:Ln×Int}(h:(Lw.step fs f E O H j)[i]?=some x):(func fs f E O H).getD (pos fs f E O H j+i) .z=pQ (dQ fs f E O H) x:=by refine Dx h3 ?_;obtain⟨r,hr⟩:=wz (fs:=fs) (f:=f) (E:=E) (O:=O) (H:=H) f.b.length (j+1) (by omega);have hi:i<(Lw.step fs f E O H j).length:=by{rcases Nat.lt_or_ge i (Lw.step fs f E O H j).length with q|q;{exact q};rw[List.getElem?_eq_none q]at h;cases h};have e:=(Lw.rR fs f E O H j).1;rw[az h0]at e;unfold raw;rw[hr,e];rw[List.append_assoc,List.append_assoc,List.getElem?_append_right (by unfold pos;omega)];unfold pos;rw[Nat.add_sub_cancel_left,List.getElem?_append_left hi];exact h
theorem sQ (h3:(raw fs f E O H).length<=300){i:Nat}{x:Ln×Int}(h:(Lw.last f)[i]?=some x):(func fs f E O H).getD (pos fs f E O H f.b.length+i) .z=pQ (dQ fs f E O H) x:=by refine Dx h3 ?_;unfold raw pos;rw[List.getElem?_append_right (by omega),Nat.add_sub_cancel_left];exact h
theorem MN (h3:(raw fs f E O H).length<=300){i:Nat}(h:i<f.l.toNat):(func fs f E O H).getD i .z=⟨1,f.a+(i:Int),0,0,0,[]⟩:=by have e:(raw fs f E O H)[i]?=some (⟨1,f.a+(i:Int),0,0,0,[]⟩,-1):=by{obtain⟨r,hr⟩:=wz (fs:=fs) (f:=f) (E:=E) (O:=O) (H:=H) f.b.length 0 (by omega);unfold raw;rw[hr];unfold eD Lw.first;rw[List.append_assoc,List.getElem?_append_left (by simpa using h)];simp[h]};rw[Dx h3 e];rfl
theorem R6:pos fs f E O H 0=f.l.toNat:=by simp[pos,eD,Lw.first]
theorem Tn {j:Nat}(h0:0<=H.getD j 0):pos fs f E O H (j+1)=pos fs f E O H j+(Lw.step fs f E O H j).length:=by unfold pos;rw[(Lw.rR fs f E O H j).1,az h0,List.length_append]
theorem Yy {j:Nat}(h:aQ.op f.b j=12):Lw.step fs f E O H j=[]:=by unfold Lw.step Lw.uO;rw[h];rfl
theorem Dm {j:Nat}(h:aQ.op f.b j=12):pos fs f E O H (j+1)=pos fs f E O H j:=by unfold pos;rw[(Lw.rR fs f E O H j).1,Yy h];split<;>simp
theorem nU {st:List Int}(x:Ln):pQ st (x,-1)=x:=rfl
theorem qM {j:Nat}(hj:j<f.b.length)(x:Ln):pQ (dQ fs f E O H) (x,(j:Int))={x with n:=(pos fs f E O H j:Int)}:=by unfold pQ;rw[az (by simp only;omega)];simp only[aA];rw[Lw.PZ fs f E O H hj];rfl
theorem vH (hcs:cs.getD k []=func fs f E O H)(h3:(raw fs f E O H).length<=300)(hw:0<=wd f/\wd f<=6)(hg:f.g=0\/f.g=1)(hB:B.length=40){v:Int}(h0:f.g=0->v=0)(h1:f.g=1->B.getD (wd f).toNat 0=v):∃u,u<=2/\∀d N,R cs (N+u) d k (pos fs f E O H f.b.length) B mem= .done v mem N:=by rcases hg with hg|hg;{refine⟨2,Nat.le_refl _,fun d N=>?_⟩;have l0:=sQ (fs:=fs) (f:=f) (E:=E) (O:=O) (H:=H) h3 (i:=0) (x:=(⟨1,wd f+20,0,0,0,[]⟩,-1)) (by unfold Lw.last;rw[az hg];rfl);have l1:=sQ (fs:=fs) (f:=f) (E:=E) (O:=O) (H:=H) h3 (i:=1) (x:=(⟨10,0,wd f+20,0,0,[]⟩,-1)) (by unfold Lw.last;rw[az hg];rfl);rw[nU]at l0 l1;have s0:Rl.aT cs k (pos fs f E O H f.b.length) B mem= .next (pos fs f E O H f.b.length+1) (B.set (wd f+20).toNat 0) mem:=by{unfold Rl.aT Rl.line;rw[hcs,←Nat.add_zero (pos fs f E O H f.b.length),l0];rfl};have s1:Rl.aT cs k (pos fs f E O H f.b.length+1) (B.set (wd f+20).toNat 0) mem= .qP v:=by{unfold Rl.aT Rl.line;rw[hcs,l1];show Rl.Sr.qP ((B.set (wd f+20).toNat 0).getD (wd f+20).toNat 0)=_;rw[Mm.iK (by omega),az rfl,h0 hg]};rw[show N+2=N+1+1 by omega,Sc s0,Rf s1]};refine⟨1,by omega,fun d N=>?_⟩;have l0:=sQ (fs:=fs) (f:=f) (E:=E) (O:=O) (H:=H) h3 (i:=0) (x:=(⟨10,0,wd f,0,0,[]⟩,-1)) (by unfold Lw.last;rw[ax (by omega)];rfl);rw[nU]at l0;have s0:Rl.aT cs k (pos fs f E O H f.b.length) B mem= .qP v:=by{unfold Rl.aT Rl.line;rw[hcs,←Nat.add_zero (pos fs f E O H f.b.length),l0];show Rl.Sr.qP (B.getD (wd f).toNat 0)=_;rw[h1 hg]};exact Rf s0
theorem vG (hcs:cs.getD k []=func fs f E O H)(h3:(raw fs f E O H).length<=300)(ha:0<=f.a/\f.a<=3)(hl:0<=f.l/\f.l<=3){args:List Int}(hlen:(args.length:Int)=f.a):∀i,i<=f.l.toNat->iV cs k 0 (Rl.jN args) mem i i (Rl.jN args) mem
 |0,_=>iV.refl _ _ _ _ _
 | i + 1,hi=>by
   refine(vG hcs h3 ha hl hlen i (by omega)).andThen (iV.one ?_)
   unfold Rl.aT Rl.line
   rw[hcs,MN h3 (by omega)]
   show Rl.Sr.next (i+1) ((Rl.jN args).set (f.a+(i:Int)).toNat 0) mem=_
   have e:(Rl.jN args).set (f.a+(i:Int)).toNat 0=Rl.jN args:=by
     have ar1:(Rl.jN args).length=40:=by unfold Rl.jN;rw[List.length_append,List.length_replicate];omega
     apply List.ext_getElem?
     intro j
     rw[List.getElem?_set]
     split
     · rename_i hj
       subst hj
       rw[az (by omega)]
       unfold Rl.jN
       rw[List.getElem?_append_right (by omega),List.getElem?_replicate,az (by omega)]
     · rfl
   rw[e]
theorem Pm {args:List Int}(hl:0<=f.l/\f.l<=3)(hlen:args.length<=3):Rel [] (Mn.gY f args) (Rl.jN args):=by refine⟨by unfold Rl.jN;rw[List.length_append,List.length_replicate];omega,fun i hi=>?_,fun j hj=>by simp at hj⟩;unfold Mn.gY at hi ⊢;unfold Rl.jN;rw[List.length_append,List.length_replicate]at hi;rw[ah,ah];by_cases h:i<args.length;{rw[List.getElem?_append_left h,List.getElem?_append_left h]};rw[List.getElem?_append_right (by omega),List.getElem?_append_right (by omega),List.getElem?_replicate,List.getElem?_replicate,az (by omega),az (by omega)]
end Sm
namespace Sm
open Mn (Rs words)
open Lw (wd eD raw dQ pQ func)
open Hg (arg)
variable {cs : List (List Ln)} {N d k at' : Nat} {B mem : List Int} {fs : List Fn} {f : Fn} {E O H : List Int}
def Sim (fs:List Fn)(cs:List (List Ln))(f:Fn)(E O H:List Int)(k at':Nat)(loc mem B:List Int):Mn.Sr->Prop
 | .inl (a,p,l,m)=>∃u B',u<=8/\iV cs k (pos fs f E O H at') B mem u (pos fs f E O H a) B' m/\Rel p l B'
 | .inr (.inl p)=>∃u,u<=8/\∀d N,R cs (N+u) d k (pos fs f E O H at') B mem= .done (Mn.gives f p) mem N
 | .inr (.inr (.inl c))=>∃u,u<=8/\∀d N,R cs (N+u) d k (pos fs f E O H at') B mem= .stop c mem N
 | .inr (.inr (.inr (q,args,rest)))=>pos fs f E O H (at'+1)=pos fs f E O H at'+1/\∃x,Rl.aT cs k (pos fs f E O H at') B mem= .call x q args/\∀v,Rel (rest++Mn.kH (Mn.fn fs q) v) loc (B.set x v)
def Sj (fs:List Fn)(cs:List (List Ln))(f:Fn)(E O H:List Int)(k q:Nat)(mem B:List Int):Mn.Sr->Prop
 | .inl (a,p,l,m)=>q=pos fs f E O H a/\Rel p l B/\m=mem
 | .inr (.inl p)=>∃u,u<=2/\∀d N,R cs (N+u) d k q B mem= .done (Mn.gives f p) mem N
 | .inr (.inr _)=>False
theorem Sj.sim {loc:List Int}{u q:Nat}{B':List Int}{r:Mn.Sr}(h:Sj fs cs f E O H k q mem B' r)(hG:iV cs k (pos fs f E O H at') B mem u q B' mem)(hu:u<=6):Sim fs cs f E O H k at' loc mem B r:=by rcases r with⟨a,p,l,m⟩|p|c;{obtain⟨rfl,h2,rfl⟩:=h;exact⟨u,B',by omega,hG,h2⟩};{obtain⟨v,hv,h2⟩:=h;exact⟨v+u,by omega,fun d N=>by rw[←Nat.add_assoc,hG d (N+v),h2 d N]⟩};exact h.elim
theorem BO {pile:List Int}(h:0<pile.length):Mn.eG (Mn.upper pile 1)=Mn.eG pile:=by unfold Mn.eG Mn.upper;rw[List.length_drop,ah,ah,List.getElem?_drop];congr 2;omega
theorem BJ {pile:List Int}(h:0<pile.length):Mn.upper pile 1=[Mn.eG pile]:=by
 have hl:=Mn.ic (pile:=pile) (w:=1) (by omega)
 have ht:=BO h
 match hu:Mn.upper pile 1,hl with
 |[x],_=>
  rw[hu]at ht
  rw[←ht]
  rfl
theorem wJ (hA:Hg.Acc fs f E O H)(hcs:cs.getD k []=func fs f E O H)(h3:(raw fs f E O H).length<=300)(hw:0<=wd f/\wd f<=6)(hg:f.g=0\/f.g=1)(hend:aQ.op f.b (f.b.length-1)=12)(har:∀t,t<f.b.length->St.opens (aQ.op f.b t)=true->arg f.b t=0\/arg f.b t=1)(hat:at'<f.b.length){pile loc:List Int}{a hh:Int}(hJ:Hg.jS f E H at' hh a)(hl:(pile.length:Int)=hh)(ar2:hh<=20)(hll:(loc.length:Int)=wd f)(hR:Rel pile loc B){L:Int×Int×Int}(hL:Lw.gG f E H at' a=L){B':List Int}(hB':B'=if L.2.2=1/\L.2.1≠wd f+(hh-1)then B.set L.2.1.toNat (Rl.bx B (wd f+(hh-1)))else B):Sj fs cs f E O H k (pos fs f E O H L.1.toNat) mem B' (Mn.jump f E H at' a pile loc mem):=by unfold Mn.jump;by_cases hlt:a.toNat<(aQ.dP f.b E at' at').length;{rw[az hlt];obtain⟨t,e,tl,ZX,h0,s0,sl,⟨e1,e2,e3⟩,b1,b2⟩:=hJ.1 hlt;have htl:t<f.b.length:=by{omega};rw[Lw.uf hlt (t:=t) e]at hL;simp only[e,aA];have amO:Hg.kL H f.b t=H.getD t 0-(if aQ.op f.b t=10 then 1 else 0):=by{unfold Hg.kL;rw[az h0]};by_cases h9:aQ.op f.b t=9;{rw[az h9];rw[az h9]at hL;subst hL;simp only at hB' ⊢;rw[ax (by omega)]at hB';rw[hB'];exact⟨by congr 1,hR.take _,rfl⟩};rw[ax h9];rw[ax h9]at hL;have h12:=(hA.NF.f3 t htl e1).2.2;have hL':L=(aQ.aO E t,wd f+Hg.kL H f.b t,arg f.b t):=by{rw[←hL,amO];split;{rfl};unfold Lw.bx;rw[Int.sub_zero]};subst hL';clear hL;simp only at hB' ⊢;refine⟨(Dm h12).symm,?_,rfl⟩;rcases har t htl ZX with ha|ha;{rw[ax (by omega)]at hB';rw[ha,hB'];have:Mn.upper pile (0:Int).toNat=[]:=by{unfold Mn.upper;simp};rw[this,List.append_nil];exact hR.take _};have hu:Mn.upper pile (arg f.b t).toNat=[Mn.eG pile]:=by{rw[ha];exact BJ (by omega)};rw[hu];have hbx:Rl.bx B (wd f+(hh-1))=Mn.eG pile:=by{unfold Rl.bx;rw[←hR.eG (by omega)];congr 1;omega};by_cases hc:wd f+Hg.kL H f.b t≠wd f+(hh-1);{rw[az ⟨ha,hc⟩,hbx]at hB';rw[hB',show(wd f+Hg.kL H f.b t).toNat=loc.length+(Hg.kL H f.b t).toNat by omega];exact hR.put (by omega) (by omega) _};rw[ax (fun q=>hc q.2)]at hB';rw[hB'];have e:pile.take (Hg.kL H f.b t).toNat++[Mn.eG pile]=pile:=by{have h':(Hg.kL H f.b t).toNat=pile.length-1:=by{omega};have hu1:=BJ (pile:=pile) (by omega);rw[h',←hu1];exact List.take_append_drop _ _};rw[e];exact hR};rw[ax hlt];have hge:=hJ.2 hlt;rw[Lw.vk hlt]at hL;subst hL;simp only at hB' ⊢;have hp:pos fs f E O H ((f.b.length:Int)-1).toNat=pos fs f E O H f.b.length:=by{have:=Dm (fs:=fs) (f:=f) (E:=E) (O:=O) (H:=H) hend;rw[show f.b.length-1+1=f.b.length by have:=hA.pos;omega]at this;rw[this];congr 1;omega};rw[hp];have hlB:B'.length=40:=by{rw[hB'];split;{rw[List.length_set];exact hR.lB};exact hR.lB};refine vH hcs h3 hw hg hlB (fun h=>by unfold Mn.gives;rw[az h]) (fun h=>?_);unfold Mn.gives;rw[ax (by omega),h];show _=Mn.eG (Mn.upper pile 1);rw[BO (by omega)];have hbx:Rl.bx B (wd f+(hh-1))=Mn.eG pile:=by{unfold Rl.bx;rw[←hR.eG (by omega)];congr 1;omega};have hb0:Lw.bx f 0=wd f:=by{unfold Lw.bx;omega};rw[hb0]at hB';by_cases hc:wd f≠wd f+(hh-1);{rw[az ⟨h,hc⟩,hbx]at hB';rw[hB',Mm.iK (by rw[hR.lB];omega),az rfl]};rw[ax (fun q=>hc q.2)]at hB';rw[hB',←hbx];unfold Rl.bx;congr 1;omega
theorem Mw {pile loc:List Int}(hR:Rel pile loc B){n:Int}(hn:0<=n)(hl:n<=pile.length):(Lw.args ((loc.length:Int)+pile.length-1) n).map (Rl.bx B)=Mn.upper pile n.toNat:=by apply List.ext_getElem?;intro i;unfold Lw.args Mn.upper;rw[List.map_map,List.getElem?_map,List.getElem?_drop];by_cases hi:i<n.toNat;{rw[List.getElem?_range hi];simp only[Option.map_some,Function.comp];have h1:=hR.pi (pile.length-n.toNat+i) (by omega);rw[ah (l:=pile),ai (by omega)]at h1;rw[ai (by omega)];congr 1;unfold Rl.bx;rw[show((loc.length:Int)+pile.length-1-n+1+(i:Int)).toNat=loc.length+(pile.length-n.toNat+i)by omega];exact h1};rw[List.getElem?_eq_none (by rw[List.length_range];omega),List.getElem?_eq_none (by omega)];rfl
theorem Rc (hA:Hg.Acc fs f E O H)(hcs:cs.getD k []=func fs f E O H)(h3:(raw fs f E O H).length<=300)(hf:0<=f.a/\f.a<=3/\0<=f.l/\f.l<=3/\(f.g=0\/f.g=1)/\f.b.length<=80)(hfs:∀j,j<fs.length->0<=(fs.getD j .z).a/\((fs.getD j .z).g=0\/(fs.getD j .z).g=1))(hst:St.dz f.b=true)(hend:aQ.op f.b (f.b.length-1)=12){pile loc:List Int}(G:Mn.Good fs f H at' pile loc mem)(hR:Rel pile loc B):Sim fs cs f E O H k at' loc mem B (Mn.step fs f E O H at' pile loc mem):=by
 have hlt:=G.lt
 have hll:=G.ll
 have hlen:=G.here
 have hH0:0<=H.getD at' 0:=by omega
 have T:=hA.typ at' hlt hH0
 have h20:=hA.eG at' hlt
 have hwd:wd f=f.a+f.l:=rfl
 have hw:0<=wd f/\wd f<=6:=by omega
 have har:∀t,t<f.b.length->St.opens (aQ.op f.b t)=true->arg f.b t=0\/arg f.b t=1:=fun t ht ho=>by have hok:St.ok (aQ.op f.b t) (arg f.b t)=true:=St.bA hst ht;simp only[St.ok,au,Wd.bi]at hok;have h8:=aQ.fK.1 ho;have e1:St.least (aQ.op f.b t)=0:=by{unfold St.least;rw[ax (by omega)]};have e2:St.dA (aQ.op f.b t)<=1:=by{rcases h8 with h|h|h<;>rw[h]<;>decide};omega
 have Lh:St.ok (aQ.op f.b at') (arg f.b at')=true:=St.bA hst hlt
 have htk:=T.take
 have hstep:Lw.step fs f E O H at'=Lw.uO fs f E O H at' (aQ.op f.b at') (arg f.b at') ((loc.length:Int)+pile.length-1):=by unfold Lw.step Lw.bx;congr 1;omega
 have hat:∀(i:Nat)(x:Ln×Int)(b m:List Int),(Lw.step fs f E O H at')[i]?=some x->Rl.aT cs k (pos fs f E O H at'+i) b m=Rl.step (pQ (dQ fs f E O H) x) (pos fs f E O H at'+i) b m:=fun i x b m h=>by unfold Rl.aT Rl.line;rw[hcs,PN h3 hlt hH0 h]
 have hps:=Tn (fs:=fs) (f:=f) (E:=E) (O:=O) (H:=H) hH0
 have one:∀(x:Ln)(b m:List Int),Lw.step fs f E O H at'=[(x,-1)]->Rl.step x (pos fs f E O H at') B mem= .next (pos fs f E O H at'+1) b m->iV cs k (pos fs f E O H at') B mem 1 (pos fs f E O H (at'+1)) b m:=fun x b m h1 h2=>by refine iV.one ?_;have:=hat 0 (x,-1) B mem (by rw[h1];rfl);rw[Nat.add_zero,nU,h2]at this;rw[this,hps,h1];rfl
 have halt:∀(x:Ln)(c:Int),Lw.step fs f E O H at'=[(x,-1)]->Rl.step x (pos fs f E O H at') B mem= .halt c->∀d N,R cs (N+1) d k (pos fs f E O H at') B mem= .stop c mem N:=fun x c h1 h2 d N=>by refine aci ?_;have:=hat 0 (x,-1) B mem (by rw[h1];rfl);rw[Nat.add_zero,nU,h2]at this;exact this
 obtain⟨p,hp⟩:∃p,aQ.op f.b at'=p:=⟨_,rfl⟩
 obtain⟨a,ha⟩:∃a,arg f.b at'=a:=⟨_,rfl⟩
 have hok:St.ok p a=true:=by rw[←hp,←ha];exact Lh
 simp only[St.ok,au,Wd.bi]at hok
 have ha0:0<=a:=by(have:0<=St.least p:=by unfold St.least;split<;>omega);omega
 rw[hp,ha]at hstep htk
 have nx:p≠11->p≠12->p≠13->p≠15->p≠19->at'+1<f.b.length:=by have:=T.next;rw[hp]at this;exact fun h1 h2 h3 h4 h5=>(this h1 h2 h3 h4 h5).1
 have hbt:0<pile.length->Rl.bx B ((loc.length:Int)+pile.length-1)=Mn.eG pile:=fun h=>by unfold Rl.bx;rw[←hR.eG h];congr 1;omega
 have hbu:1<pile.length->Rl.bx B ((loc.length:Int)+pile.length-1-1)=Mn.under pile:=fun h=>by unfold Rl.bx;rw[←hR.under h];congr 1;omega
 have hpe:∀j:Nat,j<f.b.length->0<=aQ.aO E j->pos fs f E O H (aQ.aO E j).toNat=pos fs f E O H ((aQ.aO E j).toNat+1):=fun j hj h=>(Dm (hA.NF.f3 j hj h).2.2).symm
 unfold Mn.step
 simp only[hp,ha]
 by_cases h1:p=1
 · rw[az h1];subst h1;refine⟨1,_,by omega,one ⟨1,(loc.length:Int)+pile.length-1+1,0,0,a,[]⟩ _ _ hstep rfl,?_⟩;have:=hR.put (q:=pile.length) (Nat.le_refl _) (by omega) a;rw[List.take_length]at this;rw[show((loc.length:Int)+pile.length-1+1).toNat=loc.length+pile.length by omega];exact this
 rw[ax h1]
 by_cases h2:p=2
 · rw[az h2];subst h2;have hloc:=T.loc (.inl hp);rw[ha]at hloc;refine⟨1,_,by omega,one ⟨2,(loc.length:Int)+pile.length-1+1,a,0,0,[]⟩ _ _ hstep rfl,?_⟩;have:=hR.put (q:=pile.length) (Nat.le_refl _) (by omega) (loc.getD a.toNat 0);rw[List.take_length]at this;rw[show((loc.length:Int)+pile.length-1+1).toNat=loc.length+pile.length by omega];show Rel _ _ (B.set _ (B.getD a.toNat 0));rw[hR.lo _ (by omega)];exact this
 rw[ax h2]
 have e34:p=3\/p=4->0<pile.length/\a.toNat<loc.length/\iV cs k (pos fs f E O H at') B mem 1 (pos fs f E O H (at'+1)) (B.set a.toNat (Mn.eG pile)) mem:=fun h=>by have hloc:=T.loc (.inr (by rw[hp];exact h));rw[ha]at hloc;(have k1:Hg.tk fs p a=1:=by rcases h with rfl|rfl<;>rfl);have h0:0<pile.length:=by{omega};refine⟨h0,by omega,?_⟩;have:=one ⟨2,a,(loc.length:Int)+pile.length-1,0,0,[]⟩ (B.set a.toNat (Rl.bx B ((loc.length:Int)+pile.length-1))) mem (by rw[hstep];unfold Lw.uO;rw[ax (by omega),ax (by omega),az h]) rfl;rw[hbt h0]at this;exact this
 by_cases h3':p=3
 · rw[az h3'];obtain⟨q1,q2,q3⟩:=e34 (.inl h3');exact⟨1,_,by omega,q3,(hR.Ta q2 (by omega) _).take _⟩
 rw[ax h3']
 by_cases h4:p=4
 · rw[az h4];obtain⟨q1,q2,q3⟩:=e34 (.inr h4);exact⟨1,_,by omega,q3,hR.Ta q2 (by omega) _⟩
 rw[ax h4]
 by_cases h5:p=5
 · rw[az h5];subst h5;have k1:Hg.tk fs 5 a=2:=rfl;have b1:=hbu (by omega);have b2:=hbt (by omega);have hs:Lw.step fs f E O H at'=[(⟨3,(loc.length:Int)+pile.length-1-1,(loc.length:Int)+pile.length-1-1,(loc.length:Int)+pile.length-1,a,[]⟩,-1)]:=hstep;by_cases hc:Wd.dc a (Mn.under pile) (Mn.eG pile)=0;{rw[az hc];refine⟨1,_,by omega,one _ (B.set ((loc.length:Int)+pile.length-1-1).toNat (Wd.dv a (Mn.under pile) (Mn.eG pile))) _ hs ?_,?_⟩;{unfold Rl.step;simp only[b1,b2];rw[ax (by decide),ax (by decide),az trivial,az hc]};rw[show((loc.length:Int)+pile.length-1-1).toNat=loc.length+(pile.length-2)by omega];exact hR.put (by omega) (by omega) _};rw[ax hc];refine⟨1,by omega,halt _ _ hs ?_⟩;unfold Rl.step;simp only[b1,b2];rw[ax (by decide),ax (by decide),az trivial,ax hc]
 rw[ax h5]
 by_cases h6:p=6
 · rw[az h6];subst h6;have k1:Hg.tk fs 6 a=1:=rfl;have b2:=hbt (by omega);have hs:Lw.step fs f E O H at'=[(⟨4,(loc.length:Int)+pile.length-1,(loc.length:Int)+pile.length-1,0,0,[]⟩,-1)]:=hstep;refine⟨1,_,by omega,one _ (B.set ((loc.length:Int)+pile.length-1).toNat (if Mn.eG pile=0 then 1 else 0)) _ hs ?_,?_⟩;{show Rl.Sr.next _ (B.set _ (if Rl.bx B _=0 then 1 else 0)) _=_;simp only[b2]};rw[show((loc.length:Int)+pile.length-1).toNat=loc.length+(pile.length-1)by omega];exact hR.put (by omega) (by omega) _
 rw[ax h6]
 by_cases h7:p=7
 · rw[az h7];subst h7;have hs:Lw.step fs f E O H at'=[]:=hstep;rw[hs]at hps;refine⟨0,B,by omega,?_,hR.take _⟩;rw[hps];exact iV.refl _ _ _ _ _
 rw[ax h7]
 by_cases h10:p=10
 · rw[az h10];subst h10;have k1:Hg.tk fs 10 a=1:=rfl;have b2:=hbt (by omega);obtain⟨z,hz⟩:∃z:Int,(if 0<=aQ.aO O at' then aQ.aO O at'+1 else aQ.aO E at')=z:=⟨_,rfl⟩;have hs:Lw.step fs f E O H at'=[(⟨4,(loc.length:Int)+pile.length-1,(loc.length:Int)+pile.length-1,0,0,[]⟩,-1),(⟨6,0,(loc.length:Int)+pile.length-1,0,0,[]⟩,z)]:=by{rw[←hz];exact hstep};have hi:=T.iff hp;have hz':0<=z/\z.toNat<f.b.length/\pos fs f E O H z.toNat=pos fs f E O H ((if 0<=aQ.aO O at' then aQ.aO O at' else aQ.aO E at').toNat+1):=by{rcases hi with⟨i1,i2,-⟩|⟨i1,i2,i3,-⟩;{rw[az i1]at hz ⊢;rw[←hz];exact⟨by omega,by omega,by congr 1;omega⟩};rw[ax (by omega)]at hz ⊢;rw[←hz];exact⟨i2,by omega,hpe at' hlt i2⟩};have s0:=hat 0 _ B mem (by rw[hs];rfl);obtain⟨v,hv⟩:∃v:Int,(if Mn.eG pile=0 then(1:Int)else 0)=v:=⟨_,rfl⟩;have g0:iV cs k (pos fs f E O H at') B mem 1 (pos fs f E O H at'+1) (B.set (loc.length+(pile.length-1)) v) mem:=by{refine iV.one ?_;rw[Nat.add_zero,nU]at s0;rw[s0];show Rl.Sr.next _ (B.set _ (if Rl.bx B _=0 then 1 else 0)) _=_;simp only[b2];rw[hv,show((loc.length:Int)+pile.length-1).toNat=loc.length+(pile.length-1)by omega]};have s1:=hat 1 _ (B.set (loc.length+(pile.length-1)) v) mem (by rw[hs];rfl);have hzn:z=((z.toNat:Nat):Int):=by{omega};rw[hzn,qM hz'.2.1]at s1;have hb1:Rl.bx (B.set (loc.length+(pile.length-1)) v) ((loc.length:Int)+pile.length-1)=v:=by{unfold Rl.bx;rw[show((loc.length:Int)+pile.length-1).toNat=loc.length+(pile.length-1)by omega,Mm.iK (by rw[hR.lB];omega),az rfl]};have s2:Rl.aT cs k (pos fs f E O H at'+1) (B.set (loc.length+(pile.length-1)) v) mem= .next (if v=0 then pos fs f E O H at'+1+1 else pos fs f E O H z.toNat) (B.set (loc.length+(pile.length-1)) v) mem:=by{rw[s1];show Rl.Sr.next (if Rl.bx _ _=0 then _ else _) _ _=_;simp only[hb1,aA]};have g1:=g0.andThen (iV.one s2);have hrel:Rel (Mn.less pile 1) loc (B.set (loc.length+(pile.length-1)) v):=(hR.take _).spare (by rw[List.length_take];omega) _;have acW:pos fs f E O H (at'+1)=pos fs f E O H at'+1+1:=by{rw[hps,hs];rfl};by_cases hc:Mn.eG pile=0;{rw[az hc];rw[az hc]at hv;rw[ax (by omega),hz'.2.2]at g1;exact⟨2,_,by omega,g1,hrel⟩};rw[ax hc];rw[ax hc]at hv;rw[az hv.symm,←acW]at g1;exact⟨2,_,by omega,g1,hrel⟩
 rw[ax h10]
 by_cases h11:p=11
 · rw[az h11];subst h11;obtain⟨e1,e2,-⟩:=T.Qk hp;have hs:Lw.step fs f E O H at'=[(⟨5,0,0,0,0,[]⟩,aQ.aO E at')]:=hstep;have s0:=hat 0 _ B mem (by rw[hs];rfl);rw[Nat.add_zero,show aQ.aO E at'=(((aQ.aO E at').toNat:Nat):Int)by omega,qM (by omega)]at s0;refine⟨1,B,by omega,?_,hR⟩;rw[←hpe at' hlt e1];refine iV.one ?_;rw[s0];show Rl.Sr.next (Int.toNat _) _ _=_;rw[aA]
 rw[ax h11]
 by_cases h12:p=12
 · rw [az h12]
   subst h12
   have hq:=Dm (fs:=fs) (f:=f) (E:=E) (O:=O) (H:=H) hp
   rcases T.last hp with⟨e1,e2⟩|⟨e1,e2⟩
   · rw[az e1]
     obtain⟨u,u2,hu⟩:=vH (E:=E) (O:=O) (H:=H) (mem:=mem) hcs h3 hw hf.2.2.2.2.1 hR.lB (v:=Mn.gives f pile) (fun h=>by unfold Mn.gives;rw[az h]) (fun h=>by
      unfold Mn.gives
      rw[ax (by omega),←hR.eG (by omega)]
      congr 1
      omega)
     refine⟨u,by omega,?_⟩
     rw[←hq,e1]
     exact hu
   · rw[ax (by omega)];refine⟨0,B,by omega,?_,hR⟩;rw[hq];exact iV.refl _ _ _ _ _
 rw[ax h12]
 have abg:∀dp:Int,(p=13\/p=15)->(if p=15 then 99 else a)=dp->Hg.jS f E H at' (H.getD at' 0) dp->Sim fs cs f E O H k at' loc mem B (Mn.jump f E H at' dp pile loc mem):=fun dp ZU hdp hJ=>by have hs:Lw.step fs f E O H at'=(if(Lw.gG f E H at' dp).2.2=1/\(Lw.gG f E H at' dp).2.1≠(loc.length:Int)+pile.length-1 then[(⟨2,(Lw.gG f E H at' dp).2.1,(loc.length:Int)+pile.length-1,0,0,[]⟩,-1)]else[])++[(⟨5,0,0,0,0,[]⟩,(Lw.gG f E H at' dp).1)]:=by{rw[hstep,←hdp];rcases ZU with rfl|rfl<;>rfl};have hgl:=Lw.nC hA hlt dp;have hL:=wJ (mem:=mem) hA hcs h3 hw hf.2.2.2.2.1 hend har hlt hJ hlen h20 (by omega) hR rfl (B':=if(Lw.gG f E H at' dp).2.2=1/\(Lw.gG f E H at' dp).2.1≠wd f+(H.getD at' 0-1)then B.set (Lw.gG f E H at' dp).2.1.toNat (Rl.bx B (wd f+(H.getD at' 0-1)))else B) rfl;have ew:wd f+(H.getD at' 0-1)=(loc.length:Int)+pile.length-1:=by{omega};rw[ew]at hL;generalize Lw.gG f E H at' dp=L at hs hgl hL;by_cases hc:L.2.2=1/\L.2.1≠(loc.length:Int)+pile.length-1;{rw[az hc]at hs hL;have s0:=hat 0 _ B mem (by rw[hs];rfl);rw[Nat.add_zero,nU]at s0;have s1:=hat 1 _ (B.set L.2.1.toNat (Rl.bx B ((loc.length:Int)+pile.length-1))) mem (by rw[hs];rfl);rw[show L.1=((L.1.toNat:Nat):Int)by omega,qM (by omega)]at s1;refine hL.sim ((iV.one (s0.trans rfl)).andThen (iV.one (s1.trans ?_))) (by omega);show Rl.Sr.next (Int.toNat _) _ _=_;rw[aA]};rw[ax hc]at hs hL;have s0:=hat 0 _ B mem (by rw[hs];rfl);rw[Nat.add_zero,show L.1=((L.1.toNat:Nat):Int)by omega,qM (by omega)]at s0;refine hL.sim (iV.one (s0.trans ?_)) (by omega);show Rl.Sr.next (Int.toNat _) _ _=_;rw[aA]
 by_cases Ar:p=13
 · rw[az Ar];have hj:=T.jump (hp.trans Ar);rw[ha]at hj;exact abg a (.inl Ar) (by rw[ax (by omega)]) hj
 rw[ax Ar]
 by_cases Br:p=14
 · rw[az Br];subst Br;have hj:=T.jif hp;rw[ha]at hj;have k1:Hg.tk fs 14 a=1:=rfl;have b2:=hbt (by omega);have hnx:=nx (by omega) (by omega) (by omega) (by omega) (by omega);have hs:Lw.step fs f E O H at'=if(Lw.gG f E H at' a).2.2=1/\(Lw.gG f E H at' a).2.1≠(loc.length:Int)+pile.length-1-1 then[(⟨4,(loc.length:Int)+pile.length-1,(loc.length:Int)+pile.length-1,0,0,[]⟩,-1),(⟨6,0,(loc.length:Int)+pile.length-1,0,0,[]⟩,(at':Int)+1),(⟨2,(Lw.gG f E H at' a).2.1,(loc.length:Int)+pile.length-1-1,0,0,[]⟩,-1),(⟨5,0,0,0,0,[]⟩,(Lw.gG f E H at' a).1)]else[(⟨6,0,(loc.length:Int)+pile.length-1,0,0,[]⟩,(Lw.gG f E H at' a).1)]:=hstep;have hgl:=Lw.nC hA hlt a;have hJL:=fun(b:List Int) (hb:Rel (Mn.less pile 1) loc b)=>wJ (mem:=mem) hA hcs h3 hw hf.2.2.2.2.1 hend har hlt hj (by rw[Mn.iq];omega) (by omega) (by omega) hb rfl (B':=if(Lw.gG f E H at' a).2.2=1/\(Lw.gG f E H at' a).2.1≠wd f+(H.getD at' 0-1-1)then b.set (Lw.gG f E H at' a).2.1.toNat (Rl.bx b (wd f+(H.getD at' 0-1-1)))else b) rfl;have ew:wd f+(H.getD at' 0-1-1)=(loc.length:Int)+pile.length-1-1:=by{omega};rw[ew]at hJL;generalize Lw.gG f E H at' a=L at hs hgl hJL;by_cases hc:L.2.2=1/\L.2.1≠(loc.length:Int)+pile.length-1-1;{rw[az hc]at hs;have s0:=hat 0 _ B mem (by rw[hs];rfl);obtain⟨v,hv⟩:∃v:Int,(if Mn.eG pile=0 then(1:Int)else 0)=v:=⟨_,rfl⟩;have g0:iV cs k (pos fs f E O H at') B mem 1 (pos fs f E O H at'+1) (B.set (loc.length+(pile.length-1)) v) mem:=by{refine iV.one ?_;rw[Nat.add_zero,nU]at s0;rw[s0];show Rl.Sr.next _ (B.set _ (if Rl.bx B _=0 then 1 else 0)) _=_;simp only[b2];rw[hv,show((loc.length:Int)+pile.length-1).toNat=loc.length+(pile.length-1)by omega]};have s1:=hat 1 _ (B.set (loc.length+(pile.length-1)) v) mem (by rw[hs];rfl);rw[show(at':Int)+1=((at'+1:Nat):Int)by omega,qM hnx]at s1;have hb1:Rl.bx (B.set (loc.length+(pile.length-1)) v) ((loc.length:Int)+pile.length-1)=v:=by{unfold Rl.bx;rw[show((loc.length:Int)+pile.length-1).toNat=loc.length+(pile.length-1)by omega,Mm.iK (by rw[hR.lB];omega),az rfl]};have s2:Rl.aT cs k (pos fs f E O H at'+1) (B.set (loc.length+(pile.length-1)) v) mem= .next (if v=0 then pos fs f E O H at'+1+1 else pos fs f E O H (at'+1)) (B.set (loc.length+(pile.length-1)) v) mem:=by{rw[s1];show Rl.Sr.next (if Rl.bx _ _=0 then _ else _) _ _=_;simp only[hb1,aA]};have g1:=g0.andThen (iV.one s2);have hrel:Rel (Mn.less pile 1) loc (B.set (loc.length+(pile.length-1)) v):=(hR.take _).spare (by rw[List.length_take];omega) _;by_cases ht:Mn.eG pile=0;{rw[az ht];rw[az ht]at hv;rw[ax (by omega)]at g1;exact⟨2,_,by omega,g1,hrel⟩};rw[ax ht];rw[ax ht]at hv;rw[az hv.symm]at g1;have s3:=hat 2 _ (B.set (loc.length+(pile.length-1)) v) mem (by rw[hs];rfl);rw[nU]at s3;have hL:=hJL _ hrel;rw[az hc]at hL;have s4:=hat 3 _ ((B.set (loc.length+(pile.length-1)) v).set L.2.1.toNat (Rl.bx (B.set (loc.length+(pile.length-1)) v) ((loc.length:Int)+pile.length-1-1))) mem (by rw[hs];rfl);rw[show L.1=((L.1.toNat:Nat):Int)by omega,qM (by omega)]at s4;refine hL.sim ((g1.andThen (iV.one (s3.trans rfl))).andThen (iV.one (s4.trans ?_))) (by omega);show Rl.Sr.next (Int.toNat _) _ _=_;rw[aA]};rw[ax hc]at hs;have s0:=hat 0 _ B mem (by rw[hs];rfl);rw[Nat.add_zero,show L.1=((L.1.toNat:Nat):Int)by omega,qM (by omega)]at s0;have s1:Rl.aT cs k (pos fs f E O H at') B mem= .next (if Mn.eG pile=0 then pos fs f E O H at'+1 else pos fs f E O H L.1.toNat) B mem:=by{rw[s0];show Rl.Sr.next (if Rl.bx _ _=0 then _ else _) _ _=_;simp only[b2,aA]};have acW:pos fs f E O H (at'+1)=pos fs f E O H at'+1:=by{rw[hps,hs];rfl};by_cases ht:Mn.eG pile=0;{rw[az ht];rw[az ht,←acW]at s1;exact⟨1,_,by omega,iV.one s1,hR.take _⟩};rw[ax ht];rw[ax ht]at s1;have hL:=hJL _ (hR.take _);rw[ax hc]at hL;exact hL.sim (iV.one s1) (by omega)
 rw[ax Br]
 by_cases uI:p=15
 · rw[az uI];have hal:=Lw.pg f.b E at' at';have hno:¬(99:Int).toNat<(aQ.dP f.b E at' at').length:=by{show¬99<_;omega};have:=abg 99 (.inr uI) (by rw[az uI]) ⟨fun h=>absurd h hno,fun _=>T.ret (hp.trans uI)⟩;unfold Mn.jump at this;rw[ax hno]at this;exact this
 rw[ax uI]
 by_cases h16:p=16
 · rw[az h16];subst h16;have hcl:=T.call hp;rw[ha]at hcl;have hg:=hfs a.toNat (by omega);have k1:Hg.tk fs 16 a=(fs.getD a.toNat .z).a:=rfl;obtain⟨q,hq⟩:∃q,fs.getD a.toNat .z=q:=⟨_,rfl⟩;have hs:Lw.step fs f E O H at'=[(⟨7,if q.g=1 then(loc.length:Int)+pile.length-1-q.a+1 else wd f+20,0,0,a,Lw.args ((loc.length:Int)+pile.length-1) q.a⟩,-1)]:=by{rw[←hq];exact hstep};have s0:=hat 0 _ B mem (by rw[hs];rfl);rw[Nat.add_zero,nU]at s0;rw[hq]at hg k1 ⊢;refine⟨by rw[hps,hs];rfl,(if q.g=1 then(loc.length:Int)+pile.length-1-q.a+1 else wd f+20).toNat,s0.trans ?_,fun v=>?_⟩;{show Rl.Sr.call (if q.g=1 then(loc.length:Int)+pile.length-1-q.a+1 else wd f+20).toNat a.toNat _=_;rw[Mw hR hg.1 (by omega)]};have hfq:Mn.fn fs a.toNat=q:=hq;rw[hfq];unfold Mn.kH Mn.less;by_cases h1:q.g=1;{rw[az h1,az h1,show((loc.length:Int)+pile.length-1-q.a+1).toNat=loc.length+(pile.length-q.a.toNat)by omega];exact hR.put (by omega) (by omega) _};rw[ax h1,ax h1,List.append_nil];exact(hR.take _).spare (by rw[List.length_take];omega) _
 rw[ax h16]
 by_cases EG:p=17
 · rw[az EG];subst EG;have k1:Hg.tk fs 17 a=1:=rfl;have b2:=hbt (by omega);have hs:Lw.step fs f E O H at'=[(⟨8,(loc.length:Int)+pile.length-1,(loc.length:Int)+pile.length-1,0,a,[]⟩,-1)]:=hstep;by_cases hc:Mm.there (Mn.eG pile) a=true;{rw[az hc];refine⟨1,_,by omega,one _ (B.set ((loc.length:Int)+pile.length-1).toNat (Mm.j3 mem (Mn.eG pile+a).toNat 4)) _ hs ?_,?_⟩;{unfold Rl.step;simp only[b2];rw[ax (by decide),ax (by decide),ax (by decide),ax (by decide),ax (by decide),ax (by decide),ax (by decide),az trivial,az hc]};rw[show((loc.length:Int)+pile.length-1).toNat=loc.length+(pile.length-1)by omega];exact hR.put (by omega) (by omega) _};rw[ax hc];refine⟨1,by omega,halt _ _ hs ?_⟩;unfold Rl.step;simp only[b2];rw[ax (by decide),ax (by decide),ax (by decide),ax (by decide),ax (by decide),ax (by decide),ax (by decide),az trivial,ax hc]
 rw[ax EG]
 by_cases h18:p=18
 · rw[az h18];subst h18;have k1:Hg.tk fs 18 a=2:=rfl;have b1:=hbu (by omega);have b2:=hbt (by omega);have hs:Lw.step fs f E O H at'=[(⟨9,0,(loc.length:Int)+pile.length-1-1,(loc.length:Int)+pile.length-1,a,[]⟩,-1)]:=hstep;by_cases hc:Mm.there (Mn.under pile) a=true;{rw[az hc];refine⟨1,B,by omega,one _ B _ hs ?_,hR.take _⟩;unfold Rl.step;simp only[b1,b2];rw[ax (by decide),ax (by decide),ax (by decide),ax (by decide),ax (by decide),ax (by decide),ax (by decide),ax (by decide),az trivial,az hc]};rw[ax hc];refine⟨1,by omega,halt _ _ hs ?_⟩;unfold Rl.step;simp only[b1];rw[ax (by decide),ax (by decide),ax (by decide),ax (by decide),ax (by decide),ax (by decide),ax (by decide),ax (by decide),az trivial,ax hc]
 rw[ax h18]
 by_cases h19:p=19
 · rw[az h19];subst h19;exact⟨1,by omega,halt ⟨11,0,0,0,0,[]⟩ _ hstep rfl⟩
 rw[ax h19]
 have hs:Lw.step fs f E O H at'=[]:=by rw[hstep];unfold Lw.uO;rw[ax h1,ax h2,ax (by omega),ax h5,ax h6,ax h10,ax h11,ax (by omega),ax Br,ax h16,ax EG,ax h18,ax h19]
 rw[hs]at hps
 refine⟨0,B,by omega,?_,hR⟩
 rw[hps]
 exact iV.refl _ _ _ _ _
end Sm
def lst (vs:List Lv)(j:Nat):Value:=(vs.getD j jy).2.2.2.2.2
def Oe (W:World)(n₀:Nat)(v:Value)(fs:List Ln)(vs:List Lv):Prop:=
 W.ownsRow n₀ 109 6 v fs.length (gy vs)/\vs.length=fs.length/\kS W n₀ fs.length vs fs/\∀i j,i<j->j<fs.length->∀g,(lst vs i).ownBlock=some g->(lst vs j).ownBlock≠some g
theorem Oe.kept {W W':World}{n₀:Nat}{v:Value}{fs:List Ln}{vs:List Lv}(h:Oe W n₀ v fs vs)(hB:Below W.heap.size W W'):Oe W' n₀ v fs vs:=⟨aP h.1 hB,h.2.1,h.2.2.1.kept hB,h.2.2.2⟩
theorem Sg {α:Type}{l:List α}{k:Nat}{x d:α}(h:k<l.length):(l.set k x).getD k d=x:=by rw[ah,List.getElem?_set_self h];rfl
theorem aco {α:Type}{l:List α}{k j:Nat}{x d:α}(h:j≠k):(l.set k x).getD j d=l.getD j d:=by rw[ah,List.getElem?_set_ne (by omega),←ah]
theorem Oe.list {W W':World}{n₀ k:Nat}{v:Value}{fs:List Ln}{vs:List Lv}{ys:List Int}(h:Oe W n₀ v fs vs)(hk:k<fs.length)(hg:W.grownBy W' (lst vs k).ownBlock)(hos:OI W' n₀ (lst vs k) ys):Oe W' n₀ v (fs.set k ⟨(fs.getD k .z).k,(fs.getD k .z).d,(fs.getD k .z).a,(fs.getD k .z).b,(fs.getD k .z).n,ys⟩) vs:=by obtain⟨hrow,hl,ht,hp⟩:=h;have hint:109≠2:=by{decide};refine⟨?_,by simp[hl],?_,?_⟩;{rw[List.length_set];exact fE hrow hg (fun b e=>ig hrow (ht k hk).2.2.2.2.2 hint e)};{intro j hj;rw[List.length_set]at hj;obtain⟨t0,t1,t2,t3,t4,t5⟩:=ht j hj;by_cases e:j=k;{subst e;rw[Sg hj];exact⟨t0,t1,t2,t3,t4,hos⟩};rw[aco e];refine⟨t0,t1,t2,t3,t4,fE t5 hg (fun b e1 e2=>?_)⟩;rcases Nat.lt_or_ge j k with hlt|hge;{exact hp j k hlt hk b e1 e2};exact hp k j (by omega) hj b e2 e1};intro i j hij hj b;rw[List.length_set]at hj;exact hp i j hij hj b
theorem Ji {W W':World}{n₀ e k n:Nat}{v:Value}{xs:List Value}(h:W.ownsRow n₀ e k v n xs)(hb:∀g,n₀<=g->g<W.heap.size->W'.heap[g]?=W.heap[g]?):W'.ownsRow n₀ e k v n xs:=by refine⟨h.1,?_⟩;rcases h.2 with h'|⟨g',cap',cur,h',h1,h2,r⟩;{exact .inl h'};exact .inr ⟨g',cap',cur,h',h1,(hb g' h1 (Array.getElem?_eq_some_iff.1 h2).1).trans h2,r⟩
theorem Oe.same {W W':World}{n₀:Nat}{v:Value}{fs:List Ln}{vs:List Lv}(h:Oe W n₀ v fs vs)(hb:∀g,n₀<=g->g<W.heap.size->W'.heap[g]?=W.heap[g]?):Oe W' n₀ v fs vs:=
 ⟨Ji h.1 hb,h.2.1,fun j hj=>by
   obtain⟨t0,t1,t2,t3,t4,t5⟩:=h.2.2.1 j hj
   exact⟨t0,t1,t2,t3,t4,Ji t5 hb⟩,h.2.2.2⟩
theorem Oe.mono {W:World}{n₀ n₁:Nat}{v:Value}{fs:List Ln}{vs:List Lv}(h:Oe W n₁ v fs vs)(hn:n₀<=n₁):Oe W n₀ v fs vs:=by refine⟨?_,h.2.1,h.2.2.1.mono hn,h.2.2.2⟩;refine⟨h.1.1,?_⟩;rcases h.1.2 with h'|⟨g',cap',cur,h',hb,r⟩;{exact .inl h'};exact .inr ⟨g',cap',cur,h',Nat.le_trans hn hb,r⟩
theorem Oe.ll {W:World}{n₀ g n cap:Nat}{fs:List Ln}{vs:List Lv}(h:Oe W n₀ (.slice (some ⟨g,0,none⟩) n cap) fs vs)(hn:fs.length=n):LL W (some ⟨g,0,none⟩) n fs:=by have h1:=h.1;have h3:=h.2.2.1;rw[hn]at h1 h3;exact Ch h1 hn h3
theorem YX:Tryz.prog.built 115 []=some ((List.replicate 64 0).map bv).toArray:=by kernel_rfl
theorem qx {ops:Array Oper}{rest:List Oper}{o:Oper}{a:Act}{w:World}{Q:Exit->Act->World->Prop}(hgd:o.guard=none)(ho:o.op= .build 115 #[])(zs:List Value)(hz:(List.replicate 64 0).map bv=zs)(h:wpList Tryz.prog ops Q rest (a.put o.dst (.agg zs.toArray)) w):wpList Tryz.prog ops Q (o::rest) a w:=by refine wpList_plain hgd fun K hK=>?_;have hrun:=run_build (P:=Tryz.prog) w 115 #[] _ YX;rw[hz]at hrun;unfold Oper.wp execOp;simp only[ho,Sem.run_bind];rw[show(Array.map (fun x:Nat×Operand=>(x.fst,a.eval x.snd)) #[])=#[]from by simp,hrun];simp only[Result.andThen_ok];exact hK _ _ h
theorem M0 (a:Option Addr)(len cap:Nat)(xs:List Int)(w:World)(hs:IL w a len xs):Calls Tryz.prog 65 #[.slice a len cap] w fun e w'=>e= .returned (.tuple #[.agg ((Mm.cells xs).map bv).toArray, .bool (Mm.ok xs)])/\Below w.heap.size w w':=by have HS:=ae hs;have hl:=hs.1;have hmx:=hs.2.1;unfold maxLen at hmx;clear hs;obtain⟨zs,hzs⟩:∃zs,(List.replicate 64 (0:Int)).map iv=zs:=⟨_,rfl⟩;obtain⟨zb,hzb⟩:∃zb,(List.replicate 64 (0:Int)).map bv=zb:=⟨_,rfl⟩;have HZ:=MU;have HC:=Mi;rw[hzs]at HZ;rw[hzb]at HC;by_cases h64:len=64;{subst h64;have hlz:zb.length=64:=by{rw[←hzb];simp};have aiG:zs.length=64:=by{rw[←hzs];simp};have HL:=ae (ak hl (ak hlz aiG));clear hmx hl hlz aiG;go_enter Tryz.func65,Tryz.ntmps65;go_wp2_with(refine iD 115 rfl ?_);refine⟨?_⟩;refine fG rfl _ rfl zb 64 HC ?_;intro g1 w1 hg1 hA1 hB1;go_wp2_with(refine iD 168 rfl ?_);refine⟨?_⟩;refine fG rfl _ rfl zs 64 HZ ?_;intro g2 w2 hg2 hA2 hB2;go_wp2_with(refine P5 _ _ _ _ rfl ?_);refine⟨?_⟩;obtain⟨cs,hcs⟩:∃cs,xs.map iv=cs:=⟨_,rfl⟩;have hsp:splice zs 0 cs=cs:=by{have e1:=HL.out.1;have e2:=HL.out.2.2;unfold splice;rw[List.take_zero,List.nil_append,List.drop_eq_nil_of_le (by rw[e2,←hcs,List.length_map];omega),List.append_nil]};have hBa:=hB1.trans (hB2.mono hB1.size);refine wpList_copy_splice rfl _ _ _ _ rfl 2 Tryz.underlying27 (by kernel_rfl) _ _ _ _ _ _ rfl rfl g2 0 zs 168 hA2 cs (by rw[←hcs,List.length_map,HL.out.1];rfl) (fun _=>⟨rfl,?_⟩) (by rw[←hcs,List.length_map,HL.out.1,HL.out.2.2];omega) (by rw[←hcs];exact jA) g2 w2 (Below.refl _ _) (Nat.le_refl _) ?_;{obtain⟨-,-,h3|⟨b,off,rfl,hb,hx⟩⟩:=HS.out;{omega};refine⟨_,rfl,fun j v hv=>?_⟩;rw[←hcs]at hv;have hj:j<64:=by{have:=(List.getElem?_eq_some_iff.1 hv).1;rwa [List.length_map,HL.out.1]at this};rw[gU (by rw[HL.out.1];exact hj)]at hv;cases hv;(have hadd:(⟨b,off,none⟩:Addr).add j=⟨b,off+j,none⟩:=by unfold Addr.add;split<;>simp_all);rw[hadd];exact(hBa.cell (p:=⟨b,off+j,none⟩) hb).trans (hx j hj)};intro w3 HA3 hB3;rw[hsp]at HA3;have hA3:dM w3 g2 168 cs:=HA3.out;have Ij:dM w3 g1 115 zb:=(hB3.block g1 (by have:=hA1.lt;have:=hg2.out;omega)).trans (hA1.kept hB2);have eZ:Below w.heap.size w w3:=hBa.trans (hB3.mono (by have:=hg2.out;have:=hB1.size;omega));go_wp2_with(refine iD 115 rfl ?_);refine⟨?_⟩;refine fG rfl _ rfl zb 64 HC ?_;intro g3 w4 hg3 hA4 hB4;have uR:=hA3.kept hB4;have abh:=Ij.kept hB4;have hBd:=eZ.trans (hB4.mono eZ.size);go_wp2_with(refine jC 168 _ rfl ?_);refine⟨?_⟩;refine iy rfl _ _ rfl g2 rfl _ cs uR 64 2 Tryz.underlying168 (by rw[←hcs,List.length_map,HL.out.1];exact tY) ?_;have HG:Hid (w.heap.size<=g1/\w.heap.size<=g2/\w.heap.size<=g3/\g1≠g2/\g2≠g3/\g1≠g3):=by{have e1:=hg1.out;have e2:=hg2.out;have e3:=hg3.out;have s1:=hB1.size;have s2:=hB2.size;have s3:=hA1.lt;have s4:=Ij.lt;have s5:=hA3.lt;exact⟨by omega,by omega,by omega,by omega,by omega,by omega⟩};have HW:=ae (ak hBd (ak abh uR));clear hA1 Ij abh hA2 uR hA3 HA3 hB1 hB2 hB3 hB4 hBa eZ hBd hg1 hg2 hg3 hsp HC HZ HS;go_wp2;go_loopw [6,7,16,17,18,19,20,21,22,23,24] (fun _ _ i _ _ _ _ _ _ _ _ wr=>∃(k:Nat)(ys:List Int),i= .int .i64 k/\k<=64/\ys.length=64/\(∀j,j<k->ys.getD j 0=(Mm.low xs).getD j 0)/\dM wr g3 115 (ys.map bv)/\dM wr g1 115 zb/\dM wr g2 168 cs/\Below w.heap.size w wr) (fun _ _ i _ _ _ _ _ _ _ _ _=>64-(intOf i).toNat);(case atStart=>exact⟨0,List.replicate 64 0,rfl,by omega,by simp,by simp,by rw[hzb];exact hA4,HW.out.2.1,HW.out.2.2,HW.out.1⟩);case round=>obtain⟨k,ys,rfl,hk,hyl,hys,uk,Ij,uR,hB⟩:=hrel;have HY:=ae (ak hyl hys);have HA:=ae (ak Ij uR);clear hA4 uR Ij;by_cases hlt:k<64;{have hget:cs[k]?=some (.int .i64 (xs.getD k 0)):=by{rw[←hcs];exact gU (by rw[HL.out.1];exact hlt)};have gI:(k:Int)<64:=by{omega};have hc:=uk.cell (gU (f:=bv) (k:=k) (by omega));have hf:=uk.frozen k;have hset:=uk.set k (bv ((Mm.low xs).getD k 0));rw[←List.map_set]at hset;obtain⟨p,hp⟩:∃p,xs.getD k 0=p:=⟨_,rfl⟩;obtain⟨q,hq⟩:∃q,ys.getD k 0=q:=⟨_,rfl⟩;rw[hp]at hget;rw[hq]at hc;have hp2:(Mm.low xs).getD k 0=p%256:=by{rw[Mm.OM,hp]};rw[hp2]at hset;have HP:=ae hp2;have HS:=ae hset;have HB:=ae hB;clear hyl hys hp hp2 hq hset uk hB;unfold bv at hc;go_wp2_with(refine vJ 168 _ _ rfl ?_);refine⟨?_⟩;refine qB rfl _ _ _ rfl cs k rfl rfl 64 2 Tryz.underlying168 hlt (fun _=>Tryz.sizeOf2 _) (fun _=>Tryz.isAgg2 _) _ hget ?_;go_wp2;go_roundw;(case rel=>obtain⟨y1,y2⟩:=IQ (f:=fun j=>(Mm.low xs).getD j 0) HY.out hlt HP.out;obtain⟨-,-,o3,-,o5,o6⟩:=HG.out;exact⟨k+1,ys.set k (p%256),by simp,by omega,y1,y2,HS.out,HA.out.1.dJ (aC _ ⟨g3,k,none⟩ _) (by simpa using o6),HA.out.2.dJ (aC _ ⟨g3,k,none⟩ _) (by simpa using o5),HB.out.setCell (p:=⟨g3,k,none⟩) o3 _⟩);case measure=>simp[intOf];omega};obtain rfl:k=64:=by{omega};have hlo:(Mm.low xs).length=64:=by{rw[Mm.OB];exact HL.out.1};have e:ys=Mm.low xs:=rY HY.out hlo;have hbd:=Mm.Rm xs;have heq:=Mm.Tv HL.out.1;have hce:Mm.ok xs=true->Mm.cells xs=Mm.low xs:=fun h=>by{rw[Mm.cells,az h,Mm.Rv h]};have hcn:Mm.ok xs=false->Mm.cells xs=List.replicate 64 0:=fun h=>by{rw[Mm.cells,ax (by rw[h];simp)]};subst e;obtain⟨ls,hls⟩:∃ls,Mm.low xs=ls:=⟨_,rfl⟩;rw[hls]at uk hlo hbd heq hce;have HB:=ae hB;have HA3:=ae uk;have HE:=ae (ak hlo hbd);have hne:=bP.any wr;clear hyl hys HY hls hB hlo hbd;go_wp2;refine bY (by kernel_rfl) (by kernel_rfl) ?_;refine BigFrame.wpQuiet_want rfl fun K hK=>uB _ _ rfl g3 rfl _ (ls.map bv) (fun _ ⟨px,hpx⟩=>by rw[hpx];exact HA3.out.kept px.h) 64 5 Tryz.underlying115 (by rw[List.length_map,HE.out.1];exact jv) (hK _ ?_);clear hK K;refine BigFrame.wpQuiet_want rfl fun K hK=>JX 100 _ _ rfl _ (.agg (ls.map iv).toArray) rfl (fun w=>by simp) (fun _ ⟨px,hpx⟩=>by rw[hpx];exact bW (JD ls HE.out.1 HE.out.2 px.to)) (hK _ ?_);clear hK K;refine BigFrame.wpQuiet_want rfl fun K hK=>uB _ _ rfl g2 rfl _ cs (fun _ ⟨px,hpx⟩=>by rw[hpx];exact HA.out.2.kept px.h) 64 2 Tryz.underlying168 (by rw[←hcs,List.length_map,HL.out.1];exact tY) (hK _ ?_);clear hK K;refine BigFrame.wpQuiet_want rfl fun K hK=>Nk _ _ _ _ rfl ls xs rfl (by rw[hcs];rfl) 64 2 Tryz.underlying168 Tryz.underlying2 (fun _=>Tryz.sizeOf2 _) HE.out.1 HL.out.1 (by simp) (hK _ ?_);clear hK K;refine wpQuiet_nil ?_;rintro _ ⟨pw,rfl⟩;have dB:=HB.out.trans (pw.h.mono HB.out.size);have hA7:=ak (HA.out.1.kept pw.h) (HA3.out.kept pw.h);generalize pw.to=w7 at*;rw[heq];clear uk hne heq;have HA7:=ae hA7;have HB7:=ae dB;clear hA7 dB HA3;rcases hok:Mm.ok xs;{have HR:Hid ((Mm.cells xs).map bv=zb/\Mm.ok xs=false):=⟨by rw[hcn hok,hzb],hok⟩;have hlz:zb.length=64:=HL.out.2.1;clear hcn hce hok;go_wp2_with(refine nP 115 _ rfl ?_);refine⟨?_⟩;refine qx rfl rfl zb hzb ?_;go_wp2_with(refine jr 115 _ _ rfl ?_);refine⟨?_⟩;refine gQ rfl _ _ _ rfl g1 zb rfl rfl _ _ HA7.out.1 (by rw[hlz];exact jv) rfl (by rw[←hzb];exact tO) ?_;intro w8 hA8 hg8;have HA8:=ae hA8;go_wp2;refine bodyPost_ret (v:= .tuple #[.agg zb.toArray, .bool false]) ?_ rfl ⟨by rw[HR.out.1,HR.out.2],aI HB7.out hg8 HG.out.1⟩;exact mV rfl _ _ g1 _ zb _ 64 5 rfl rfl HA8.out Tryz.underlying115 (by rw[hlz];exact jv)};have HR:Hid ((Mm.cells xs).map bv=ls.map bv/\Mm.ok xs=true):=⟨by rw[hce hok],hok⟩;have hlz:zb.length=64:=HL.out.2.1;have hll:(ls.map bv).length=64:=by{rw[List.length_map];exact HE.out.1};clear hcn hce hok;go_wp2_with(refine jC 115 _ rfl ?_);refine⟨?_⟩;refine iy rfl _ _ rfl g3 rfl _ _ HA7.out.2 64 5 Tryz.underlying115 (by rw[hll];exact jv) ?_;go_wp2_with(refine jr 115 _ _ rfl ?_);refine⟨?_⟩;refine gQ rfl _ _ _ rfl g1 (ls.map bv) rfl rfl _ _ HA7.out.1 (by rw[hll];exact jv) (by rw[hlz,hll]) tO ?_;intro w8 hA8 hg8;have HA8:=ae hA8;go_wp2;refine bodyPost_ret (v:= .tuple #[.agg (ls.map bv).toArray, .bool true]) ?_ rfl ⟨by rw[HR.out.1,HR.out.2],aI HB7.out hg8 HG.out.1⟩;exact mV rfl _ _ g1 _ (ls.map bv) _ 64 5 rfl rfl HA8.out Tryz.underlying115 (by rw[hll];exact jv)};have hno:Mm.ok xs=false:=by{rw[Bool.eq_false_iff];intro h;exact h64 (hl.symm.trans (Mm.gL h))};have hce:(Mm.cells xs).map bv=zb:=by{rw[←hzb,Mm.cells,ax (by rw[hno];simp)]};rw[hce,hno];have amG:¬(len:Int)=64:=by{omega};clear hl hce hno;go_enter Tryz.func65,Tryz.ntmps65;go_wp2_with(refine iD 115 rfl ?_);refine⟨?_⟩;refine fG rfl _ rfl zb 64 HC ?_;intro g1 w1 hg1 hA1 hB1;go_wp2_with(refine nP 115 _ rfl ?_);refine⟨?_⟩;refine qx rfl rfl zb hzb ?_;go_wp2_with(refine jr 115 _ _ rfl ?_);refine⟨?_⟩;have hlz:zb.length=64:=by{rw[←hzb];simp};refine gQ rfl _ _ _ rfl g1 zb rfl rfl _ _ hA1 (by rw[hlz];exact jv) rfl (by rw[←hzb];exact tO) ?_;intro w5 X8 hg5;have HA5:=ae X8;go_wp2;have o2:w.heap.size<=g1:=by{have:=hg1.out;omega};refine bodyPost_ret (v:= .tuple #[.agg zb.toArray, .bool false]) ?_ rfl ⟨rfl,aI hB1 hg5 o2⟩;exact mV rfl _ _ g1 _ zb _ 64 5 rfl rfl HA5.out Tryz.underlying115 (by rw[hlz];exact jv)
theorem wY (a o:Int)(w:World):Calls Tryz.prog 146 #[.int .i64 a, .int .i64 o] w fun e w'=>e= .returned (.tuple #[.int .i64 (if Mm.there a o=true then a+o else 0), .bool (Mm.there a o)])/\w'=w:=by rcases hok:Wd.ok a;{have hth:Mm.there a o=false:=by{simp[Mm.there,hok]};rw[hth];go_enter Tryz.func146,Tryz.ntmps146;go_wp2_with(go_at_call 101;refine(bg _ _).mono ?_;rintro e w' ⟨rfl,aX⟩;subst w';rw[hok]);go_ret2;exact⟨rfl,rfl⟩};have h0:=Wd.aV.1 hok;have ha0:=h0.1;have ha1:=h0.2;clear h0;rcases hin:Wd.dW o 0 255;{have hth:Mm.there a o=false:=by{simp[Mm.there,hin]};rw[hth];go_enter Tryz.func146,Tryz.ntmps146;go_wp2_with(first|(go_at_call 101;refine(bg _ _).mono ?_;rintro e w' ⟨rfl,aX⟩;subst w';rw[hok])|(go_at_call 66;refine(bF _ _ _ _).mono ?_;rintro e w' ⟨rfl,aX⟩;subst w';rw[hin]));go_ret2;exact⟨rfl,rfl⟩};have h1:=Wd.bi.1 hin;have ho0:=h1.1;have ho1:=h1.2;clear h1;by_cases hle:a+o<=60;{have hth:Mm.there a o=true:=Mm.ja.2 ⟨ha0,ho0,ho1,hle⟩;rw[hth,az rfl];go_enter Tryz.func146,Tryz.ntmps146;go_wp2_with(first|(go_at_call 101;refine(bg _ _).mono ?_;rintro e w' ⟨rfl,aX⟩;subst w';rw[hok])|(go_at_call 66;refine(bF _ _ _ _).mono ?_;rintro e w' ⟨rfl,aX⟩;subst w';rw[hin]));go_ret2;exact⟨rfl,rfl⟩};have hth:Mm.there a o=false:=by{rw[Bool.eq_false_iff];intro h;exact hle (Mm.ja.1 h).2.2.2};rw[hth];go_enter Tryz.func146,Tryz.ntmps146;go_wp2_with(first|(go_at_call 101;refine(bg _ _).mono ?_;rintro e w' ⟨rfl,aX⟩;subst w';rw[hok])|(go_at_call 66;refine(bF _ _ _ _).mono ?_;rintro e w' ⟨rfl,aX⟩;subst w';rw[hin]));go_ret2;exact⟨rfl,rfl⟩
theorem Pn (bs:List Int)(hl:bs.length=64)(hb:∀j,0<=bs.getD j 0/\bs.getD j 0<=255)(k:Nat)(hk:k+4<=64)(v:Int)(h0:0<=v)(h1:v<=4294967295)(w:World):Calls Tryz.prog 140 #[.agg (bs.map bv).toArray, .int .i64 k, .int .u32 v] w fun e w'=>e= .returned (.agg ((Mm.iX bs k v 4).map bv).toArray)/\Below w.heap.size w w':=by have HL:=ae hl;obtain⟨cs,hcs⟩:∃cs,bs.map bv=cs:=⟨_,rfl⟩;obtain⟨zb,hzb⟩:∃zb,(List.replicate 64 (0:Int)).map bv=zb:=⟨_,rfl⟩;have HC:=Mi;rw[hzb]at HC;rw[hcs];clear hl;go_enter Tryz.func140,Tryz.ntmps140;go_wp2_with(refine oW 115 _ rfl ?_);refine⟨?_⟩;refine kG rfl _ _ rfl cs rfl ?_;intro g1 w1 hg1 hA1 hB1;go_wp2_with(refine iD 115 rfl ?_);refine⟨?_⟩;refine fG rfl _ rfl zb 64 HC ?_;intro g2 w2 hg2 hA2 hB2;have hBw:=hB1.trans (hB2.mono hB1.size);have HW:=ae (ak hBw (ak (hA1.kept hB2) hA2));have HG:Hid (w.heap.size<=g1/\w.heap.size<=g2/\g1≠g2):=by{have e1:=hg1.out;have e2:=hg2.out;have s1:=hB1.size;have s3:=hA1.lt;exact⟨by omega,by omega,by omega⟩};clear hA1 hA2 hB1 hB2 hBw hg1 hg2 HC;go_wp2;go_loopw [7,8,9,10,11,12,13,14,15,16,17,18,19,20] (fun _ i _ _ _ _ _ _ _ _ _ _ _ _ wr=>∃(j:Nat),i= .int .i64 j/\j<=4/\dM wr g1 115 ((Mm.iX bs k v j).map bv)/\dM wr g2 115 zb/\Below w.heap.size w wr) (fun _ i _ _ _ _ _ _ _ _ _ _ _ _ _=>4-(intOf i).toNat);(case atStart=>exact⟨0,rfl,by omega,by rw[Mm.iX,hcs];exact HW.out.2.1,HW.out.2.2,HW.out.1⟩);case round=>obtain⟨j,rfl,hj,hA1,hA2,hB⟩:=hrel;have HA:=ae (ak hA2 hB);by_cases hlt:j<4;{have gI:(j:Int)<4:=by{omega};have hkj:k+j<64:=by{omega};have hc:=hA1.cell (gU (f:=bv) (k:=k+j) (by rw[Mm.lQ,HL.out];exact hkj));have hf:=hA1.frozen (k+j);have hset:=hA1.set (k+j) (bv (v / 256 ^ j%256));rw[←List.map_set,←Mm.iX]at hset;obtain⟨q,hq⟩:∃q,(Mm.iX bs k v j).getD (k+j) 0=q:=⟨_,rfl⟩;rw[hq]at hc;have HS:=ae hset;clear hq hset hA1 hA2 hB hb;unfold bv at hc;obtain rfl|rfl|rfl|rfl:j=0\/j=1\/j=2\/j=3:=by{omega};{rw[Nat.add_zero]at hc hf;go_wp2;have e:=HS.out;rw[Nat.add_zero,show v / 256 ^ 0%256=v%256 by simp]at e;exact⟨⟨1,rfl,by omega,e,HA.out.1.dJ (aC _ ⟨g1,k,none⟩ _) (by simpa using Ne.symm HG.out.2.2),HA.out.2.setCell (p:=⟨g1,k,none⟩) HG.out.1 _⟩,by simp[intOf]⟩};{go_wp2;have e:=HS.out;rw[show(256:Int) ^ 1=256 from rfl]at e;exact⟨⟨2,rfl,by omega,e,HA.out.1.dJ (aC _ ⟨g1,k+1,none⟩ _) (by simpa using Ne.symm HG.out.2.2),HA.out.2.setCell (p:=⟨g1,k+1,none⟩) HG.out.1 _⟩,by simp[intOf]⟩};{go_wp2;have e:=HS.out;rw[show(256:Int) ^ 2=65536 from rfl]at e;exact⟨⟨3,rfl,by omega,e,HA.out.1.dJ (aC _ ⟨g1,k+2,none⟩ _) (by simpa using Ne.symm HG.out.2.2),HA.out.2.setCell (p:=⟨g1,k+2,none⟩) HG.out.1 _⟩,by simp[intOf]⟩};go_wp2;have e:=HS.out;rw[show(256:Int) ^ 3=16777216 from rfl,show v / 16777216%256=v / 16777216 by omega]at e;exact⟨⟨4,rfl,by omega,e,HA.out.1.dJ (aC _ ⟨g1,k+3,none⟩ _) (by simpa using Ne.symm HG.out.2.2),HA.out.2.setCell (p:=⟨g1,k+3,none⟩) HG.out.1 _⟩,by simp[intOf]⟩};obtain rfl:j=4:=by{omega};have hll:((Mm.iX bs k v 4).map bv).length=64:=by{rw[List.length_map,Mm.lQ];exact HL.out};have hlz:zb.length=64:=by{rw[←hzb];simp};obtain⟨ys,hys⟩:∃ys,(Mm.iX bs k v 4).map bv=ys:=⟨_,rfl⟩;have HY:=ae hys;have hone:∀x∈ys,x.oneCell'=true:=by{rw[←hys];exact tO};rw[hys]at hll hA1;clear hys hb hB;go_wp2_with(refine jC 115 _ rfl ?_);refine⟨?_⟩;refine iy rfl _ _ rfl g1 rfl _ _ hA1 64 5 Tryz.underlying115 (by rw[hll];exact jv) ?_;go_wp2_with(refine jr 115 _ _ rfl ?_);refine⟨?_⟩;refine gQ rfl _ _ _ rfl g2 ys rfl rfl _ _ hA2 (by rw[hll];exact jv) (by rw[hll,hlz]) hone ?_;intro w5 X8 hg5;have HA5:=ae X8;go_wp2;refine bodyPost_ret (v:= .agg ys.toArray) ?_ rfl ⟨by rw[HY.out],aI HA.out.2 hg5 HG.out.2.1⟩;exact results_cell_row rfl _ _ g2 _ _ _ _ rfl HA5.out Tryz.underlying115 rfl (by rw[List.size_toArray,hll];exact jv)
theorem CV {x q:Int}(i:Nat)(hi:i<=24)(h0:0<=x)(h1:x<2 ^ i)(h2:0<=q)(h3:q<=255):bits .or .u32 x (q*2 ^ i)=x+q*2 ^ i:=by obtain⟨n,rfl⟩:=Int.eq_ofNat_of_zero_le h0;obtain⟨m,rfl⟩:=Int.eq_ofNat_of_zero_le h2;have hn:n<2 ^ i:=by{have:((n:Int))<((2 ^ i:Nat):Int):=by{push_cast;exact h1};exact_mod_cast this};have hm:m<=255:=by{omega};have hp:2 ^ i<=2 ^ 24:=Nat.pow_le_pow_right (by omega) hi;have hmi:m*2 ^ i<=255*2 ^ 24:=Nat.mul_le_mul hm hp;have h:=(bits_nat .u32 32 (by decide) Wd.uX n (m*2 ^ i) (by omega) (by omega)).2;have e:((m*2 ^ i:Nat):Int)=(m:Int)*2 ^ i:=by{push_cast;rfl};rw[e]at h;rw[h,Nat.mul_comm,Nat.or_comm,←Nat.two_pow_add_eq_or_of_lt hn m];push_cast;rw[Int.mul_comm,Int.add_comm]
theorem P8 (bs:List Int)(hl:bs.length=64)(hb:∀j,0<=bs.getD j 0/\bs.getD j 0<=255)(k:Nat)(hk:k+4<=64)(w:World):Calls Tryz.prog 138 #[.agg (bs.map bv).toArray, .int .i64 k] w fun e w'=>e= .returned (.int .u32 (Mm.j3 bs k 4))/\Below w.heap.size w w':=by have HL:=ae hl;obtain⟨cs,hcs⟩:∃cs,bs.map bv=cs:=⟨_,rfl⟩;have hbd:=Mm.u7 hb k;rw[hcs];clear hl;go_enter Tryz.func138,Tryz.ntmps138;go_wp2_with(refine oW 115 _ rfl ?_);refine⟨?_⟩;refine kG rfl _ _ rfl cs rfl ?_;intro g1 w1 hg1 hA1 hB1;have HW:=ae (ak hB1 hA1);clear hA1 hB1 hg1;go_wp2;go_loop [5,6,7,8,9,10,11,12,13,14,15,16,17,18,19,20,21] (fun x _ i _ _ _ _ _ _ _ _ _ _ _ _ _ _=>∃(j:Nat),i= .int .i64 j/\j<=4/\x= .int .u32 (Mm.j3 bs k j)) (fun _ _ i _ _ _ _ _ _ _ _ _ _ _ _ _ _=>4-(intOf i).toNat);(case atStart=>exact⟨0,rfl,by omega,rfl⟩);case round=>obtain⟨j,rfl,hj,rfl⟩:=hrel;by_cases hlt:j<4;{have gI:(j:Int)<4:=by{omega};have hkj:k+j<64:=by{omega};have hc:=HW.out.2.cell (hcs▸gU (f:=bv) (bs:=bs) (k:=k+j) (by rw[HL.out];exact hkj));have hp0:=(hb (k+j)).1;have hp1:=(hb (k+j)).2;have hx0:=(hbd j).1;have hx1:=(hbd j).2;have hN:Mm.j3 bs k (j+1)=Mm.j3 bs k j+bs.getD (k+j) 0*256 ^ j:=rfl;obtain⟨q,hq⟩:∃q,bs.getD (k+j) 0=q:=⟨_,rfl⟩;obtain⟨x,hx⟩:∃x,Mm.j3 bs k j=x:=⟨_,rfl⟩;rw[hq]at hc hp0 hp1 hN;rw[hx]at hx0 hx1 hN ⊢;have HN:=ae hN;clear hq hx hN hb hbd;unfold bv at hc;obtain rfl|rfl|rfl|rfl:j=0\/j=1\/j=2\/j=3:=by{omega};{rw[Nat.add_zero]at hc;rw[show(256:Int) ^ 0=1 from rfl]at hx1;go_wp2;have e:=CV 0 (by omega) hx0 hx1 hp0 hp1;have e2:=HN.out;rw[show(2:Int) ^ 0=1 from rfl,Int.mul_one]at e;rw[show(256:Int) ^ 0=1 from rfl,Int.mul_one]at e2;exact⟨⟨1,rfl,by omega,by rw[e];exact congrArg _ e2.symm⟩,by simp[intOf]⟩};{rw[show(256:Int) ^ 1=256 from rfl]at hx1;go_wp2;have e:=CV 8 (by omega) hx0 hx1 hp0 hp1;have e2:=HN.out;rw[show(2:Int) ^ 8=256 from rfl]at e;rw[show(256:Int) ^ 1=256 from rfl]at e2;exact⟨⟨2,rfl,by omega,by rw[e];exact congrArg _ e2.symm⟩,by simp[intOf]⟩};{rw[show(256:Int) ^ 2=65536 from rfl]at hx1;go_wp2;have e:=CV 16 (by omega) hx0 hx1 hp0 hp1;have e2:=HN.out;rw[show(2:Int) ^ 16=65536 from rfl]at e;rw[show(256:Int) ^ 2=65536 from rfl]at e2;exact⟨⟨3,rfl,by omega,by rw[e];exact congrArg _ e2.symm⟩,by simp[intOf]⟩};rw[show(256:Int) ^ 3=16777216 from rfl]at hx1;go_wp2;have e:=CV 24 (by omega) hx0 hx1 hp0 hp1;have e2:=HN.out;rw[show(2:Int) ^ 24=16777216 from rfl]at e;rw[show(256:Int) ^ 3=16777216 from rfl]at e2;exact⟨⟨4,rfl,by omega,by rw[e];exact congrArg _ e2.symm⟩,by simp[intOf]⟩};obtain rfl:j=4:=by{omega};clear hb hbd;go_wp2;go_ret;exact⟨rfl,HW.out.1⟩
end Go.Proofs.YthkjdjmjdlimnaaGreat
