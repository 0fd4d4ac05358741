/- Own text. -/
import Derived.Test.YthkjdjmjdlimnaaGreatKV15
namespace Go.Proofs.YthkjdjmjdlimnaaGreat
open Go.RowKit Go.Shelf
set_option linter.all false
set_option maxRecDepth 100000
set_option maxHeartbeats 16000000
variable {E H O args l loc pile ys:List Int}{P:Nat->Prop}{Q:Exit->Act->World->Prop}{W W' W0 w:World}{a b h:Int}{at' cap e g i j k n n₀ q:Nat}{o:Oper}{ops:Array Oper}{rest:List Oper}{v vg:Value}
theorem Lw.Sa{c:LX}(T:TX c W0)(hat:at'<c.f.b.length)(h:aM.op c.f.b at'=16):0<=Hg.arg c.f.b at':=by have hok:St.ok (aM.op c.f.b at') (Hg.arg c.f.b at')=true:=St.bg T.all hat;simp only[St.ok,au,Wd.aZ]at hok;have h1:St.least (aM.op c.f.b at')=0:=by{rw[h];rfl};omega
def Lw.kR (t n:Int)(k:Nat):List Int:=(List.range k).map fun(i:Nat)=>t-n+1+(i:Int)
theorem Lw.Jf (t n:Int)(k:Nat):Lw.kR t n (k+1)=Lw.kR t n k++[t-n+1+(k:Int)]:=by unfold Lw.kR;rw[List.range_succ,oZ];rfl
theorem abv{a:Option Addr}{fs:List Fn}(h:FL W a n fs)(hk:k<n):∃b off,a=some ⟨b,off,none⟩/\b<W.heap.size/\∃ba bl bc,W.cell? ⟨b,off+k*4,none⟩=some (.int .i64 (fs.getD k .z).a)/\W.cell? ⟨b,off+k*4+1,none⟩=some (.int .i64 (fs.getD k .z).l)/\W.cell? ⟨b,off+k*4+2,none⟩=some (.int .i64 (fs.getD k .z).g)/\W.cell? ⟨b,off+k*4+3,none⟩=some (.slice ba bl bc):=by obtain⟨hl,hm,h0|⟨b,off,e,hb,hx⟩⟩:=h;{omega};obtain⟨x0,x1,x2,ba,bl,bc,x3,-⟩:=hx k hk;exact⟨b,off,e,hb,ba,bl,bc,x0,x1,x2,x3⟩
theorem agT{c:LX}{out:List (Ln×Int)}(T:TX c W0)(K:MK c W0 W v vg out P)(fa:Option Addr)(fl fc:Nat)(d:ByteArray)(oa:Option Addr)(oc:Nat)(hF:FL W0 fa fl c.fs)(hO:IL W0 oa c.f.b.length c.O)(at':Nat)(hat:at'<c.f.b.length)(hr:0<=c.H.getD at' 0)(hlen:out.length<=900)(p:Int)(hp:aM.op c.f.b at'=p)(hk:Hid (p=16)):Calls Tryz.prog 63 #[.pointer (some ⟨c.B,0,none⟩), .agg #[.slice fa fl fc, .string d], .slice oa c.f.b.length oc, .int .i64 at'] W fun e w'=>∃v' qJ,e= .returned (.tuple #[])/\MK c W0 w' v' qJ (out++Lw.step c.fs c.f c.E c.O c.H at') (fun g=>P g\/W.heap.size<=g)/\FX c v vg v' qJ W w':=by
 have hty:=T.acc.typ at' hat hr
 obtain⟨hH,hE,hS⟩:=T.il K
 have TS:=hO.kept K.fU
 have hF1:=hF.kept K.fU
 have hLen:=T.ok.2.2.2.2.2
 have htop:=T.acc.dU at' hat
 have hW:=T.lt
 have hwd:0<=Lw.wd c.f/\Lw.wd c.f<=6:=by have:=T.ok;unfold Lw.wd;omega
 have HST:Hid (Lw.step c.fs c.f c.E c.O c.H at'=Lw.vo c.fs c.f c.E c.O c.H at' p (Hg.arg c.f.b at') (Lw.bx c.f (c.H.getD at' 0-1))):=by show _=_;unfold Lw.step;rw[hp]
 have hbx0:=K.box
 unfold LX.dY at hbx0
 obtain⟨bl,hbl⟩:∃n,c.f.b.length=n:=⟨_,rfl⟩
 rw[hbl]at hH hE hS TS hLen hat hbx0 ⊢
 have nE:(at':Int)<(bl:Int):=by omega
 have cS:∃b o,c.ba=some ⟨b,o,none⟩/\b<W.heap.size/\W.cell? ⟨b,o+at'*2,none⟩=some (.int .i64 (aM.op c.f.b at'))/\W.cell? ⟨b,o+at'*2+1,none⟩=some (.int .i64 (Hg.arg c.f.b at')):=by obtain⟨hl,-,h3|⟨b,o,e,hb,hh⟩⟩:=hS;{omega};exact⟨b,o,e,hb,(hh at' hat).1,(hh at' hat).2⟩
 obtain⟨sb,so,es,lS,Mr,cS2⟩:=cS
 have cH:∃b o,c.ha=some ⟨b,o,none⟩/\b<W.heap.size/\W.cell? ⟨b,o+at',none⟩=some (.int .i64 (c.H.getD at' 0)):=by obtain⟨hl,-,h3|⟨b,o,e,hb,hh⟩⟩:=hH;{omega};exact⟨b,o,e,hb,hh at' hat⟩
 obtain⟨hb',ho',eh,lH,cH⟩:=cH
 have cE:∃b o,c.ea=some ⟨b,o,none⟩/\b<W.heap.size/\W.cell? ⟨b,o+at',none⟩=some (.int .i64 (aM.aI c.E at')):=by obtain⟨hl,-,h3|⟨b,o,e,hb,hh⟩⟩:=hE;{omega};refine⟨b,o,e,hb,?_⟩;rw[hh at' hat];unfold aM.aI;rw[ah,ah,ai (by omega)];rfl
 obtain⟨eb,eo,ee,lE,cE⟩:=cE
 have cO:∃b o,oa=some ⟨b,o,none⟩/\b<W.heap.size/\W.cell? ⟨b,o+at',none⟩=some (.int .i64 (aM.aI c.O at')):=by obtain⟨hl,-,h3|⟨b,o,e,hb,hh⟩⟩:=TS;{omega};refine⟨b,o,e,hb,?_⟩;rw[hh at' hat];unfold aM.aI;rw[ah,ah,ai (by omega)];rfl
 obtain⟨ob,oo,rfl,lO,cO⟩:=cO
 rw[hp]at Mr
 obtain⟨q,hq⟩:=aF (Hg.arg c.f.b at')
 obtain⟨u,hu⟩:=aF (c.H.getD at' 0)
 rw[hq]at cS2 HST
 rw[hu]at cH htop hr HST
 have d2:=(hbx0.2 2 _ rfl).1
 have d3:=(hbx0.2 3 _ rfl).1
 have d4:=(hbx0.2 4 _ rfl).1
 have d5:=(hbx0.2 5 _ rfl).1
 have TQ:=hbx0.1
 rw[eh]at d3
 rw[ee]at d4
 rw[es]at d5
 have hB1:=aB W (.cells #[.slice fa fl fc, .string d] 26)
 have hA1:dG (W.alloc (.cells #[.slice fa fl fc, .string d] 26)) W.heap.size 26 [.slice fa fl fc, .string d]:=qo W _
 obtain⟨W1,hW1⟩:∃X,W.alloc (.cells #[.slice fa fl fc, .string d] 26)=X:=⟨_,rfl⟩
 rw[hW1]at hB1 hA1
 have hB2:=aB W1 (.cells #[.int .i64 (p), .int .i64 q] 95)
 have hA2:dG (W1.alloc (.cells #[.int .i64 (p), .int .i64 q] 95)) W1.heap.size 95 [.int .i64 (p), .int .i64 q]:=qo W1 _
 obtain⟨W2,hW2⟩:∃X,W1.alloc (.cells #[.int .i64 (p), .int .i64 q] 95)=X:=⟨_,rfl⟩
 rw[hW2]at hB2 hA2
 have hB:=hB1.trans (hB2.mono hB1.size)
 have K2:=K.kept hB
 have mO:=hA1.kept hB2
 have hcon:=mW T K2 (u-1) (by omega) (by omega)
 have htt:-1<=Lw.bx c.f (u-1)/\Lw.bx c.f (u-1)<=26:=by unfold Lw.bx;omega
 obtain⟨tt,Kk⟩:=aF (Lw.bx c.f (u-1))
 rw[Kk]at hcon htt HST
 have c3:=bA hB1 d3
 have k3:=bA hB d3
 have k4:=bA hB d4
 have c5:=bA hB1 d5
 have c6:=bA hB1 Mr
 have c7:=bA hB1 cS2
 have c8:=bA hB cH
 have AL:=bA hB cE
 have AO:=bA hB cO
 have k2:=bA hB d2
 have s0:=hA2.cell (j:=0) rfl
 have s1:=hA2.cell (j:=1) rfl
 have m0:=mO.cell (j:=0) rfl
 have F0:FX c v vg v vg W W2:=FX.below hB
 have hF2:=hF1.kept hB
 have HQ:=ae (ak hp (ak hq (ak hbl (ak hu hty))))
 clear hH hE hS hO TS hF hF1 d2 d3 d4 d5 Mr cS2 cH cE cO hbx0 hA1 hB1 hB2 K hu Kk hp hq hbl
 go_enter Tryz.func63,Tryz.ntmps63
 go_wp2_with fail
 refine hcon.mono ?_
 rintro e w3⟨rfl,dC⟩
 subst w3
 dsimp only
 clear hcon
 obtain rfl:=hk.out
 have hq0:0<=q:=by have:=Lw.Sa T (at':=at') (by rw[HQ.out.2.2.1];exact hat) HQ.out.1;rw[HQ.out.2.1]at this;exact this
 have hq1:q<c.fs.length:=by have:=HQ.out.2.2.2.2.call HQ.out.1;rw[HQ.out.2.1]at this;exact this
 have hfl:c.fs.length=fl:=hF2.1
 obtain⟨qn,rfl⟩:=Cj hq0
 have hqn:qn<fl:=by omega
 have hqZ:(qn:Int)<(fl:Int):=by omega
 obtain⟨fb,fo,rfl,lF,gba,gbl,gbc,y0,y1,y2,y3⟩:=abv hF2 hqn
 have TU:=Mn.iY T.val (k:=qn) (by omega)
 have YT:fl<=4:=by have:=T.val.len.2;omega
 unfold Mn.fn at TU
 obtain⟨G,hG⟩:=aF (c.fs.getD qn .z)
 rw[hG]at TU y0 y1 y2
 replace HST:Hid (Lw.step c.fs c.f c.E c.O c.H at'=[(⟨7,if G.g=1 then tt-G.a+1 else Lw.wd c.f+20,0,0,qn,Lw.args tt G.a⟩,-1)]):=by show _=_;rw[HST.out];show[((⟨7,if(c.fs.getD (qn:Int).toNat .z).g=1 then _ else _,0,0,_,Lw.args tt (c.fs.getD (qn:Int).toNat .z).a⟩:Ln),(-1:Int))]=_;rw[aA,hG]
 obtain⟨ga,hga⟩:∃ga:Nat,G.a=(ga:Int):=Cj TU.1
 have ara:ga<=3:=by omega
 obtain⟨gg,hgg⟩:=aF (G.g)
 have Mt:gg=0\/gg=1:=by rw[←hgg];exact TU.2.2.2.2.1
 obtain⟨gl,hgl⟩:=aF (G.l)
 have HAR:Hid (Lw.args tt G.a=Lw.kR tt ga ga):=by show _=_;rw[hga];rfl
 rw[hga]at y0 HST HAR
 rw[hgg]at y2 HST
 rw[hgl]at y1
 obtain⟨wd0,ahR⟩:=aF (Lw.wd c.f)
 rw[ahR]at k2 hwd HST
 have hBG:=aB W2 (.cells #[.int .i64 (ga:Int), .int .i64 gl, .int .i64 gg, .slice gba gbl gbc] 93)
 have hAG:dG (W2.alloc (.cells #[.int .i64 (ga:Int), .int .i64 gl, .int .i64 gg, .slice gba gbl gbc] 93)) W2.heap.size 93 [.int .i64 (ga:Int), .int .i64 gl, .int .i64 gg, .slice gba gbl gbc]:=qo W2 _
 obtain⟨W3,hW3⟩:∃X,W2.alloc (.cells #[.int .i64 (ga:Int), .int .i64 gl, .int .i64 gg, .slice gba gbl gbc] 93)=X:=⟨_,rfl⟩
 rw[hW3]at hBG hAG
 have j2:=bA hBG k2
 have t1:=bA hBG s1
 have hlB:c.B<W3.heap.size:=aj K2.sz hBG.size
 have hlS:=(hA2.kept hBG).lt
 have HKK:=ae (ak (K2.kept hBG) (ak (F0.trans (FX.below (c:=c) (v:=v) (vg:=vg) hBG)) hAG))
 clear c3 k3 k4 c5 c6 c7 c8 AL AO mO hW1 hW2 hty hF2 hG hga hgg hgl ahR TU hfl K2 F0 hB hA2
 go_wp2
 go_region
 all_goals
  clear j2 t1 y0 y1 y2 y3 k2 s0 s1 m0
  have acA:=aB W3 (.cells #[.int .i64 7, .int .i64 (wd0+20), .int .i64 0, .int .i64 0, .int .i64 qn, .slice none 0 0] 109)
  have hBL:=acA.trans ((eG _ _).drew.mono acA.size)
  have hAL:dG (W3.alloc (.cells #[.int .i64 7, .int .i64 (wd0+20), .int .i64 0, .int .i64 0, .int .i64 qn, .slice none 0 0] 109)).drew W3.heap.size 109 [.int .i64 7, .int .i64 (wd0+20), .int .i64 0, .int .i64 0, .int .i64 qn, .slice none 0 0]:=qo W3 _
  obtain⟨i0,hi,hz0,hz1,hz2⟩:=lT bT
  have HS:=ae (ak hAL hBL)
  clear acA hAL hBL hW3
  go_wp2
  go_loopw [20] (fun vi wr=>∃(k:Nat)(lv:Value),vi= .int .i64 k/\k<=ga/\dG wr W3.heap.size 109 [.int .i64 7, .int .i64 (wd0+20), .int .i64 0, .int .i64 0, .int .i64 qn,lv]/\OI wr (W3.heap.size+1) lv (Lw.kR tt ga k)/\Below W3.heap.size W3 wr) (fun i _=>ga-(intOf i).toNat)
  case atStart=>exact⟨0,_,rfl,jT _,HS.out.1,OI.nil _ _,HS.out.2⟩
  case round=>
   obtain⟨k,lv,rfl,hk,hAr,hol,hBr⟩:=hrel
   clear HS
   have hG9:=HKK.out.2.2.kept hBr
   have g0:=hG9.cell (j:=0) rfl
   have g2:=hG9.cell (j:=2) rfl
   have hll:(Lw.kR tt ga k).length=k:=by unfold Lw.kR;simp
   have Pm:wr.ownsRow (W3.heap.size+1) 2 1 lv k ((Lw.kR tt ga k).map iv):=by unfold OI at hol;rwa [hll]at hol
   obtain⟨la,lc,rfl⟩:=bP Pm
   have Pn:∀g,(Value.slice la k lc).ownBlock=some g->W3.heap.size+1<=g:=fun g hg=>(dO Pm hg).1
   have a5:=hAr.cell (j:=5) rfl
   have al:=hAr.lt
   by_cases hlt:k<ga
   · have gI:(k:Int)<(ga:Int):=by{omega};obtain⟨y,hy⟩:=aF (tt-(ga:Int)+1+(k:Int));have HY:=ae hy;clear hy;have vz:=aB wr (.cells #[.int .i64 (tt-(ga:Int)+1+(k:Int))] 2);have HO:=ae (aN Pm vz);have HA:=ae (hAr.kept vz);have HBr:=ae (hBr.trans (vz.mono hBr.size));have YU:=hBr.size;clear vz hol Pm hAr hBr hG9 hll;go_wp2_with(at_builtin;refine nz _ rfl _ _ 27 rfl (W3.heap.size+1) 2 i0 (.int .i64 0) 1 8 Tryz.underlying27 hi hz0 hz1 hz2 rfl (by decide) (.slice la k lc) k _ rfl HO.out ⟨wr.heap.size,0,none⟩ 1 1 [.int .i64 (tt-(ga:Int)+1+(k:Int))] rfl rfl (cell_one_new _ _ _) (by simp[Value.oneCell']) (by simp only[maxLen];omega) (by omega) (by simp;omega) ?_;intro v2 wB hown2 hgrow2 _;obtain⟨g2',cap2,rfl⟩:=qF hown2;have hA3:=HA.out.dZ hgrow2 (fun e=>by have:=Pn W3.heap.size e.symm;omega);have b5:=hA3.cell (j:=5) rfl;have f5:=hA3.frozen 5;have l5:=hA3.lt;have pO:=ae (ak hown2 (ak hgrow2 hA3));clear hown2 hgrow2 hA3);go_roundw;(case rel=>obtain⟨o1,o2,o3⟩:=pO.out;have gs:=aC wB ⟨W3.heap.size,5,none⟩ (.slice (some ⟨g2',0,none⟩) (k+1) cap2);refine⟨k+1,_,by simp,hlt,o3.set 5 _,?_,?_⟩;{show World.ownsRow _ _ _ _ _ _ _;rw[Lw.Jf,oZ,jy,AQ,show(Lw.kR tt ga k).length=k by unfold Lw.kR;simp];exact eQ o1 gs (fun g e=>by have:=(dO o1 e).1;simp only[ne_eq,af];omega)};exact fD (fD HBr.out o2 (fun g e=>by have:=Pn g e;omega)) gs (fun g e=>by cases e;exact bI _));case measure=>simp[intOf];omega
   · have hke:k=ga:=by omega
     subst hke
     have gI:¬(k:Int)<(k:Int):=by omega
     have HX:=ae (ak (HKK.out.1.kept hBr) (HKK.out.2.1.trans (FX.below (c:=c) (v:=v) (vg:=vg) hBr)))
     have HBr:=ae hBr
     have HOl:=ae Pm
     have HAr:=ae hAr
     have a0:=hAr.cell (j:=0) rfl
     have a1:=hAr.cell (j:=1) rfl
     have a2:=hAr.cell (j:=2) rfl
     have a3:=hAr.cell (j:=3) rfl
     have a4:=hAr.cell (j:=4) rfl
     have q1:=hAr.frozen 1
     have hKs:=HKK.out.1.Kj
     have ahS:∀g,vg.ownBlock=some g->g<W3.heap.size:=fun g e=>(dO hKs e).2
     have hB3:c.B+1<=W3.heap.size:=HKK.out.1.sz
     have hWW:=HKK.out.2.1.size
     clear hol Pm hAr hBr hG9 hKs
     rcases Mt with rfl|rfl
     · have hadd:=aW c W0 wr v vg out (fun g=>P g\/W.heap.size<=g) hW (HX.out.1.jG (fun g h=> .inl h)) ⟨7,wd0+20,0,0,qn,Lw.kR tt k k⟩ la k lc (by
        show World.ownsRow _ _ _ _ _ _ _
        rw[hll]
        refine⟨HOl.out.1,?_⟩
        rcases HOl.out.2 with h'|⟨g',cap',cur,h',hb,r⟩
        · exact .inl h'
        · exact .inr ⟨g',cap',cur,h',by omega,r⟩) (fun g e=>⟨fun e2=>by have:=Pn g e;have:=ahS g e2;omega, .inr (by have:=Pn g e;omega)⟩) (-1) (by omega)
       go_wp2_with fail
       refine hadd.mono ?_
       rintro e X1⟨v1,mJ,rfl,K1,F1⟩
       dsimp only
       have G1:=HX.out.2.trans F1
       clear hadd a0 a1 a2 a3 a4 a5 g0 g2
       go_wp2
       (try simp only[Exit.inBlock,Exit.then])
       refine fG (fE rfl _ _ _) rfl ⟨v1,mJ,rfl,?_,G1⟩
       rw[HST.out,HAR.out]
       exact K1
     · have gs:=aC wr ⟨W3.heap.size,1,none⟩ (.int .i64 (tt-(k:Int)+1))
       have hAs:=HAr.out.set 1 (.int .i64 (tt-(k:Int)+1))
       have hBs:=fD HBr.out gs (fun g e=>by cases e;exact bI _)
       have hos:=eQ HOl.out gs (fun g e=>by have:=(dO HOl.out e).1;simp only[ne_eq,af];omega)
       obtain⟨ws,hws⟩:=aF (wr.setCell ⟨W3.heap.size,1,none⟩ (.int .i64 (tt-(k:Int)+1)))
       rw[hws]at hAs hBs hos
       have b0:=hAs.cell (j:=0) rfl
       have b1:=hAs.cell (j:=1) rfl
       have b2:=hAs.cell (j:=2) rfl
       have b3:=hAs.cell (j:=3) rfl
       have b4:=hAs.cell (j:=4) rfl
       have b5:=hAs.cell (j:=5) rfl
       have hKx:=HKK.out.1.kept hBs
       have BA:=HKK.out.2.1.trans (FX.below (c:=c) (v:=v) (vg:=vg) hBs)
       have hadd:=aW c W0 ws v vg out (fun g=>P g\/W.heap.size<=g) hW (hKx.jG (fun g h=> .inl h)) ⟨7,tt-(k:Int)+1,0,0,qn,Lw.kR tt k k⟩ la k lc (by
        show World.ownsRow _ _ _ _ _ _ _
        rw[hll]
        refine⟨hos.1,?_⟩
        rcases hos.2 with h'|⟨g',cap',cur,h',hb,r⟩
        · exact .inl h'
        · exact .inr ⟨g',cap',cur,h',by omega,r⟩) (fun g e=>⟨fun e2=>by have:=Pn g e;have:=ahS g e2;omega, .inr (by have:=Pn g e;omega)⟩) (-1) (by omega)
       go_wp2_with fail
       refine hadd.mono ?_
       rintro e X1⟨v1,mJ,rfl,K1,F1⟩
       dsimp only
       have G1:=BA.trans F1
       clear hadd a0 a1 a2 a3 a4 a5 g0 g2 b0 b1 b2 b3 b4 b5 hws
       go_wp2
       (try simp only[Exit.inBlock,Exit.then])
       refine fG (fE rfl _ _ _) rfl ⟨v1,mJ,rfl,?_,G1⟩
       rw[HST.out,HAR.out]
       exact K1
theorem DU{c:LX}{out:List (Ln×Int)}(T:TX c W0)(K:MK c W0 W v vg out P)(fa:Option Addr)(fl fc:Nat)(d:ByteArray)(oa:Option Addr)(oc:Nat)(hF:FL W0 fa fl c.fs)(hO:IL W0 oa c.f.b.length c.O)(at':Nat)(hat:at'<c.f.b.length)(hr:0<=c.H.getD at' 0)(hlen:out.length<=900):Calls Tryz.prog 63 #[.pointer (some ⟨c.B,0,none⟩), .agg #[.slice fa fl fc, .string d], .slice oa c.f.b.length oc, .int .i64 at'] W fun e w'=>∃v' qJ,e= .returned (.tuple #[])/\MK c W0 w' v' qJ (out++Lw.step c.fs c.f c.E c.O c.H at') (fun g=>P g\/W.heap.size<=g)/\FX c v vg v' qJ W w':=by have hok:St.ok (aM.op c.f.b at') (Hg.arg c.f.b at')=true:=St.bg T.all hat;simp only[St.ok,au,Wd.aZ]at hok;obtain⟨p,hp⟩:=aF (aM.op c.f.b at');rw[hp]at hok;have h3:(p=7\/p=8\/p=9\/p=12\/p=20\/p=1\/p=2\/p=3\/p=4\/p=5\/p=6\/p=17\/p=18\/p=19)\/(p=10\/p=11\/p=13\/p=15\/p=14)\/p=16:=by{omega};rcases h3 with h|h|h;{exact af6 T K fa fl fc d oa oc hF hO at' hat hr hlen p hp h};{exact agt T K fa fl fc d oa oc hF hO at' hat hr hlen p hp h};exact agT T K fa fl fc d oa oc hF hO at' hat hr hlen p hp h
namespace Lw
open Hg (arg)
theorem nR{fs:List Fn}{f:Fn}(hA:Hg.Acc fs f E O H)(hn:n<f.b.length)(dp:Int):0<=(fM f E H n dp).1/\(fM f E H n dp).1<f.b.length:=by by_cases hlt:dp.toNat<(aM.dK f.b E n n).length;{obtain⟨t,et,htl,hEt,-⟩:=aM.Dx hA.Mq rfl hlt;rw[tu hlt (t:=t) et];have f3:=hA.Mq.f3 t (by omega) (by omega);split;{exact⟨by simp only;omega,by simp only;omega⟩};split;{exact⟨by simp only;omega,by simp only;omega⟩};exact⟨by simp only;omega,by simp only;omega⟩};rw[vL hlt];have:=hA.pos;exact⟨by simp only;omega,by simp only;omega⟩
theorem Cm{fs:List Fn}{f:Fn}(hA:Hg.Acc fs f E O H)(hn:n<f.b.length)(hr:0<=H.getD n 0):∀x∈step fs f E O H n,-1<=x.2/\x.2<f.b.length:=by have hty:=hA.typ n hn hr;have hpos:=hA.pos;have one:∀(l:Ln)(x:Ln×Int),x∈[(l,(-1:Int))]->-1<=x.2/\x.2<f.b.length:=fun l x hx=>by{rw[sU]at hx;rw[hx];exact⟨Int.le_refl _,by simp only;omega⟩};intro x hx;unfold step vo at hx;obtain⟨p,hp⟩:=aF (aM.op f.b n);rw[hp]at hx;by_cases h1:p=1;{rw[az h1]at hx;exact one _ x hx};rw[ax h1]at hx;by_cases h2:p=2;{rw[az h2]at hx;exact one _ x hx};rw[ax h2]at hx;by_cases h3:p=3\/p=4;{rw[az h3]at hx;exact one _ x hx};rw[ax h3]at hx;by_cases h5:p=5;{rw[az h5]at hx;exact one _ x hx};rw[ax h5]at hx;by_cases h6:p=6;{rw[az h6]at hx;exact one _ x hx};rw[ax h6]at hx;by_cases h10:p=10;{rw[az h10]at hx;have hi:=hty.iff (by rw[hp];exact h10);rcases List.mem_cons.1 hx with rfl|hx;{exact⟨Int.le_refl _,by simp only;omega⟩};rw[sU]at hx;rw[hx];simp only;split;{rcases hi with⟨-,a,-⟩|⟨a,-⟩;{omega};omega};rcases hi with⟨a,-⟩|⟨-,a,b,-⟩;{omega};omega};rw[ax h10]at hx;by_cases h11:p=11;{rw[az h11]at hx;have hi:=hty.Oa (by rw[hp];exact h11);rw[sU]at hx;rw[hx];simp only;omega};rw[ax h11]at hx;by_cases Az:p=13\/p=15;{rw[az Az]at hx;have hg:=nR hA hn (if p=15 then 99 else arg f.b n);generalize fM f E H n (if p=15 then 99 else arg f.b n)=L at hx hg;simp only[List.mem_append,sU]at hx;rcases hx with hx|hx;{by_cases hc:L.2.2=1/\L.2.1≠bx f (H.getD n 0-1);{rw[az hc]at hx;exact one _ x hx};rw[ax hc]at hx;cases hx};rw[hx];simp only;omega};rw[ax Az]at hx;by_cases Bz:p=14;{rw[az Bz]at hx;have hg:=nR hA hn (arg f.b n);have hnx:=hty.next (by omega) (by omega) (by omega) (by omega) (by omega);generalize fM f E H n (arg f.b n)=L at hx hg;simp only at hx;by_cases hc:L.2.2=1/\L.2.1≠bx f (H.getD n 0-1)-1;{rw[az hc]at hx;rcases List.mem_cons.1 hx with rfl|hx;{exact⟨Int.le_refl _,by simp only;omega⟩};rcases List.mem_cons.1 hx with rfl|hx;{exact⟨by simp only;omega,by simp only;omega⟩};rcases List.mem_cons.1 hx with rfl|hx;{exact⟨Int.le_refl _,by simp only;omega⟩};rw[sU]at hx;rw[hx];simp only;omega};rw[ax hc,sU]at hx;rw[hx];simp only;omega};rw[ax Bz]at hx;by_cases h16:p=16;{rw[az h16]at hx;exact one _ x hx};rw[ax h16]at hx;by_cases Ea:p=17;{rw[az Ea]at hx;exact one _ x hx};rw[ax Ea]at hx;by_cases h18:p=18;{rw[az h18]at hx;exact one _ x hx};rw[ax h18]at hx;by_cases h19:p=19;{rw[az h19]at hx;exact one _ x hx};rw[ax h19]at hx;cases hx
theorem BO {fs:List Fn}{f:Fn}{E O H:List Int}(hA:Hg.Acc fs f E O H):∀n,n<=f.b.length->∀x∈(dS fs f E O H n).1,-1<=x.2/\x.2<f.b.length
 | 0,_,x,hx=>by
   unfold dS first at hx
   simp only[List.mem_map]at hx
   obtain⟨i,-,rfl⟩:=hx
   have:=hA.pos
   exact⟨Int.le_refl _,by simp only;omega⟩
 | n +1,hn,x,hx=>by
   unfold dS at hx
   simp only[List.mem_append]at hx
   rcases hx with hx|hx
   · exact BO hA n (by omega) x hx
   · split at hx
     · exact Cm hA (by omega) (by assumption) x hx
     · cases hx
theorem H6{fs:List Fn}{f:Fn}(hA:Hg.Acc fs f E O H):∀x∈raw fs f E O H,-1<=x.2/\x.2<f.b.length:=fun x hx=>by
 unfold raw at hx
 rcases List.mem_append.1 hx with hx|hx
 · exact BO hA _ (bI _) x hx
 · have:=hA.pos
   unfold last at hx
   split at hx
   · rcases List.mem_cons.1 hx with rfl|hx
     · exact⟨Int.le_refl _,by simp only;omega⟩
     · rw[sU]at hx
       rw[hx]
       exact⟨Int.le_refl _,by simp only;omega⟩
   · rw[sU]at hx
     rw[hx]
     exact⟨Int.le_refl _,by simp only;omega⟩
end Lw
theorem wJ:∀(xs:List Lv)(k:Nat)(y:Int),k<xs.length->fJ (xs.set k ((xs.getD k jr).1,(xs.getD k jr).2.1,(xs.getD k jr).2.2.1,(xs.getD k jr).2.2.2.1,y,(xs.getD k jr).2.2.2.2.2))=(fJ xs).set (k*6+4) (.int .i64 y)
 |[],k,y,h=>by simp at h
 |x::xs,0,y,h=>rfl
 | x::xs,k+1,y,h=>by
   have ih:=wJ xs k y (by simpa using h)
   have e:(x::xs).getD (k+1) jr=xs.getD k jr:=rfl
   rw[e,List.set_cons_succ,kr,ih,kr,show(k+1)*6+4=k*6+4+1+1+1+1+1+1 by omega]
   simp only[List.set_cons_succ]
namespace Lw
open Hg (arg)
structure kg (fs:List Fn)(f:Fn)(x:Ln×Int):Prop where
 ok:∀N:Int,0<=N->N<=299->Ln.ok (if 0<=x.2 then{x.1 with n:=N}else x.1)=true
 lu:x.1.k=5\/x.1.k=6->0<=x.2
 st:Ln.st x.1<=wd f+20
 us:∀y∈Ln.us x.1,y<=wd f+20
 call:x.1.k=7->x.2<0/\0<=x.1.n/\x.1.n<fs.length/\(x.1.l.length:Int)=(fs.getD x.1.n.toNat .z).a
theorem mU{m:Int}(h0:0<=b)(h1:b<=m)(hm:m<=39):Ln.bx b=true:=Ln.fq.2 ⟨h0,by omega⟩
variable {fs : List Fn} {f : Fn}
theorem Sc (hw:0<=wd f/\wd f<=6){d n:Int}(hd:0<=d/\d<=wd f+20)(hn:Wd.ok n=true):kg fs f (⟨1,d,0,0,n,[]⟩,-1):=by refine⟨fun N h0 h1=>?_,fun h=>by simp at h,by simp[Ln.st];omega,fun y hy=>by simp[Ln.us,Ln.kZ]at hy,fun h=>by simp at h⟩;rw[ax (by show¬(0:Int)<=-1;omega)];simp[Ln.ok,Ln.asks,Ln.q0,mU hd.1 hd.2 (by omega),hn]
theorem qO(hw:0<=wd f/\wd f<=6){k d:Int}(hk:k=2\/k=4)(hd:0<=d/\d<=wd f+20)(ha:0<=a/\a<=wd f+20):kg fs f (⟨k,d,a,0,0,[]⟩,-1):=by refine⟨fun N h0 h1=>?_,fun h=>by simp at h;omega,?_,fun y hy=>?_,fun h=>by simp at h;omega⟩;{rw[ax (by show¬(0:Int)<=-1;omega)];rcases hk with rfl|rfl<;>simp[Ln.ok,Ln.asks,Ln.q0,mU hd.1 hd.2 (by omega),mU ha.1 ha.2 (by omega)]};{rcases hk with rfl|rfl<;>simp[Ln.st]<;>omega};rcases hk with rfl|rfl<;>simp[Ln.us]at hy<;>omega
theorem agd(hw:0<=wd f/\wd f<=6){d n:Int}(hd:0<=d/\d<=wd f+20)(ha:0<=a/\a<=wd f+20)(hb:0<=b/\b<=wd f+20)(hn:1<=n/\n<=12):kg fs f (⟨3,d,a,b,n,[]⟩,-1):=by refine⟨fun N h0 h1=>?_,fun h=>by simp at h,by simp[Ln.st];omega,fun y hy=>?_,fun h=>by simp at h⟩;{rw[ax (by show¬(0:Int)<=-1;omega)];simp[Ln.ok,Ln.asks,mU hd.1 hd.2 (by omega),mU ha.1 ha.2 (by omega),mU hb.1 hb.2 (by omega),Wd.mr hn.1 hn.2]};have:y∈Ln.put [a] b:=by{simpa[Ln.us]using hy};rcases Ln.sw this with rfl|h;{omega};simp at h;omega
theorem Rc (hw:0<=wd f/\wd f<=6){t:Int}(ht:0<=t):kg fs f (⟨5,0,0,0,0,[]⟩,t):=by refine⟨fun N h0 h1=>?_,fun _=>ht,by simp[Ln.st];omega,fun y hy=>by simp[Ln.us,Ln.kZ]at hy,fun h=>by simp at h⟩;rw[az ht];simp[Ln.ok,Ln.asks,Ln.q0,Wd.mr h0 h1]
theorem R7(hw:0<=wd f/\wd f<=6){t:Int}(ha:0<=a/\a<=wd f+20)(ht:0<=t):kg fs f (⟨6,0,a,0,0,[]⟩,t):=by refine⟨fun N h0 h1=>?_,fun _=>ht,by simp[Ln.st];omega,fun y hy=>by simp[Ln.us]at hy;omega,fun h=>by simp at h⟩;rw[az ht];simp[Ln.ok,Ln.asks,Ln.q0,Wd.mr h0 h1,mU ha.1 ha.2 (by omega)]
theorem afU(hw:0<=wd f/\wd f<=6){d n:Int}(hd:0<=d/\d<=wd f+20)(hn:0<=n/\n<=3/\n<fs.length)(hl:∀y∈l,0<=y/\y<=wd f+20)(hl3:l.length<=3)(ha:(l.length:Int)=(fs.getD n.toNat .z).a):kg fs f (⟨7,d,0,0,n,l⟩,-1):=by refine⟨fun N h0 h1=>?_,fun h=>by simp at h,by simp[Ln.st];omega,fun y hy=>?_,fun h=>⟨by simp,hn.1,hn.2.2,ha⟩⟩;{rw[ax (by show¬(0:Int)<=-1;omega)];have:∀y∈l,Ln.bx y=true:=fun y hy=>mU (hl y hy).1 (hl y hy).2 (by omega);simp[Ln.ok,Ln.asks,Ln.q0,mU hd.1 hd.2 (by omega),Wd.mr hn.1 hn.2.1,hl3];exact this};have:y∈Ln.kZ l:=by{simpa[Ln.us]using hy};rcases Ln.IV l [] this with h|h;{exact(hl y h).2};cases h
theorem afG(hw:0<=wd f/\wd f<=6){d n:Int}(hd:0<=d/\d<=wd f+20)(ha:0<=a/\a<=wd f+20)(hn:0<=n/\n<=255):kg fs f (⟨8,d,a,0,n,[]⟩,-1):=by refine⟨fun N h0 h1=>?_,fun h=>by simp at h,by simp[Ln.st];omega,fun y hy=>by simp[Ln.us]at hy;omega,fun h=>by simp at h⟩;rw[ax (by show¬(0:Int)<=-1;omega)];simp[Ln.ok,Ln.asks,Ln.q0,mU hd.1 hd.2 (by omega),mU ha.1 ha.2 (by omega),Wd.mr hn.1 hn.2]
theorem af7(hw:0<=wd f/\wd f<=6){n:Int}(ha:0<=a/\a<=wd f+20)(hb:0<=b/\b<=wd f+20)(hn:0<=n/\n<=255):kg fs f (⟨9,0,a,b,n,[]⟩,-1):=by refine⟨fun N h0 h1=>?_,fun h=>by simp at h,by simp[Ln.st];omega,fun y hy=>?_,fun h=>by simp at h⟩;{rw[ax (by show¬(0:Int)<=-1;omega)];simp[Ln.ok,Ln.asks,Ln.q0,mU ha.1 ha.2 (by omega),mU hb.1 hb.2 (by omega),Wd.mr hn.1 hn.2]};have:y∈Ln.put [a] b:=by{simpa[Ln.us]using hy};rcases Ln.sw this with rfl|h;{omega};simp at h;omega
theorem QX(hw:0<=wd f/\wd f<=6)(ha:0<=a/\a<=wd f+20):kg fs f (⟨10,0,a,0,0,[]⟩,-1):=by refine⟨fun N h0 h1=>?_,fun h=>by simp at h,by simp[Ln.st];omega,fun y hy=>by simp[Ln.us]at hy;omega,fun h=>by simp at h⟩;rw[ax (by show¬(0:Int)<=-1;omega)];simp[Ln.ok,Ln.asks,Ln.q0,mU ha.1 ha.2 (by omega)]
theorem abF (hw:0<=wd f/\wd f<=6):kg fs f (⟨11,0,0,0,0,[]⟩,-1):=by refine⟨fun N h0 h1=>?_,fun h=>by simp at h,by simp[Ln.st];omega,fun y hy=>by simp[Ln.us,Ln.kZ]at hy,fun h=>by simp at h⟩;rw[ax (by show¬(0:Int)<=-1;omega)];simp[Ln.ok,Ln.asks,Ln.q0]
theorem pu (xs:List (Int×Int))(E:List Int)(n:Nat):∀k,(aM.dK xs E n k).length<=k
 |0=>by simp[aM.dK]
 | k+1=>by
   rw[aM.tL]
   have:=pu xs E n k
   split
   · simp only[oK];omega
   · omega
theorem IE(hA:Hg.Acc fs f E O H)(hf:f.g=0\/f.g=1)(hJ:Hg.jL f E H n h a)(h1:(fM f E H n a).2.2=1):wd f<=(fM f E H n a).2.1/\(fM f E H n a).2.1<=wd f+20/\1<=h:=by by_cases hlt:a.toNat<(aM.dK f.b E n n).length;{obtain⟨t,et,htn,hop,hH0,hst,hle,hae,-⟩:=hJ.1 hlt;rw[tu hlt (t:=t) et]at h1 ⊢;have htl:t<f.b.length:=by{rcases Nat.lt_or_ge t f.b.length with h|h;{exact h};exfalso;have:H.getD t 0=0:=by{rw[ah,List.getElem?_eq_none (by rw[hA.lH];omega)];rfl};have he:aM.op f.b t=0:=by{unfold aM.op;rw[ah,List.getElem?_eq_none (by omega)];rfl};rw[he]at hop;simp[St.opens]at hop};have htop:=hA.dU t htl;unfold Hg.kP at hst hle;rw[az hH0]at hst hle;unfold bx;by_cases h9:aM.op f.b t=9;{rw[az h9]at h1;simp at h1};rw[ax h9]at h1 ⊢;by_cases h10:aM.op f.b t=10;{rw[az h10]at h1 ⊢ hst hle;simp only at h1 ⊢;omega};rw[ax h10]at h1 ⊢ hst hle;simp only at h1 ⊢;omega};have:=hJ.2 hlt;rw[vL hlt]at h1 ⊢;simp only[bx]at h1 ⊢;omega
theorem eZ(hA:Hg.Acc fs f E O H)(hf:0<=f.a/\f.a<=3/\0<=f.l/\f.l<=3/\(f.g=0\/f.g=1)/\f.b.length<=80)(hfs:∀k,k<fs.length->0<=(fs.getD k .z).a/\(fs.getD k .z).a<=3)(hst:St.dh f.b=true)(hn:n<f.b.length)(hr:0<=H.getD n 0):∀x∈step fs f E O H n,kg fs f x:=by have hty:=hA.typ n hn hr;have Nu:=Cm hA hn hr;have htop:=hA.dU n hn;have hw:0<=wd f/\wd f<=6:=by{unfold wd;omega};have hok:St.ok (aM.op f.b n) (arg f.b n)=true:=St.bg hst hn;have htake:=hty.take;obtain⟨p,hp⟩:=aF (aM.op f.b n);have ebx:bx f (H.getD n 0-1)=wd f+(H.getD n 0-1):=rfl;intro x hx;have hgx:=Nu x hx;unfold step vo at hx;rw[hp]at hx hok htake;rw[ebx]at hx;simp only[St.ok,au,Wd.aZ]at hok;have hag:St.least p<=arg f.b n:=hok.2.1;have hal:arg f.b n<=St.di p:=hok.2.2;by_cases h1:p=1;{subst h1;rw[az rfl,sU]at hx;rw[hx];have e1:St.least 1=0:=by{decide};have e2:St.di 1=4294967295:=by{decide};rw[e1]at hag;rw[e2]at hal;exact Sc hw (by omega) (Wd.mr hag hal)};rw[ax h1]at hx;by_cases h2:p=2;{subst h2;have:=hty.loc (.inl hp);have e1:St.least 2=0:=by{decide};rw[az rfl,sU]at hx;rw[hx];exact qO hw (.inl rfl) (by omega) (by unfold wd;omega)};rw[ax h2]at hx;by_cases h3:p=3\/p=4;{have:=hty.loc (.inr (by rw[hp];exact h3));have e1:St.least p=0:=by{unfold St.least;rw[ax (by omega)]};have e2:Hg.tk fs p (arg f.b n)=1:=by{unfold Hg.tk;rcases h3 with rfl|rfl;{rfl};rfl};rw[az h3,sU]at hx;rw[hx];exact qO hw (.inl rfl) (by unfold wd;omega) (by omega)};rw[ax h3]at hx;by_cases h5:p=5;{subst h5;have e1:St.least 5=1:=by{decide};have e2:St.di 5=12:=by{decide};have e3:Hg.tk fs 5 (arg f.b n)=2:=rfl;rw[az rfl,sU]at hx;rw[hx];exact agd hw (by omega) (by omega) (by omega) (by omega)};rw[ax h5]at hx;by_cases h6:p=6;{subst h6;have e3:Hg.tk fs 6 (arg f.b n)=1:=rfl;rw[az rfl,sU]at hx;rw[hx];exact qO hw (.inr rfl) (by omega) (by omega)};rw[ax h6]at hx;by_cases h10:p=10;{subst h10;have e3:Hg.tk fs 10 (arg f.b n)=1:=rfl;rw[az rfl]at hx;have hi:=hty.iff hp;rcases List.mem_cons.1 hx with rfl|hx;{exact qO hw (.inr rfl) (by omega) (by omega)};rw[sU]at hx;rw[hx];refine R7 hw (by omega) ?_;split;{omega};rcases hi with⟨a,-⟩|⟨-,a,b,-⟩;{omega};omega};rw[ax h10]at hx;by_cases h11:p=11;{subst h11;rw[az rfl]at hx;have hi:=hty.Oa hp;rw[sU]at hx;rw[hx];exact Rc hw hi.1};rw[ax h11]at hx;by_cases Az:p=13\/p=15;{rw[az Az]at hx;have hg:=nR hA hn (if p=15 then 99 else arg f.b n);have hJ:Hg.jL f E H n (H.getD n 0) (if p=15 then 99 else arg f.b n):=by{by_cases uR:p=15;{rw[az uR];have hlen:=pu f.b E n n;exact⟨fun h=>by exfalso;simp at h;omega,fun _=>hty.ret (by rw[hp];exact uR)⟩};rw[ax uR];exact hty.jump (by rw[hp];omega)};have hlf:=IE hA hf.2.2.2.2.1 hJ;generalize fM f E H n (if p=15 then 99 else arg f.b n)=L at hx hg hlf;simp only[List.mem_append,sU]at hx;rcases hx with hx|hx;{by_cases hc:L.2.2=1/\L.2.1≠wd f+(H.getD n 0-1);{rw[az hc,sU]at hx;have:=hlf hc.1;rw[hx];exact qO hw (.inl rfl) (by omega) (by omega)};rw[ax hc]at hx;cases hx};rw[hx];exact Rc hw hg.1};rw[ax Az]at hx;by_cases Bz:p=14;{subst Bz;have e3:Hg.tk fs 14 (arg f.b n)=1:=rfl;rw[az rfl]at hx;have hg:=nR hA hn (arg f.b n);have hlf:=IE hA hf.2.2.2.2.1 (hty.jif hp);generalize fM f E H n (arg f.b n)=L at hx hg hlf;simp only at hx;by_cases hc:L.2.2=1/\L.2.1≠wd f+(H.getD n 0-1)-1;{rw[az hc]at hx;have hl2:=hlf hc.1;rcases List.mem_cons.1 hx with rfl|hx;{exact qO hw (.inr rfl) (by omega) (by omega)};rcases List.mem_cons.1 hx with rfl|hx;{exact R7 hw (by omega) (by omega)};rcases List.mem_cons.1 hx with rfl|hx;{exact qO hw (.inl rfl) (by omega) (by omega)};rw[sU]at hx;rw[hx];exact Rc hw hg.1};rw[ax hc,sU]at hx;rw[hx];exact R7 hw (by omega) hg.1};rw[ax Bz]at hx;by_cases h16:p=16;{subst h16;have e1:St.least 16=0:=by{decide};have e2:St.di 16=3:=by{decide};have e3:Hg.tk fs 16 (arg f.b n)=(fs.getD (arg f.b n).toNat .z).a:=rfl;have hc:=hty.call hp;have ha:=hfs (arg f.b n).toNat (by omega);rw[az rfl,sU]at hx;rw[hx];have hle:((args (wd f+(H.getD n 0-1)) (fs.getD (arg f.b n).toNat .z).a).length:Int)=(fs.getD (arg f.b n).toNat .z).a:=by{unfold args;simp only[iG,List.length_range];omega};refine afU hw ?_ (by omega) ?_ (by omega) hle;{split<;>omega};intro y hy;unfold args at hy;simp only[List.mem_map,List.mem_range]at hy;obtain⟨i,hi,rfl⟩:=hy;omega};rw[ax h16]at hx;by_cases Ea:p=17;{subst Ea;have e1:St.least 17=0:=by{decide};have e2:St.di 17=255:=by{decide};have e3:Hg.tk fs 17 (arg f.b n)=1:=rfl;rw[az rfl,sU]at hx;rw[hx];exact afG hw (by omega) (by omega) (by omega)};rw[ax Ea]at hx;by_cases h18:p=18;{subst h18;have e1:St.least 18=0:=by{decide};have e2:St.di 18=255:=by{decide};have e3:Hg.tk fs 18 (arg f.b n)=2:=rfl;rw[az rfl,sU]at hx;rw[hx];exact af7 hw (by omega) (by omega) (by omega)};rw[ax h18]at hx;by_cases h19:p=19;{rw[az h19,sU]at hx;rw[hx];exact abF hw};rw[ax h19]at hx;cases hx
theorem BJ {E O H:List Int}(hA:Hg.Acc fs f E O H)(hf:0<=f.a/\f.a<=3/\0<=f.l/\f.l<=3/\(f.g=0\/f.g=1)/\f.b.length<=80)(hfs:∀k,k<fs.length->0<=(fs.getD k .z).a/\(fs.getD k .z).a<=3)(hst:St.dh f.b=true):∀n,n<=f.b.length->∀x∈(dS fs f E O H n).1,kg fs f x
 | 0,_,x,hx=>by
   unfold dS first at hx
   simp only[List.mem_map,List.mem_range]at hx
   obtain⟨i,hi,rfl⟩:=hx
   exact Sc (by unfold wd;omega) (by unfold wd;omega) (by decide)
 | n +1,hn,x,hx=>by
   unfold dS at hx
   simp only[List.mem_append]at hx
   rcases hx with hx|hx
   · exact BJ hA hf hfs hst n (by omega) x hx
   · split at hx
     · exact eZ hA hf hfs hst (by omega) (by assumption) x hx
     · cases hx
theorem Qs(hA:Hg.Acc fs f E O H)(hf:0<=f.a/\f.a<=3/\0<=f.l/\f.l<=3/\(f.g=0\/f.g=1)/\f.b.length<=80)(hfs:∀k,k<fs.length->0<=(fs.getD k .z).a/\(fs.getD k .z).a<=3)(hst:St.dh f.b=true):∀x∈raw fs f E O H,kg fs f x:=fun x hx=>by
 unfold raw at hx
 have hw:0<=wd f/\wd f<=6:=by unfold wd;omega
 rcases List.mem_append.1 hx with hx|hx
 · exact BJ hA hf hfs hst _ (bI _) x hx
 · unfold last at hx
   split at hx
   · rcases List.mem_cons.1 hx with rfl|hx
     · exact Sc hw (by omega) (by decide)
     · rw[sU]at hx
       rw[hx]
       exact QX hw (by omega)
   · rw[sU]at hx
     rw[hx]
     exact QX hw (by omega)
theorem uI (fs:List Fn)(f:Fn)(E O H:List Int):∀n j,j<n->0<=(dS fs f E O H n).2.getD j 0/\(dS fs f E O H n).2.getD j 0<=((dS fs f E O H n).1.length:Int)
 |0,j,h=>by omega
 | n +1,j,h=>by
   have hl:=(nL fs f E O H n).2
   unfold dS
   simp only[jy]
   by_cases e:j=n
   · subst e
     rw[ah,qM (by omega),hl,Nat.sub_self]
     simp only[List.getElem?_cons_zero,Option.getD_some]
     omega
   · have ih:=uI fs f E O H n j (by omega)
     rw[ah,uJ (by omega),←ah]
     omega
theorem DC (fs:List Fn)(f:Fn)(E O H:List Int):(dS fs f E O H f.b.length).1.length<(raw fs f E O H).length/\(raw fs f E O H).length<=f.l.toNat+4*f.b.length+2:=by have h:=(nL fs f E O H f.b.length).1;unfold raw last;rw[jy];split;{simp only[oK,List.length_nil];omega};simp only[oK,List.length_nil];omega
theorem Ou(fs:List Fn)(f:Fn)(E O H:List Int)(h:j<f.b.length):0<=(dL fs f E O H).getD j 0/\(dL fs f E O H).getD j 0<((raw fs f E O H).length:Int):=by have h1:=uI fs f E O H f.b.length j h;have h2:=(DC fs f E O H).1;unfold dL;omega
theorem RB{fs:List Fn}{f:Fn}(h3:(raw fs f E O H).length<=300){x:Ln×Int}(hF:kg fs f x)(hg:-1<=x.2/\x.2<f.b.length):Ln.jY (raw fs f E O H).length (qi (dL fs f E O H) x)=true/\Ln.st (qi (dL fs f E O H) x)<=wd f+20/\(∀y∈Ln.us (qi (dL fs f E O H) x),y<=wd f+20)/\((qi (dL fs f E O H) x).k=7->0<=(qi (dL fs f E O H) x).n/\(qi (dL fs f E O H) x).n<fs.length/\((qi (dL fs f E O H) x).l.length:Int)=(fs.getD (qi (dL fs f E O H) x).n.toNat .z).a)/\(qi (dL fs f E O H) x).k=x.1.k:=by unfold qi;by_cases h0:0<=x.2;{have hs:=Ou fs f E O H (j:=x.2.toNat) (by omega);have ho:=hF.ok ((dL fs f E O H).getD x.2.toNat 0) hs.1 (by omega);rw[az h0]at ho ⊢;refine⟨?_,hF.st,hF.us,fun h=>by have:=(hF.call h).1;omega,rfl⟩;unfold Ln.jY;rw[ho];have hs2:=hs;rw[ah]at hs2;simp;omega};have ho:=hF.ok 0 (by omega) (by omega);rw[ax h0]at ho ⊢;refine⟨?_,hF.st,hF.us,fun h=>(hF.call h).2,rfl⟩;unfold Ln.jY;rw[ho];have:=hF.lu;simp;omega
theorem Om(hA:Hg.Acc fs f E O H)(hf:0<=f.a/\f.a<=3/\0<=f.l/\f.l<=3/\(f.g=0\/f.g=1)/\f.b.length<=80)(hfs:∀k,k<fs.length->0<=(fs.getD k .z).a/\(fs.getD k .z).a<=3)(hst:St.dh f.b=true):(f.b.length<=50->func fs f E O H≠[])/\(func fs f E O H≠[]->Ln.isOk (func fs f E O H)=true/\((func fs f E O H).getD ((func fs f E O H).length-1) .z).k=10/\Ln.boxes (func fs f E O H)<=wd f+21/\∀y∈func fs f E O H,y.k=7->0<=y.n/\y.n<fs.length/\(y.l.length:Int)=(fs.getD y.n.toNat .z).a):=by
 have hrl:=DC fs f E O H
 have hne:raw fs f E O H≠[]:=fun e=>by rw[e]at hrl;simp at hrl
 refine⟨fun h5=>?_,fun h=>?_⟩
 · unfold func;rw[az (by omega)];intro e;exact hne (by simpa using e)
 · have h3:(raw fs f E O H).length<=300:=by rcases Nat.lt_or_ge 300 (raw fs f E O H).length with h'|h';{exfalso;apply h;unfold func;rw[ax (by omega)]};exact h'
   have e:func fs f E O H=(raw fs f E O H).map (qi (dL fs f E O H)):=by unfold func;rw[az h3]
   rw[e]
   have hall:∀y∈(raw fs f E O H).map (qi (dL fs f E O H)),Ln.jY (raw fs f E O H).length y=true/\Ln.st y<=wd f+20/\(∀z∈Ln.us y,z<=wd f+20)/\(y.k=7->0<=y.n/\y.n<fs.length/\(y.l.length:Int)=(fs.getD y.n.toNat .z).a):=fun y hy=>by obtain⟨x,hx,rfl⟩:=List.mem_map.1 hy;have:=RB h3 (Qs hA hf hfs hst x hx) (H6 hA x hx);exact⟨this.1,this.2.1,this.2.2.1,this.2.2.2.1⟩
   have hlast:(((raw fs f E O H).map (qi (dL fs f E O H))).getD (((raw fs f E O H).map (qi (dL fs f E O H))).length-1) .z).k=10:=by rw[iG,ah,KH];have hl:(raw fs f E O H)[(raw fs f E O H).length-1]?=(last f)[(last f).length-1]?:=by{(have hp:0<(last f).length:=by unfold last;split<;>simp);have e2:(raw fs f E O H).length=(dS fs f E O H f.b.length).1.length+(last f).length:=by{unfold raw;rw[jy]};rw[e2];unfold raw;rw[qM (by omega)];congr 1;omega};rw[hl];unfold last;split;{rfl};rfl
   refine⟨?_,hlast,?_,fun y hy=>(hall y hy).2.2.2⟩
   · unfold Ln.isOk Ln.ni;rw[hlast];simp only[iG,au,mY,rD];exact⟨⟨by omega,h3⟩,fun y hy=>(hall y hy).1,by decide⟩
   · unfold Ln.boxes
     split
     · unfold Ln.M0
       have hmx:∀a b c:Int,a<=c->b<=c->Ln.mx a b<=c:=fun a b c h1 h2=>by unfold Ln.mx;split<;>assumption
       have ahT:∀(l:List Int)(m:Int),m<=wd f+21->(∀z∈l,z<=wd f+20)->l.foldl (fun n y=>Ln.mx n (y+1)) m<=wd f+21:=by
        intro l
        induction l with
        |nil=>intro m hm _;exact hm
        |cons z r ih=>
         intro m hm hz
         exact ih _ (hmx _ _ _ hm (by have:=hz z (by simp);omega)) (fun y hy=>hz y (by simp[hy]))
       have acB:∀(l:List Ln)(m:Int),m<=wd f+21->(∀y∈l,Ln.st y<=wd f+20/\∀z∈Ln.us y,z<=wd f+20)->l.foldl Ln.most m<=wd f+21:=by
        intro l
        induction l with
        |nil=>intro m hm _;exact hm
        |cons z r ih=>
         intro m hm hz
         refine ih _ ?_ (fun y hy=>hz y (by simp[hy]))
         unfold Ln.most
         have:=hz z (by simp)
         exact ahT _ _ (hmx _ _ _ hm (by omega)) this.2
       exact acB _ 0 (by unfold wd;omega) (fun y hy=>⟨(hall y hy).2.1,(hall y hy).2.2.1⟩)
     · unfold wd;omega
end Lw
namespace aM
theorem Q8 {xs:List (Int×Int)}(h:isOk xs=true)(j:Nat):-1<=aI (bC xs) j:=by
 have h2:(all xs).2.2=true:=by rw[isOk,au]at h;exact h.2
 obtain⟨⟨m,hm,h12,hi⟩,-⟩:=Inv.lu (xs:=xs) (Ef:=(all xs).1) (Of:=(all xs).2.1) (xs.length+1) 0 _ _ _ (Inv.first xs) (by
  show all xs=_
  rw[←h2])
 rw[bC,az h]
 exact(hi.low j).2.2
end aM
namespace Hg
end Hg
namespace Lw
theorem Nb (fs:List Fn)(f:Fn)(E O H:List Int):∀n j,j<n->(dS fs f E O H n).2.getD j 0=((dS fs f E O H j).1.length:Int)
 |0,j,h=>by omega
 | n +1,j,h=>by
   have hl:=(nL fs f E O H n).2
   by_cases e:j=n
   · subst e
     show((dS fs f E O H j).2++[((dS fs f E O H j).1.length:Int)]).getD j 0=_
     rw[ah,qM (by omega),hl,Nat.sub_self]
     simp
   · rw[←Nb fs f E O H n j (by omega)]
     show((dS fs f E O H n).2++[((dS fs f E O H n).1.length:Int)]).getD j 0=_
     rw[ah,uJ (by omega),←ah]
theorem NH(fs:List Fn)(f:Fn)(E O H:List Int)(h:j<f.b.length):(dL fs f E O H).getD j 0=((dS fs f E O H j).1.length:Int):=Nb fs f E O H _ j h
theorem su (fs:List Fn)(f:Fn)(E O H:List Int)(n:Nat):(dS fs f E O H (n+1)).1=(dS fs f E O H n).1++(if 0<=H.getD n 0 then step fs f E O H n else[])/\(dS fs f E O H (n+1)).2=(dS fs f E O H n).2++[((dS fs f E O H n).1.length:Int)]:=⟨rfl,rfl⟩
end Lw
namespace Sm
open Mn (Rs words)
open Lw (wd dS raw dL qi func)
open Hg (arg)
def R (cs:List (List Ln))(N d k at':Nat)(B mem:List Int):Rs:=Rl.run cs (N+1) N d k at' B mem
variable {cs : List (List Ln)} {N d k at' : Nat} {B mem : List Int}
theorem QN {a:Nat}{b m:List Int}(h:Rl.aQ cs k at' B mem= .next a b m):R cs (N+1) d k at' B mem=R cs N d k a b m:=Rl.fZ h
theorem Ro {v:Int}(h:Rl.aQ cs k at' B mem= .qN v):R cs (N+1) d k at' B mem= .done v mem N:=Rl.l7 h
theorem acb {c:Int}(h:Rl.aQ cs k at' B mem= .halt c):R cs (N+1) d k at' B mem= .stop c mem N:=Rl.run_halt h
theorem acf{x:Nat}(h:Rl.aQ cs k at' B mem= .call x q args)(hd:12<=d+1):R cs (N+1) d k at' B mem= .stop 6 mem N:=Rl.gz h hd
theorem aby{x l:Nat}{c:Int}{m:List Int}(h:Rl.aQ cs k at' B mem= .call x q args)(hd:¬12<=d+1)(hr:R cs N (d+1) q 0 (Rl.kN args) mem= .stop c m l):R cs (N+1) d k at' B mem= .stop c m l:=Rl.gq h hd hr
theorem abr{x l:Nat}{v:Int}{m:List Int}(h:Rl.aQ cs k at' B mem= .call x q args)(hd:¬12<=d+1)(hr:R cs N (d+1) q 0 (Rl.kN args) mem= .done v m l):R cs (N+1) d k at' B mem=R cs l d k (at'+1) (B.set x v) m:=by have hl:=(Rl.fP (cs:=cs) (N+1) N (d+1) q 0 (Rl.kN args) mem).1;have e:=Rl.gu h hd hr;unfold R at hr ⊢;rw[hr]at hl;simp only[Rs.left]at hl;rw[e];exact Rl.jM _ _ _ _ _ _ _ _ (by omega) (by omega)
def iQ (cs:List (List Ln))(k at':Nat)(B mem:List Int)(u a:Nat)(b m:List Int):Prop:=∀d N,R cs (N+u) d k at' B mem=R cs N d k a b m
theorem iQ.refl (cs:List (List Ln))(k at':Nat)(B mem:List Int):iQ cs k at' B mem 0 at' B mem:=fun _ _=>rfl
theorem iQ.one {a:Nat}{b m:List Int}(h:Rl.aQ cs k at' B mem= .next a b m):iQ cs k at' B mem 1 a b m:=fun _ _=>QN h
theorem iQ.andThen {u v a a':Nat}{b m b' m':List Int}(h:iQ cs k at' B mem u a b m)(h':iQ cs k a b m v a' b' m'):iQ cs k at' B mem (u+v) a' b' m':=fun d N=>by
 rw[show N+(u+v)=N+v+u by omega,h d (N+v),h' d N]
structure Rel (pile loc B:List Int):Prop where
 lB:B.length=40
 lo:∀i,i<loc.length->B.getD i 0=loc.getD i 0
 pi:∀j,j<pile.length->B.getD (loc.length+j) 0=pile.getD j 0
theorem getD_take(h:j<q):(l.take q).getD j 0=l.getD j 0:=by rw[ah,ah,List.getElem?_take,az h]
theorem Og{m:List Int}(h:j<l.length):(l++m).getD j 0=l.getD j 0:=by rw[ah,ah,uJ h]
theorem NU{v:Int}(h:j=l.length):(l++[v]).getD j 0=v:=by rw[ah,qM (by omega),h,Nat.sub_self];rfl
theorem Rel.put(h:Rel pile loc B)(hq:q<=pile.length)(hl:loc.length+q<40)(v:Int):Rel (pile.take q++[v]) loc (B.set (loc.length+q) v):=by have hlt:(pile.take q).length=q:=by{rw[o7];omega};refine⟨by rw[uW];exact h.lB,fun i hi=>?_,fun j hj=>?_⟩;{rw[Mm.iH (by rw[h.lB];omega),ax (by omega)];exact h.lo i hi};rw[jy,hlt,AQ]at hj;rw[Mm.iH (by rw[h.lB];omega)];by_cases e:j=q;{rw[az (by omega),NU (by omega)]};rw[ax (by omega),Og (by omega),getD_take (by omega)];exact h.pi j (by omega)
theorem Rel.take {pile loc:List Int}(h:Rel pile loc B)(q:Nat):Rel (pile.take q) loc B:=⟨h.lB,h.lo,fun j hj=>by
 rw[o7]at hj
 rw[getD_take (by omega)]
 exact h.pi j (by omega)⟩
theorem Rel.Rb(h:Rel pile loc B)(hi:i<loc.length)(hl:loc.length<=40)(v:Int):Rel pile (loc.set i v) (B.set i v):=by refine⟨by rw[uW];exact h.lB,fun j hj=>?_,fun j hj=>?_⟩;{rw[uW]at hj;rw[Mm.iH (by rw[h.lB];omega),Mm.iH hi,h.lo j hj]};rw[uW,Mm.iH (by rw[h.lB];omega),ax (by omega)];exact h.pi j hj
theorem Rel.spare(h:Rel pile loc B)(hi:loc.length+pile.length<=i)(v:Int):Rel pile loc (B.set i v):=by by_cases hb:i<B.length;{refine⟨by rw[uW];exact h.lB,fun j hj=>?_,fun j hj=>?_⟩;{rw[Mm.iH hb,ax (by omega)];exact h.lo j hj};rw[Mm.iH hb,ax (by omega)];exact h.pi j hj};rw[List.set_eq_of_length_le (by omega)];exact h
theorem Rel.dU {pile loc:List Int}(h:Rel pile loc B)(h0:0<pile.length):B.getD (loc.length+(pile.length-1)) 0=Mn.dU pile:=h.pi _ (by omega)
theorem Rel.under {pile loc:List Int}(h:Rel pile loc B)(h0:1<pile.length):B.getD (loc.length+(pile.length-2)) 0=Mn.under pile:=h.pi _ (by omega)
def pos (fs:List Fn)(f:Fn)(E O H:List Int)(j:Nat):Nat:=(dS fs f E O H j).1.length
variable {fs : List Fn} {f : Fn} {E O H : List Int}
theorem wO:∀(n j:Nat),j<=n->∃r,(dS fs f E O H n).1=(dS fs f E O H j).1++r
 |0,j,h=>⟨[],by rw[show j=0 by omega];simp⟩
 | n +1,j,h=>by
   by_cases e:j=n+1
   · exact⟨[],by rw[e];simp⟩
   · obtain⟨r,hr⟩:=wO n j (by omega)
     exact⟨r++(if 0<=H.getD n 0 then Lw.step fs f E O H n else[]),by rw[(Lw.su fs f E O H n).1,hr,oJ]⟩
theorem DD(h3:(raw fs f E O H).length<=300){x:Ln×Int}(h:(raw fs f E O H)[i]?=some x):(func fs f E O H).getD i .z=qi (dL fs f E O H) x:=by unfold func;rw[az h3,ah,KH,h];rfl
theorem Ov(h3:(raw fs f E O H).length<=300)(hj:j<f.b.length)(h0:0<=H.getD j 0){x:Ln×Int}(h:(Lw.step fs f E O H j)[i]?=some x):(func fs f E O H).getD (pos fs f E O H j+i) .z=qi (dL fs f E O H) x:=by refine DD h3 ?_;obtain⟨r,hr⟩:=wO (fs:=fs) (f:=f) (E:=E) (O:=O) (H:=H) f.b.length (j+1) (by omega);have hi:i<(Lw.step fs f E O H j).length:=by{rcases Nat.lt_or_ge i (Lw.step fs f E O H j).length with q|q;{exact q};rw[List.getElem?_eq_none q]at h;cases h};have e:=(Lw.su fs f E O H j).1;rw[az h0]at e;unfold raw;rw[hr,e];rw[oJ,oJ,qM (by unfold pos;omega)];unfold pos;rw[Nat.add_sub_cancel_left,uJ hi];exact h
theorem uq(h3:(raw fs f E O H).length<=300){x:Ln×Int}(h:(Lw.last f)[i]?=some x):(func fs f E O H).getD (pos fs f E O H f.b.length+i) .z=qi (dL fs f E O H) x:=by refine DD h3 ?_;unfold raw pos;rw[qM (by omega),Nat.add_sub_cancel_left];exact h
theorem KT(h3:(raw fs f E O H).length<=300)(h:i<f.l.toNat):(func fs f E O H).getD i .z=⟨1,f.a+(i:Int),0,0,0,[]⟩:=by have e:(raw fs f E O H)[i]?=some (⟨1,f.a+(i:Int),0,0,0,[]⟩,-1):=by{obtain⟨r,hr⟩:=wO (fs:=fs) (f:=f) (E:=E) (O:=O) (H:=H) f.b.length 0 (by omega);unfold raw;rw[hr];unfold dS Lw.first;rw[oJ,uJ (by simpa using h)];simp[h]};rw[DD h3 e];rfl
theorem Rj:pos fs f E O H 0=f.l.toNat:=by simp[pos,dS,Lw.first]
theorem Qr(h0:0<=H.getD j 0):pos fs f E O H (j+1)=pos fs f E O H j+(Lw.step fs f E O H j).length:=by unfold pos;rw[(Lw.su fs f E O H j).1,az h0,jy]
theorem Xy(h:aM.op f.b j=12):Lw.step fs f E O H j=[]:=by unfold Lw.step Lw.vo;rw[h];rfl
theorem CW(h:aM.op f.b j=12):pos fs f E O H (j+1)=pos fs f E O H j:=by unfold pos;rw[(Lw.su fs f E O H j).1,Xy h];split<;>simp
theorem oF {st:List Int}(x:Ln):qi st (x,-1)=x:=rfl
theorem qW(hj:j<f.b.length)(x:Ln):qi (dL fs f E O H) (x,(j:Int))={x with n:=(pos fs f E O H j:Int)}:=by unfold qi;rw[az (by simp only;omega)];simp only[aA];rw[Lw.NH fs f E O H hj];rfl
theorem vV (hcs:cs.getD k []=func fs f E O H)(h3:(raw fs f E O H).length<=300)(hw:0<=wd f/\wd f<=6)(hg:f.g=0\/f.g=1)(hB:B.length=40){v:Int}(h0:f.g=0->v=0)(h1:f.g=1->B.getD (wd f).toNat 0=v):∃u,u<=2/\∀d N,R cs (N+u) d k (pos fs f E O H f.b.length) B mem= .done v mem N:=by rcases hg with hg|hg;{refine⟨2,bI _,fun d N=>?_⟩;have l0:=uq (fs:=fs) (f:=f) (E:=E) (O:=O) (H:=H) h3 (i:=0) (x:=(⟨1,wd f+20,0,0,0,[]⟩,-1)) (by unfold Lw.last;rw[az hg];rfl);have l1:=uq (fs:=fs) (f:=f) (E:=E) (O:=O) (H:=H) h3 (i:=1) (x:=(⟨10,0,wd f+20,0,0,[]⟩,-1)) (by unfold Lw.last;rw[az hg];rfl);rw[oF]at l0 l1;have s0:Rl.aQ cs k (pos fs f E O H f.b.length) B mem= .next (pos fs f E O H f.b.length+1) (B.set (wd f+20).toNat 0) mem:=by{unfold Rl.aQ Rl.line;rw[hcs,←Nat.add_zero (pos fs f E O H f.b.length),l0];rfl};have s1:Rl.aQ cs k (pos fs f E O H f.b.length+1) (B.set (wd f+20).toNat 0) mem= .qN v:=by{unfold Rl.aQ Rl.line;rw[hcs,l1];show Rl.Sr.qN ((B.set (wd f+20).toNat 0).getD (wd f+20).toNat 0)=_;rw[Mm.iH (by omega),az rfl,h0 hg]};rw[show N+2=N+1+1 by omega,QN s0,Ro s1]};refine⟨1,by omega,fun d N=>?_⟩;have l0:=uq (fs:=fs) (f:=f) (E:=E) (O:=O) (H:=H) h3 (i:=0) (x:=(⟨10,0,wd f,0,0,[]⟩,-1)) (by unfold Lw.last;rw[ax (by omega)];rfl);rw[oF]at l0;have s0:Rl.aQ cs k (pos fs f E O H f.b.length) B mem= .qN v:=by{unfold Rl.aQ Rl.line;rw[hcs,←Nat.add_zero (pos fs f E O H f.b.length),l0];show Rl.Sr.qN (B.getD (wd f).toNat 0)=_;rw[h1 hg]};exact Ro s0
theorem xm (hcs:cs.getD k []=func fs f E O H)(h3:(raw fs f E O H).length<=300)(ha:0<=f.a/\f.a<=3)(hl:0<=f.l/\f.l<=3){args:List Int}(hlen:(args.length:Int)=f.a):∀i,i<=f.l.toNat->iQ cs k 0 (Rl.kN args) mem i i (Rl.kN args) mem
 |0,_=>iQ.refl _ _ _ _ _
 | i + 1,hi=>by
   refine(xm hcs h3 ha hl hlen i (by omega)).andThen (iQ.one ?_)
   unfold Rl.aQ Rl.line
   rw[hcs,KT h3 (by omega)]
   show Rl.Sr.next (i+1) ((Rl.kN args).set (f.a+(i:Int)).toNat 0) mem=_
   have e:(Rl.kN args).set (f.a+(i:Int)).toNat 0=Rl.kN args:=by
     have ard:(Rl.kN args).length=40:=by unfold Rl.kN;rw[jy,Zp];omega
     apply List.ext_getElem?
     intro j
     rw[List.getElem?_set]
     split
     · rename_i hj
       subst hj
       rw[az (by omega)]
       unfold Rl.kN
       rw[qM (by omega),List.getElem?_replicate,az (by omega)]
     · rfl
   rw[e]
theorem OJ(hl:0<=f.l/\f.l<=3)(hlen:args.length<=3):Rel [] (Mn.jf f args) (Rl.kN args):=by refine⟨by unfold Rl.kN;rw[jy,Zp];omega,fun i hi=>?_,fun j hj=>by simp at hj⟩;unfold Mn.jf at hi ⊢;unfold Rl.kN;rw[jy,Zp]at hi;rw[ah,ah];by_cases h:i<args.length;{rw[uJ h,uJ h]};rw[qM (by omega),qM (by omega),List.getElem?_replicate,List.getElem?_replicate,az (by omega),az (by omega)]
end Sm
namespace Sm
open Mn (Rs words)
open Lw (wd dS raw dL qi func)
open Hg (arg)
variable {cs : List (List Ln)} {N d k at' : Nat} {B mem : List Int} {fs : List Fn} {f : Fn} {E O H : List Int}
def Sim (fs:List Fn)(cs:List (List Ln))(f:Fn)(E O H:List Int)(k at':Nat)(loc mem B:List Int):Mn.Sr->Prop
 | .inl (a,p,l,m)=>∃u B',u<=8/\iQ cs k (pos fs f E O H at') B mem u (pos fs f E O H a) B' m/\Rel p l B'
 | .inr (.inl p)=>∃u,u<=8/\∀d N,R cs (N+u) d k (pos fs f E O H at') B mem= .done (Mn.gives f p) mem N
 | .inr (.inr (.inl c))=>∃u,u<=8/\∀d N,R cs (N+u) d k (pos fs f E O H at') B mem= .stop c mem N
 | .inr (.inr (.inr (q,args,rest)))=>pos fs f E O H (at'+1)=pos fs f E O H at'+1/\∃x,Rl.aQ cs k (pos fs f E O H at') B mem= .call x q args/\∀v,Rel (rest++Mn.kZ (Mn.fn fs q) v) loc (B.set x v)
def QB (fs:List Fn)(cs:List (List Ln))(f:Fn)(E O H:List Int)(k q:Nat)(mem B:List Int):Mn.Sr->Prop
 | .inl (a,p,l,m)=>q=pos fs f E O H a/\Rel p l B/\m=mem
 | .inr (.inl p)=>∃u,u<=2/\∀d N,R cs (N+u) d k q B mem= .done (Mn.gives f p) mem N
 | .inr (.inr _)=>False
theorem QB.sim{u:Nat}{B':List Int}{r:Mn.Sr}(h:QB fs cs f E O H k q mem B' r)(hG:iQ cs k (pos fs f E O H at') B mem u q B' mem)(hu:u<=6):Sim fs cs f E O H k at' loc mem B r:=by rcases r with⟨a,p,l,m⟩|p|c;{obtain⟨rfl,h2,rfl⟩:=h;exact⟨u,B',by omega,hG,h2⟩};{obtain⟨v,hv,h2⟩:=h;exact⟨v+u,by omega,fun d N=>by rw[←Nat.add_assoc,hG d (N+v),h2 d N]⟩};exact h.elim
theorem Cs(h:0<pile.length):Mn.dU (Mn.upper pile 1)=Mn.dU pile:=by unfold Mn.dU Mn.upper;rw[Zv,ah,ah,PO];congr 2;omega
theorem BQ(h:0<pile.length):Mn.upper pile 1=[Mn.dU pile]:=by
 have hl:=Mn.gN (pile:=pile) (w:=1) (by omega)
 have ht:=Cs h
 match hu:Mn.upper pile 1,hl with
 |[x],_=>
  rw[hu]at ht
  rw[←ht]
  rfl
theorem xe(hA:Hg.Acc fs f E O H)(hcs:cs.getD k []=func fs f E O H)(h3:(raw fs f E O H).length<=300)(hw:0<=wd f/\wd f<=6)(hg:f.g=0\/f.g=1)(hend:aM.op f.b (f.b.length-1)=12)(har:∀t,t<f.b.length->St.opens (aM.op f.b t)=true->arg f.b t=0\/arg f.b t=1)(hat:at'<f.b.length){hh:Int}(hJ:Hg.jL f E H at' hh a)(hl:(pile.length:Int)=hh)(arf:hh<=20)(hll:(loc.length:Int)=wd f)(hR:Rel pile loc B){L:Int×Int×Int}(hL:Lw.fM f E H at' a=L){B':List Int}(hB':B'=if L.2.2=1/\L.2.1≠wd f+(hh-1)then B.set L.2.1.toNat (Rl.bx B (wd f+(hh-1)))else B):QB fs cs f E O H k (pos fs f E O H L.1.toNat) mem B' (Mn.jump f E H at' a pile loc mem):=by unfold Mn.jump;by_cases hlt:a.toNat<(aM.dK f.b E at' at').length;{rw[az hlt];obtain⟨t,e,tl,YS,h0,s0,sl,⟨e1,e2,e3⟩,b1,b2⟩:=hJ.1 hlt;have htl:t<f.b.length:=by{omega};rw[Lw.tu hlt (t:=t) e]at hL;simp only[e,aA];have al2:Hg.kP H f.b t=H.getD t 0-(if aM.op f.b t=10 then 1 else 0):=by{unfold Hg.kP;rw[az h0]};by_cases h9:aM.op f.b t=9;{rw[az h9];rw[az h9]at hL;subst hL;simp only at hB' ⊢;rw[ax (by omega)]at hB';rw[hB'];exact⟨by congr 1,hR.take _,rfl⟩};rw[ax h9];rw[ax h9]at hL;have h12:=(hA.Mq.f3 t htl e1).2.2;have hL':L=(aM.aI E t,wd f+Hg.kP H f.b t,arg f.b t):=by{rw[←hL,al2];split;{rfl};unfold Lw.bx;rw[Int.sub_zero]};subst hL';clear hL;simp only at hB' ⊢;refine⟨(CW h12).symm,?_,rfl⟩;rcases har t htl YS with ha|ha;{rw[ax (by omega)]at hB';rw[ha,hB'];have:Mn.upper pile (0:Int).toNat=[]:=by{unfold Mn.upper;simp};rw[this,List.append_nil];exact hR.take _};have hu:Mn.upper pile (arg f.b t).toNat=[Mn.dU pile]:=by{rw[ha];exact BQ (by omega)};rw[hu];have hbx:Rl.bx B (wd f+(hh-1))=Mn.dU pile:=by{unfold Rl.bx;rw[←hR.dU (by omega)];congr 1;omega};by_cases hc:wd f+Hg.kP H f.b t≠wd f+(hh-1);{rw[az ⟨ha,hc⟩,hbx]at hB';rw[hB',show(wd f+Hg.kP H f.b t).toNat=loc.length+(Hg.kP H f.b t).toNat by omega];exact hR.put (by omega) (by omega) _};rw[ax (fun q=>hc q.2)]at hB';rw[hB'];have e:pile.take (Hg.kP H f.b t).toNat++[Mn.dU pile]=pile:=by{have h':(Hg.kP H f.b t).toNat=pile.length-1:=by{omega};have hu1:=BQ (pile:=pile) (by omega);rw[h',←hu1];exact List.take_append_drop _ _};rw[e];exact hR};rw[ax hlt];have hge:=hJ.2 hlt;rw[Lw.vL hlt]at hL;subst hL;simp only at hB' ⊢;have hp:pos fs f E O H ((f.b.length:Int)-1).toNat=pos fs f E O H f.b.length:=by{have:=CW (fs:=fs) (f:=f) (E:=E) (O:=O) (H:=H) hend;rw[show f.b.length-1+1=f.b.length by have:=hA.pos;omega]at this;rw[this];congr 1;omega};rw[hp];have hlB:B'.length=40:=by{rw[hB'];split;{rw[uW];exact hR.lB};exact hR.lB};refine vV hcs h3 hw hg hlB (fun h=>by unfold Mn.gives;rw[az h]) (fun h=>?_);unfold Mn.gives;rw[ax (by omega),h];show _=Mn.dU (Mn.upper pile 1);rw[Cs (by omega)];have hbx:Rl.bx B (wd f+(hh-1))=Mn.dU pile:=by{unfold Rl.bx;rw[←hR.dU (by omega)];congr 1;omega};have hb0:Lw.bx f 0=wd f:=by{unfold Lw.bx;omega};rw[hb0]at hB';by_cases hc:wd f≠wd f+(hh-1);{rw[az ⟨h,hc⟩,hbx]at hB';rw[hB',Mm.iH (by rw[hR.lB];omega),az rfl]};rw[ax (fun q=>hc q.2)]at hB';rw[hB',←hbx];unfold Rl.bx;congr 1;omega
theorem Lu(hR:Rel pile loc B){n:Int}(hn:0<=n)(hl:n<=pile.length):(Lw.args ((loc.length:Int)+pile.length-1) n).map (Rl.bx B)=Mn.upper pile n.toNat:=by apply List.ext_getElem?;intro i;unfold Lw.args Mn.upper;rw[List.map_map,KH,PO];by_cases hi:i<n.toNat;{rw[List.getElem?_range hi];simp only[Option.map_some,Function.comp];have h1:=hR.pi (pile.length-n.toNat+i) (by omega);rw[ah (l:=pile),ai (by omega)]at h1;rw[ai (by omega)];congr 1;unfold Rl.bx;rw[show((loc.length:Int)+pile.length-1-n+1+(i:Int)).toNat=loc.length+(pile.length-n.toNat+i)by omega];exact h1};rw[List.getElem?_eq_none (by rw[List.length_range];omega),List.getElem?_eq_none (by omega)];rfl
theorem PZ(hA:Hg.Acc fs f E O H)(hcs:cs.getD k []=func fs f E O H)(h3:(raw fs f E O H).length<=300)(hf:0<=f.a/\f.a<=3/\0<=f.l/\f.l<=3/\(f.g=0\/f.g=1)/\f.b.length<=80)(hfs:∀j,j<fs.length->0<=(fs.getD j .z).a/\((fs.getD j .z).g=0\/(fs.getD j .z).g=1))(hst:St.dh f.b=true)(hend:aM.op f.b (f.b.length-1)=12)(G:Mn.Good fs f H at' pile loc mem)(hR:Rel pile loc B):Sim fs cs f E O H k at' loc mem B (Mn.step fs f E O H at' pile loc mem):=by
 have hlt:=G.lt
 have hll:=G.ll
 have hlen:=G.here
 have hH0:0<=H.getD at' 0:=by omega
 have T:=hA.typ at' hlt hH0
 have h20:=hA.dU at' hlt
 have hwd:wd f=f.a+f.l:=rfl
 have hw:0<=wd f/\wd f<=6:=by omega
 have har:∀t,t<f.b.length->St.opens (aM.op f.b t)=true->arg f.b t=0\/arg f.b t=1:=fun t ht ho=>by have hok:St.ok (aM.op f.b t) (arg f.b t)=true:=St.bg hst ht;simp only[St.ok,au,Wd.aZ]at hok;have h8:=aM.fe.1 ho;have e1:St.least (aM.op f.b t)=0:=by{unfold St.least;rw[ax (by omega)]};have e2:St.di (aM.op f.b t)<=1:=by{rcases h8 with h|h|h<;>rw[h]<;>decide};omega
 have Kc:St.ok (aM.op f.b at') (arg f.b at')=true:=St.bg hst hlt
 have htk:=T.take
 have hstep:Lw.step fs f E O H at'=Lw.vo fs f E O H at' (aM.op f.b at') (arg f.b at') ((loc.length:Int)+pile.length-1):=by unfold Lw.step Lw.bx;congr 1;omega
 have hat:∀(i:Nat)(x:Ln×Int)(b m:List Int),(Lw.step fs f E O H at')[i]?=some x->Rl.aQ cs k (pos fs f E O H at'+i) b m=Rl.step (qi (dL fs f E O H) x) (pos fs f E O H at'+i) b m:=fun i x b m h=>by unfold Rl.aQ Rl.line;rw[hcs,Ov h3 hlt hH0 h]
 have hps:=Qr (fs:=fs) (f:=f) (E:=E) (O:=O) (H:=H) hH0
 have one:∀(x:Ln)(b m:List Int),Lw.step fs f E O H at'=[(x,-1)]->Rl.step x (pos fs f E O H at') B mem= .next (pos fs f E O H at'+1) b m->iQ cs k (pos fs f E O H at') B mem 1 (pos fs f E O H (at'+1)) b m:=fun x b m h1 h2=>by refine iQ.one ?_;have:=hat 0 (x,-1) B mem (by rw[h1];rfl);rw[Nat.add_zero,oF,h2]at this;rw[this,hps,h1];rfl
 have halt:∀(x:Ln)(c:Int),Lw.step fs f E O H at'=[(x,-1)]->Rl.step x (pos fs f E O H at') B mem= .halt c->∀d N,R cs (N+1) d k (pos fs f E O H at') B mem= .stop c mem N:=fun x c h1 h2 d N=>by refine acb ?_;have:=hat 0 (x,-1) B mem (by rw[h1];rfl);rw[Nat.add_zero,oF,h2]at this;exact this
 obtain⟨p,hp⟩:=aF (aM.op f.b at')
 obtain⟨a,ha⟩:=aF (arg f.b at')
 have hok:St.ok p a=true:=by rw[←hp,←ha];exact Kc
 simp only[St.ok,au,Wd.aZ]at hok
 have ha0:0<=a:=by(have:0<=St.least p:=by unfold St.least;split<;>omega);omega
 rw[hp,ha]at hstep htk
 have nx:p≠11->p≠12->p≠13->p≠15->p≠19->at'+1<f.b.length:=by have:=T.next;rw[hp]at this;exact fun h1 h2 h3 h4 h5=>(this h1 h2 h3 h4 h5).1
 have hbt:0<pile.length->Rl.bx B ((loc.length:Int)+pile.length-1)=Mn.dU pile:=fun h=>by unfold Rl.bx;rw[←hR.dU h];congr 1;omega
 have hbu:1<pile.length->Rl.bx B ((loc.length:Int)+pile.length-1-1)=Mn.under pile:=fun h=>by unfold Rl.bx;rw[←hR.under h];congr 1;omega
 have hpe:∀j:Nat,j<f.b.length->0<=aM.aI E j->pos fs f E O H (aM.aI E j).toNat=pos fs f E O H ((aM.aI E j).toNat+1):=fun j hj h=>(CW (hA.Mq.f3 j hj h).2.2).symm
 unfold Mn.step
 simp only[hp,ha]
 by_cases h1:p=1
 · rw[az h1];subst h1;refine⟨1,_,by omega,one ⟨1,(loc.length:Int)+pile.length-1+1,0,0,a,[]⟩ _ _ hstep rfl,?_⟩;have:=hR.put (q:=pile.length) (bI _) (by omega) a;rw[List.take_length]at this;rw[show((loc.length:Int)+pile.length-1+1).toNat=loc.length+pile.length by omega];exact this
 rw[ax h1]
 by_cases h2:p=2
 · rw[az h2];subst h2;have hloc:=T.loc (.inl hp);rw[ha]at hloc;refine⟨1,_,by omega,one ⟨2,(loc.length:Int)+pile.length-1+1,a,0,0,[]⟩ _ _ hstep rfl,?_⟩;have:=hR.put (q:=pile.length) (bI _) (by omega) (loc.getD a.toNat 0);rw[List.take_length]at this;rw[show((loc.length:Int)+pile.length-1+1).toNat=loc.length+pile.length by omega];show Rel _ _ (B.set _ (B.getD a.toNat 0));rw[hR.lo _ (by omega)];exact this
 rw[ax h2]
 have e34:p=3\/p=4->0<pile.length/\a.toNat<loc.length/\iQ cs k (pos fs f E O H at') B mem 1 (pos fs f E O H (at'+1)) (B.set a.toNat (Mn.dU pile)) mem:=fun h=>by have hloc:=T.loc (.inr (by rw[hp];exact h));rw[ha]at hloc;(have k1:Hg.tk fs p a=1:=by rcases h with rfl|rfl<;>rfl);have h0:0<pile.length:=by{omega};refine⟨h0,by omega,?_⟩;have:=one ⟨2,a,(loc.length:Int)+pile.length-1,0,0,[]⟩ (B.set a.toNat (Rl.bx B ((loc.length:Int)+pile.length-1))) mem (by rw[hstep];unfold Lw.vo;rw[ax (by omega),ax (by omega),az h]) rfl;rw[hbt h0]at this;exact this
 by_cases h3':p=3
 · rw[az h3'];obtain⟨q1,q2,q3⟩:=e34 (.inl h3');exact⟨1,_,by omega,q3,(hR.Rb q2 (by omega) _).take _⟩
 rw[ax h3']
 by_cases h4:p=4
 · rw[az h4];obtain⟨q1,q2,q3⟩:=e34 (.inr h4);exact⟨1,_,by omega,q3,hR.Rb q2 (by omega) _⟩
 rw[ax h4]
 by_cases h5:p=5
 · rw[az h5];subst h5;have k1:Hg.tk fs 5 a=2:=rfl;have b1:=hbu (by omega);have b2:=hbt (by omega);have hs:Lw.step fs f E O H at'=[(⟨3,(loc.length:Int)+pile.length-1-1,(loc.length:Int)+pile.length-1-1,(loc.length:Int)+pile.length-1,a,[]⟩,-1)]:=hstep;by_cases hc:Wd.dc a (Mn.under pile) (Mn.dU pile)=0;{rw[az hc];refine⟨1,_,by omega,one _ (B.set ((loc.length:Int)+pile.length-1-1).toNat (Wd.dv a (Mn.under pile) (Mn.dU pile))) _ hs ?_,?_⟩;{unfold Rl.step;simp only[b1,b2];rw[ax (by decide),ax (by decide),az trivial,az hc]};rw[show((loc.length:Int)+pile.length-1-1).toNat=loc.length+(pile.length-2)by omega];exact hR.put (by omega) (by omega) _};rw[ax hc];refine⟨1,by omega,halt _ _ hs ?_⟩;unfold Rl.step;simp only[b1,b2];rw[ax (by decide),ax (by decide),az trivial,ax hc]
 rw[ax h5]
 by_cases h6:p=6
 · rw[az h6];subst h6;have k1:Hg.tk fs 6 a=1:=rfl;have b2:=hbt (by omega);have hs:Lw.step fs f E O H at'=[(⟨4,(loc.length:Int)+pile.length-1,(loc.length:Int)+pile.length-1,0,0,[]⟩,-1)]:=hstep;refine⟨1,_,by omega,one _ (B.set ((loc.length:Int)+pile.length-1).toNat (if Mn.dU pile=0 then 1 else 0)) _ hs ?_,?_⟩;{show Rl.Sr.next _ (B.set _ (if Rl.bx B _=0 then 1 else 0)) _=_;simp only[b2]};rw[show((loc.length:Int)+pile.length-1).toNat=loc.length+(pile.length-1)by omega];exact hR.put (by omega) (by omega) _
 rw[ax h6]
 by_cases h7:p=7
 · rw[az h7];subst h7;have hs:Lw.step fs f E O H at'=[]:=hstep;rw[hs]at hps;refine⟨0,B,by omega,?_,hR.take _⟩;rw[hps];exact iQ.refl _ _ _ _ _
 rw[ax h7]
 by_cases h10:p=10
 · rw[az h10];subst h10;have k1:Hg.tk fs 10 a=1:=rfl;have b2:=hbt (by omega);obtain⟨z,hz⟩:∃z:Int,(if 0<=aM.aI O at' then aM.aI O at'+1 else aM.aI E at')=z:=⟨_,rfl⟩;have hs:Lw.step fs f E O H at'=[(⟨4,(loc.length:Int)+pile.length-1,(loc.length:Int)+pile.length-1,0,0,[]⟩,-1),(⟨6,0,(loc.length:Int)+pile.length-1,0,0,[]⟩,z)]:=by{rw[←hz];exact hstep};have hi:=T.iff hp;have hz':0<=z/\z.toNat<f.b.length/\pos fs f E O H z.toNat=pos fs f E O H ((if 0<=aM.aI O at' then aM.aI O at' else aM.aI E at').toNat+1):=by{rcases hi with⟨i1,i2,-⟩|⟨i1,i2,i3,-⟩;{rw[az i1]at hz ⊢;rw[←hz];exact⟨by omega,by omega,by congr 1;omega⟩};rw[ax (by omega)]at hz ⊢;rw[←hz];exact⟨i2,by omega,hpe at' hlt i2⟩};have s0:=hat 0 _ B mem (by rw[hs];rfl);obtain⟨v,hv⟩:∃v:Int,(if Mn.dU pile=0 then(1:Int)else 0)=v:=⟨_,rfl⟩;have g0:iQ cs k (pos fs f E O H at') B mem 1 (pos fs f E O H at'+1) (B.set (loc.length+(pile.length-1)) v) mem:=by{refine iQ.one ?_;rw[Nat.add_zero,oF]at s0;rw[s0];show Rl.Sr.next _ (B.set _ (if Rl.bx B _=0 then 1 else 0)) _=_;simp only[b2];rw[hv,show((loc.length:Int)+pile.length-1).toNat=loc.length+(pile.length-1)by omega]};have s1:=hat 1 _ (B.set (loc.length+(pile.length-1)) v) mem (by rw[hs];rfl);have hzn:z=((z.toNat:Nat):Int):=by{omega};rw[hzn,qW hz'.2.1]at s1;have hb1:Rl.bx (B.set (loc.length+(pile.length-1)) v) ((loc.length:Int)+pile.length-1)=v:=by{unfold Rl.bx;rw[show((loc.length:Int)+pile.length-1).toNat=loc.length+(pile.length-1)by omega,Mm.iH (by rw[hR.lB];omega),az rfl]};have s2:Rl.aQ cs k (pos fs f E O H at'+1) (B.set (loc.length+(pile.length-1)) v) mem= .next (if v=0 then pos fs f E O H at'+1+1 else pos fs f E O H z.toNat) (B.set (loc.length+(pile.length-1)) v) mem:=by{rw[s1];show Rl.Sr.next (if Rl.bx _ _=0 then _ else _) _ _=_;simp only[hb1,aA]};have g1:=g0.andThen (iQ.one s2);have hrel:Rel (Mn.less pile 1) loc (B.set (loc.length+(pile.length-1)) v):=(hR.take _).spare (by rw[o7];omega) _;have acC:pos fs f E O H (at'+1)=pos fs f E O H at'+1+1:=by{rw[hps,hs];rfl};by_cases hc:Mn.dU pile=0;{rw[az hc];rw[az hc]at hv;rw[ax (by omega),hz'.2.2]at g1;exact⟨2,_,by omega,g1,hrel⟩};rw[ax hc];rw[ax hc]at hv;rw[az hv.symm,←acC]at g1;exact⟨2,_,by omega,g1,hrel⟩
 rw[ax h10]
 by_cases h11:p=11
 · rw[az h11];subst h11;obtain⟨e1,e2,-⟩:=T.Oa hp;have hs:Lw.step fs f E O H at'=[(⟨5,0,0,0,0,[]⟩,aM.aI E at')]:=hstep;have s0:=hat 0 _ B mem (by rw[hs];rfl);rw[Nat.add_zero,show aM.aI E at'=(((aM.aI E at').toNat:Nat):Int)by omega,qW (by omega)]at s0;refine⟨1,B,by omega,?_,hR⟩;rw[←hpe at' hlt e1];refine iQ.one ?_;rw[s0];show Rl.Sr.next (Int.toNat _) _ _=_;rw[aA]
 rw[ax h11]
 by_cases h12:p=12
 · rw [az h12]
   subst h12
   have hq:=CW (fs:=fs) (f:=f) (E:=E) (O:=O) (H:=H) hp
   rcases T.last hp with⟨e1,e2⟩|⟨e1,e2⟩
   · rw[az e1]
     obtain⟨u,u2,hu⟩:=vV (E:=E) (O:=O) (H:=H) (mem:=mem) hcs h3 hw hf.2.2.2.2.1 hR.lB (v:=Mn.gives f pile) (fun h=>by unfold Mn.gives;rw[az h]) (fun h=>by
      unfold Mn.gives
      rw[ax (by omega),←hR.dU (by omega)]
      congr 1
      omega)
     refine⟨u,by omega,?_⟩
     rw[←hq,e1]
     exact hu
   · rw[ax (by omega)];refine⟨0,B,by omega,?_,hR⟩;rw[hq];exact iQ.refl _ _ _ _ _
 rw[ax h12]
 have Z7:∀dp:Int,(p=13\/p=15)->(if p=15 then 99 else a)=dp->Hg.jL f E H at' (H.getD at' 0) dp->Sim fs cs f E O H k at' loc mem B (Mn.jump f E H at' dp pile loc mem):=fun dp YP hdp hJ=>by have hs:Lw.step fs f E O H at'=(if(Lw.fM f E H at' dp).2.2=1/\(Lw.fM f E H at' dp).2.1≠(loc.length:Int)+pile.length-1 then[(⟨2,(Lw.fM f E H at' dp).2.1,(loc.length:Int)+pile.length-1,0,0,[]⟩,-1)]else[])++[(⟨5,0,0,0,0,[]⟩,(Lw.fM f E H at' dp).1)]:=by{rw[hstep,←hdp];rcases YP with rfl|rfl<;>rfl};have hgl:=Lw.nR hA hlt dp;have hL:=xe (mem:=mem) hA hcs h3 hw hf.2.2.2.2.1 hend har hlt hJ hlen h20 (by omega) hR rfl (B':=if(Lw.fM f E H at' dp).2.2=1/\(Lw.fM f E H at' dp).2.1≠wd f+(H.getD at' 0-1)then B.set (Lw.fM f E H at' dp).2.1.toNat (Rl.bx B (wd f+(H.getD at' 0-1)))else B) rfl;have ew:wd f+(H.getD at' 0-1)=(loc.length:Int)+pile.length-1:=by{omega};rw[ew]at hL;generalize Lw.fM f E H at' dp=L at hs hgl hL;by_cases hc:L.2.2=1/\L.2.1≠(loc.length:Int)+pile.length-1;{rw[az hc]at hs hL;have s0:=hat 0 _ B mem (by rw[hs];rfl);rw[Nat.add_zero,oF]at s0;have s1:=hat 1 _ (B.set L.2.1.toNat (Rl.bx B ((loc.length:Int)+pile.length-1))) mem (by rw[hs];rfl);rw[show L.1=((L.1.toNat:Nat):Int)by omega,qW (by omega)]at s1;refine hL.sim ((iQ.one (s0.trans rfl)).andThen (iQ.one (s1.trans ?_))) (by omega);show Rl.Sr.next (Int.toNat _) _ _=_;rw[aA]};rw[ax hc]at hs hL;have s0:=hat 0 _ B mem (by rw[hs];rfl);rw[Nat.add_zero,show L.1=((L.1.toNat:Nat):Int)by omega,qW (by omega)]at s0;refine hL.sim (iQ.one (s0.trans ?_)) (by omega);show Rl.Sr.next (Int.toNat _) _ _=_;rw[aA]
 by_cases Az:p=13
 · rw[az Az];have hj:=T.jump (hp.trans Az);rw[ha]at hj;exact Z7 a (.inl Az) (by rw[ax (by omega)]) hj
 rw[ax Az]
 by_cases Bz:p=14
 · rw[az Bz];subst Bz;have hj:=T.jif hp;rw[ha]at hj;have k1:Hg.tk fs 14 a=1:=rfl;have b2:=hbt (by omega);have hnx:=nx (by omega) (by omega) (by omega) (by omega) (by omega);have hs:Lw.step fs f E O H at'=if(Lw.fM f E H at' a).2.2=1/\(Lw.fM f E H at' a).2.1≠(loc.length:Int)+pile.length-1-1 then[(⟨4,(loc.length:Int)+pile.length-1,(loc.length:Int)+pile.length-1,0,0,[]⟩,-1),(⟨6,0,(loc.length:Int)+pile.length-1,0,0,[]⟩,(at':Int)+1),(⟨2,(Lw.fM f E H at' a).2.1,(loc.length:Int)+pile.length-1-1,0,0,[]⟩,-1),(⟨5,0,0,0,0,[]⟩,(Lw.fM f E H at' a).1)]else[(⟨6,0,(loc.length:Int)+pile.length-1,0,0,[]⟩,(Lw.fM f E H at' a).1)]:=hstep;have hgl:=Lw.nR hA hlt a;have hJL:=fun(b:List Int) (hb:Rel (Mn.less pile 1) loc b)=>xe (mem:=mem) hA hcs h3 hw hf.2.2.2.2.1 hend har hlt hj (by rw[Mn.gV];omega) (by omega) (by omega) hb rfl (B':=if(Lw.fM f E H at' a).2.2=1/\(Lw.fM f E H at' a).2.1≠wd f+(H.getD at' 0-1-1)then b.set (Lw.fM f E H at' a).2.1.toNat (Rl.bx b (wd f+(H.getD at' 0-1-1)))else b) rfl;have ew:wd f+(H.getD at' 0-1-1)=(loc.length:Int)+pile.length-1-1:=by{omega};rw[ew]at hJL;generalize Lw.fM f E H at' a=L at hs hgl hJL;by_cases hc:L.2.2=1/\L.2.1≠(loc.length:Int)+pile.length-1-1;{rw[az hc]at hs;have s0:=hat 0 _ B mem (by rw[hs];rfl);obtain⟨v,hv⟩:∃v:Int,(if Mn.dU pile=0 then(1:Int)else 0)=v:=⟨_,rfl⟩;have g0:iQ cs k (pos fs f E O H at') B mem 1 (pos fs f E O H at'+1) (B.set (loc.length+(pile.length-1)) v) mem:=by{refine iQ.one ?_;rw[Nat.add_zero,oF]at s0;rw[s0];show Rl.Sr.next _ (B.set _ (if Rl.bx B _=0 then 1 else 0)) _=_;simp only[b2];rw[hv,show((loc.length:Int)+pile.length-1).toNat=loc.length+(pile.length-1)by omega]};have s1:=hat 1 _ (B.set (loc.length+(pile.length-1)) v) mem (by rw[hs];rfl);rw[show(at':Int)+1=((at'+1:Nat):Int)by omega,qW hnx]at s1;have hb1:Rl.bx (B.set (loc.length+(pile.length-1)) v) ((loc.length:Int)+pile.length-1)=v:=by{unfold Rl.bx;rw[show((loc.length:Int)+pile.length-1).toNat=loc.length+(pile.length-1)by omega,Mm.iH (by rw[hR.lB];omega),az rfl]};have s2:Rl.aQ cs k (pos fs f E O H at'+1) (B.set (loc.length+(pile.length-1)) v) mem= .next (if v=0 then pos fs f E O H at'+1+1 else pos fs f E O H (at'+1)) (B.set (loc.length+(pile.length-1)) v) mem:=by{rw[s1];show Rl.Sr.next (if Rl.bx _ _=0 then _ else _) _ _=_;simp only[hb1,aA]};have g1:=g0.andThen (iQ.one s2);have hrel:Rel (Mn.less pile 1) loc (B.set (loc.length+(pile.length-1)) v):=(hR.take _).spare (by rw[o7];omega) _;by_cases ht:Mn.dU pile=0;{rw[az ht];rw[az ht]at hv;rw[ax (by omega)]at g1;exact⟨2,_,by omega,g1,hrel⟩};rw[ax ht];rw[ax ht]at hv;rw[az hv.symm]at g1;have s3:=hat 2 _ (B.set (loc.length+(pile.length-1)) v) mem (by rw[hs];rfl);rw[oF]at s3;have hL:=hJL _ hrel;rw[az hc]at hL;have s4:=hat 3 _ ((B.set (loc.length+(pile.length-1)) v).set L.2.1.toNat (Rl.bx (B.set (loc.length+(pile.length-1)) v) ((loc.length:Int)+pile.length-1-1))) mem (by rw[hs];rfl);rw[show L.1=((L.1.toNat:Nat):Int)by omega,qW (by omega)]at s4;refine hL.sim ((g1.andThen (iQ.one (s3.trans rfl))).andThen (iQ.one (s4.trans ?_))) (by omega);show Rl.Sr.next (Int.toNat _) _ _=_;rw[aA]};rw[ax hc]at hs;have s0:=hat 0 _ B mem (by rw[hs];rfl);rw[Nat.add_zero,show L.1=((L.1.toNat:Nat):Int)by omega,qW (by omega)]at s0;have s1:Rl.aQ cs k (pos fs f E O H at') B mem= .next (if Mn.dU pile=0 then pos fs f E O H at'+1 else pos fs f E O H L.1.toNat) B mem:=by{rw[s0];show Rl.Sr.next (if Rl.bx _ _=0 then _ else _) _ _=_;simp only[b2,aA]};have acC:pos fs f E O H (at'+1)=pos fs f E O H at'+1:=by{rw[hps,hs];rfl};by_cases ht:Mn.dU pile=0;{rw[az ht];rw[az ht,←acC]at s1;exact⟨1,_,by omega,iQ.one s1,hR.take _⟩};rw[ax ht];rw[ax ht]at s1;have hL:=hJL _ (hR.take _);rw[ax hc]at hL;exact hL.sim (iQ.one s1) (by omega)
 rw[ax Bz]
 by_cases uR:p=15
 · rw[az uR];have hal:=Lw.pu f.b E at' at';have hno:¬(99:Int).toNat<(aM.dK f.b E at' at').length:=by{show¬99<_;omega};have:=Z7 99 (.inr uR) (by rw[az uR]) ⟨fun h=>eU h hno,fun _=>T.ret (hp.trans uR)⟩;unfold Mn.jump at this;rw[ax hno]at this;exact this
 rw[ax uR]
 by_cases h16:p=16
 · rw[az h16];subst h16;have hcl:=T.call hp;rw[ha]at hcl;have hg:=hfs a.toNat (by omega);have k1:Hg.tk fs 16 a=(fs.getD a.toNat .z).a:=rfl;obtain⟨q,hq⟩:=aF (fs.getD a.toNat .z);have hs:Lw.step fs f E O H at'=[(⟨7,if q.g=1 then(loc.length:Int)+pile.length-1-q.a+1 else wd f+20,0,0,a,Lw.args ((loc.length:Int)+pile.length-1) q.a⟩,-1)]:=by{rw[←hq];exact hstep};have s0:=hat 0 _ B mem (by rw[hs];rfl);rw[Nat.add_zero,oF]at s0;rw[hq]at hg k1 ⊢;refine⟨by rw[hps,hs];rfl,(if q.g=1 then(loc.length:Int)+pile.length-1-q.a+1 else wd f+20).toNat,s0.trans ?_,fun v=>?_⟩;{show Rl.Sr.call (if q.g=1 then(loc.length:Int)+pile.length-1-q.a+1 else wd f+20).toNat a.toNat _=_;rw[Lu hR hg.1 (by omega)]};have hfq:Mn.fn fs a.toNat=q:=hq;rw[hfq];unfold Mn.kZ Mn.less;by_cases h1:q.g=1;{rw[az h1,az h1,show((loc.length:Int)+pile.length-1-q.a+1).toNat=loc.length+(pile.length-q.a.toNat)by omega];exact hR.put (by omega) (by omega) _};rw[ax h1,ax h1,List.append_nil];exact(hR.take _).spare (by rw[o7];omega) _
 rw[ax h16]
 by_cases Ea:p=17
 · rw[az Ea];subst Ea;have k1:Hg.tk fs 17 a=1:=rfl;have b2:=hbt (by omega);have hs:Lw.step fs f E O H at'=[(⟨8,(loc.length:Int)+pile.length-1,(loc.length:Int)+pile.length-1,0,a,[]⟩,-1)]:=hstep;by_cases hc:Mm.there (Mn.dU pile) a=true;{rw[az hc];refine⟨1,_,by omega,one _ (B.set ((loc.length:Int)+pile.length-1).toNat (Mm.jX mem (Mn.dU pile+a).toNat 4)) _ hs ?_,?_⟩;{unfold Rl.step;simp only[b2];rw[ax (by decide),ax (by decide),ax (by decide),ax (by decide),ax (by decide),ax (by decide),ax (by decide),az trivial,az hc]};rw[show((loc.length:Int)+pile.length-1).toNat=loc.length+(pile.length-1)by omega];exact hR.put (by omega) (by omega) _};rw[ax hc];refine⟨1,by omega,halt _ _ hs ?_⟩;unfold Rl.step;simp only[b2];rw[ax (by decide),ax (by decide),ax (by decide),ax (by decide),ax (by decide),ax (by decide),ax (by decide),az trivial,ax hc]
 rw[ax Ea]
 by_cases h18:p=18
 · rw[az h18];subst h18;have k1:Hg.tk fs 18 a=2:=rfl;have b1:=hbu (by omega);have b2:=hbt (by omega);have hs:Lw.step fs f E O H at'=[(⟨9,0,(loc.length:Int)+pile.length-1-1,(loc.length:Int)+pile.length-1,a,[]⟩,-1)]:=hstep;by_cases hc:Mm.there (Mn.under pile) a=true;{rw[az hc];refine⟨1,B,by omega,one _ B _ hs ?_,hR.take _⟩;unfold Rl.step;simp only[b1,b2];rw[ax (by decide),ax (by decide),ax (by decide),ax (by decide),ax (by decide),ax (by decide),ax (by decide),ax (by decide),az trivial,az hc]};rw[ax hc];refine⟨1,by omega,halt _ _ hs ?_⟩;unfold Rl.step;simp only[b1];rw[ax (by decide),ax (by decide),ax (by decide),ax (by decide),ax (by decide),ax (by decide),ax (by decide),ax (by decide),az trivial,ax hc]
 rw[ax h18]
 by_cases h19:p=19
 · rw[az h19];subst h19;exact⟨1,by omega,halt ⟨11,0,0,0,0,[]⟩ _ hstep rfl⟩
 rw[ax h19]
 have hs:Lw.step fs f E O H at'=[]:=by rw[hstep];unfold Lw.vo;rw[ax h1,ax h2,ax (by omega),ax h5,ax h6,ax h10,ax h11,ax (by omega),ax Bz,ax h16,ax Ea,ax h18,ax h19]
 rw[hs]at hps
 refine⟨0,B,by omega,?_,hR⟩
 rw[hps]
 exact iQ.refl _ _ _ _ _
end Sm
def lst (vs:List Lv)(j:Nat):Value:=(vs.getD j jr).2.2.2.2.2
def MU (W:World)(n₀:Nat)(v:Value)(fs:List Ln)(vs:List Lv):Prop:=
 W.ownsRow n₀ 109 6 v fs.length (fJ vs)/\vs.length=fs.length/\kU W n₀ fs.length vs fs/\∀i j,i<j->j<fs.length->∀g,(lst vs i).ownBlock=some g->(lst vs j).ownBlock≠some g
theorem MU.kept {W W':World}{n₀:Nat}{v:Value}{fs:List Ln}{vs:List Lv}(h:MU W n₀ v fs vs)(hB:Below W.heap.size W W'):MU W' n₀ v fs vs:=⟨aN h.1 hB,h.2.1,h.2.2.1.kept hB,h.2.2.2⟩
theorem Q6{α:Type}{l:List α}{x d:α}(h:k<l.length):(l.set k x).getD k d=x:=by rw[ah,Ww h];rfl
theorem abK{α:Type}{l:List α}{x d:α}(h:j≠k):(l.set k x).getD j d=l.getD j d:=by rw[ah,R9 (by omega),←ah]
theorem MU.list{fs:List Ln}{vs:List Lv}(h:MU W n₀ v fs vs)(hk:k<fs.length)(hg:W.grownBy W' (lst vs k).ownBlock)(hos:OI W' n₀ (lst vs k) ys):MU W' n₀ v (fs.set k ⟨(fs.getD k .z).k,(fs.getD k .z).d,(fs.getD k .z).a,(fs.getD k .z).b,(fs.getD k .z).n,ys⟩) vs:=by obtain⟨hrow,hl,ht,hp⟩:=h;have hint:109≠2:=by{decide};refine⟨?_,by simp[hl],?_,?_⟩;{rw[uW];exact eQ hrow hg (fun b e=>gP hrow (ht k hk).2.2.2.2.2 hint e)};{intro j hj;rw[uW]at hj;obtain⟨t0,t1,t2,t3,t4,t5⟩:=ht j hj;by_cases e:j=k;{subst e;rw[Q6 hj];exact⟨t0,t1,t2,t3,t4,hos⟩};rw[abK e];refine⟨t0,t1,t2,t3,t4,eQ t5 hg (fun b e1 e2=>?_)⟩;rcases Nat.lt_or_ge j k with hlt|hge;{exact hp j k hlt hk b e1 e2};exact hp k j (by omega) hj b e2 e1};intro i j hij hj b;rw[uW]at hj;exact hp i j hij hj b
theorem IY{xs:List Value}(h:W.ownsRow n₀ e k v n xs)(hb:∀g,n₀<=g->g<W.heap.size->W'.heap[g]?=W.heap[g]?):W'.ownsRow n₀ e k v n xs:=by refine⟨h.1,?_⟩;rcases h.2 with h'|⟨g',cap',cur,h',h1,h2,r⟩;{exact .inl h'};exact .inr ⟨g',cap',cur,h',h1,(hb g' h1 (Array.getElem?_eq_some_iff.1 h2).1).trans h2,r⟩
theorem MU.same{fs:List Ln}{vs:List Lv}(h:MU W n₀ v fs vs)(hb:∀g,n₀<=g->g<W.heap.size->W'.heap[g]?=W.heap[g]?):MU W' n₀ v fs vs:=
 ⟨IY h.1 hb,h.2.1,fun j hj=>by
   obtain⟨t0,t1,t2,t3,t4,t5⟩:=h.2.2.1 j hj
   exact⟨t0,t1,t2,t3,t4,IY t5 hb⟩,h.2.2.2⟩
theorem MU.mono {W:World}{n₀ n₁:Nat}{v:Value}{fs:List Ln}{vs:List Lv}(h:MU W n₁ v fs vs)(hn:n₀<=n₁):MU W n₀ v fs vs:=by refine⟨?_,h.2.1,h.2.2.1.mono hn,h.2.2.2⟩;refine⟨h.1.1,?_⟩;rcases h.1.2 with h'|⟨g',cap',cur,h',hb,r⟩;{exact .inl h'};exact .inr ⟨g',cap',cur,h',fH hn hb,r⟩
theorem MU.ll{fs:List Ln}{vs:List Lv}(h:MU W n₀ (.slice (some ⟨g,0,none⟩) n cap) fs vs)(hn:fs.length=n):LL W (some ⟨g,0,none⟩) n fs:=by have h1:=h.1;have h3:=h.2.2.1;rw[hn]at h1 h3;exact BL h1 hn h3
theorem Xu:Tryz.prog.built 115 []=some ((List.replicate 64 0).map bv).toArray:=by kernel_rfl
theorem qD{a:Act}(hgd:o.guard=none)(ho:o.op= .build 115 #[])(zs:List Value)(hz:(List.replicate 64 0).map bv=zs)(h:wpList Tryz.prog ops Q rest (a.put o.dst (.agg zs.toArray)) w):wpList Tryz.prog ops Q (o::rest) a w:=by refine wpList_plain hgd fun K hK=>?_;have hrun:=run_build (P:=Tryz.prog) w 115 #[] _ Xu;rw[hz]at hrun;unfold Oper.wp execOp;simp only[ho,Sem.run_bind];rw[show(Array.map (fun x:Nat×Operand=>(x.fst,a.eval x.snd)) #[])=#[]from by simp,hrun];simp only[Result.andThen_ok];exact hK _ _ h
theorem LJ (a:Option Addr)(len cap:Nat)(xs:List Int)(w:World)(hs:IL w a len xs):Calls Tryz.prog 65 #[.slice a len cap] w fun e w'=>e= .returned (.tuple #[.agg ((Mm.cells xs).map bv).toArray, .bool (Mm.ok xs)])/\Below w.heap.size w w':=by have HS:=ae hs;have hl:=hs.1;have hmx:=hs.2.1;unfold maxLen at hmx;clear hs;obtain⟨zs,hzs⟩:=aF ((List.replicate 64 (0:Int)).map iv);obtain⟨zb,hzb⟩:=aF ((List.replicate 64 (0:Int)).map bv);have HZ:=Li;have HC:=KW;rw[hzs]at HZ;rw[hzb]at HC;by_cases h64:len=64;{subst h64;have hlz:zb.length=64:=by{rw[←hzb];simp};have ahU:zs.length=64:=by{rw[←hzs];simp};have HL:=ae (ak hl (ak hlz ahU));clear hmx hl hlz ahU;go_enter Tryz.func65,Tryz.ntmps65;go_wp2_with(refine gZ 115 rfl ?_);refine⟨?_⟩;refine eP rfl _ rfl zb 64 HC ?_;intro g1 w1 hg1 hA1 hB1;go_wp2_with(refine gZ 168 rfl ?_);refine⟨?_⟩;refine eP rfl _ rfl zs 64 HZ ?_;intro g2 w2 hg2 hA2 hB2;go_wp2_with(refine Ol _ _ _ _ rfl ?_);refine⟨?_⟩;obtain⟨cs,hcs⟩:=aF (xs.map iv);have hsp:splice zs 0 cs=cs:=by{have e1:=HL.out.1;have e2:=HL.out.2.2;unfold splice;rw[jV,List.nil_append,List.drop_eq_nil_of_le (by rw[e2,←hcs,iG];omega),List.append_nil]};have hBa:=hB1.trans (hB2.mono hB1.size);refine wpList_copy_splice rfl _ _ _ _ rfl 2 Tryz.underlying27 (by kernel_rfl) _ _ _ _ _ _ rfl rfl g2 0 zs 168 hA2 cs (by rw[←hcs,iG,HL.out.1];rfl) (fun _=>⟨rfl,?_⟩) (by rw[←hcs,iG,HL.out.1,HL.out.2.2];omega) (by rw[←hcs];exact jq) g2 w2 (eG _ _) (bI _) ?_;{obtain⟨-,-,h3|⟨b,off,rfl,hb,hx⟩⟩:=HS.out;{omega};refine⟨_,rfl,fun j v hv=>?_⟩;rw[←hcs]at hv;have hj:j<64:=by{have:=(List.getElem?_eq_some_iff.1 hv).1;rwa [iG,HL.out.1]at this};rw[iF (by rw[HL.out.1];exact hj)]at hv;cases hv;(have hadd:(⟨b,off,none⟩:Addr).add j=⟨b,off+j,none⟩:=by unfold Addr.add;split<;>simp_all);rw[hadd];exact(hBa.cell (p:=⟨b,off+j,none⟩) hb).trans (hx j hj)};intro w3 HA3 hB3;rw[hsp]at HA3;have hA3:dG w3 g2 168 cs:=HA3.out;have G7:dG w3 g1 115 zb:=(hB3.block g1 (by have:=hA1.lt;have:=hg2.out;omega)).trans (hA1.kept hB2);have ed:Below w.heap.size w w3:=hBa.trans (hB3.mono (by have:=hg2.out;have:=hB1.size;omega));go_wp2_with(refine gZ 115 rfl ?_);refine⟨?_⟩;refine eP rfl _ rfl zb 64 HC ?_;intro g3 w4 hg3 hA4 hB4;have vw:=hA3.kept hB4;have Z8:=G7.kept hB4;have hBd:=ed.trans (hB4.mono ed.size);go_wp2_with(refine jA 168 _ rfl ?_);refine⟨?_⟩;refine ib rfl _ _ rfl g2 rfl _ cs vw 64 2 Tryz.underlying168 (by rw[←hcs,iG,HL.out.1];exact sW) ?_;have HG:Hid (w.heap.size<=g1/\w.heap.size<=g2/\w.heap.size<=g3/\g1≠g2/\g2≠g3/\g1≠g3):=by{have e1:=hg1.out;have e2:=hg2.out;have e3:=hg3.out;have s1:=hB1.size;have s2:=hB2.size;have s3:=hA1.lt;have s4:=G7.lt;have s5:=hA3.lt;exact⟨by omega,by omega,by omega,by omega,by omega,by omega⟩};have HW:=ae (ak hBd (ak Z8 vw));clear hA1 G7 Z8 hA2 vw hA3 HA3 hB1 hB2 hB3 hB4 hBa ed hBd hg1 hg2 hg3 hsp HC HZ HS;go_wp2;go_loopw [6,7,16,17,18,19,20,21,22,23,24] (fun _ _ i _ _ _ _ _ _ _ _ wr=>∃(k:Nat)(ys:List Int),i= .int .i64 k/\k<=64/\ys.length=64/\(∀j,j<k->ys.getD j 0=(Mm.low xs).getD j 0)/\dG wr g3 115 (ys.map bv)/\dG wr g1 115 zb/\dG wr g2 168 cs/\Below w.heap.size w wr) (fun _ _ i _ _ _ _ _ _ _ _ _=>64-(intOf i).toNat);(case atStart=>exact⟨0,List.replicate 64 0,rfl,by omega,by simp,by simp,by rw[hzb];exact hA4,HW.out.2.1,HW.out.2.2,HW.out.1⟩);case round=>obtain⟨k,ys,rfl,hk,hyl,hys,uA,G7,vw,hB⟩:=hrel;have HY:=ae (ak hyl hys);have HA:=ae (ak G7 vw);clear hA4 vw G7;by_cases hlt:k<64;{have hget:cs[k]?=some (.int .i64 (xs.getD k 0)):=by{rw[←hcs];exact iF (by rw[HL.out.1];exact hlt)};have gI:(k:Int)<64:=by{omega};have hc:=uA.cell (iF (f:=bv) (k:=k) (by omega));have hf:=uA.frozen k;have hset:=uA.set k (bv ((Mm.low xs).getD k 0));rw[←List.map_set]at hset;obtain⟨p,hp⟩:=aF (xs.getD k 0);obtain⟨q,hq⟩:=aF (ys.getD k 0);rw[hp]at hget;rw[hq]at hc;have hp2:(Mm.low xs).getD k 0=p%256:=by{rw[Mm.MS,hp]};rw[hp2]at hset;have HP:=ae hp2;have HS:=ae hset;have HB:=ae hB;clear hyl hys hp hp2 hq hset uA hB;unfold bv at hc;go_wp2_with(refine wH 168 _ _ rfl ?_);refine⟨?_⟩;refine qy rfl _ _ _ rfl cs k rfl rfl 64 2 Tryz.underlying168 hlt (fun _=>Tryz.sizeOf2 _) (fun _=>Tryz.isAgg2 _) _ hget ?_;go_wp2;go_roundw;(case rel=>obtain⟨y1,y2⟩:=Ia (f:=fun j=>(Mm.low xs).getD j 0) HY.out hlt HP.out;obtain⟨-,-,o3,-,o5,o6⟩:=HG.out;exact⟨k+1,ys.set k (p%256),by simp,by omega,y1,y2,HS.out,HA.out.1.dZ (aC _ ⟨g3,k,none⟩ _) (by simpa using o6),HA.out.2.dZ (aC _ ⟨g3,k,none⟩ _) (by simpa using o5),HB.out.setCell (p:=⟨g3,k,none⟩) o3 _⟩);case measure=>simp[intOf];omega};obtain rfl:k=64:=by{omega};have hlo:(Mm.low xs).length=64:=by{rw[Mm.Nk];exact HL.out.1};have e:ys=Mm.low xs:=rJ HY.out hlo;have hbd:=Mm.Qx xs;have heq:=Mm.RH HL.out.1;have hce:Mm.ok xs=true->Mm.cells xs=Mm.low xs:=fun h=>by{rw[Mm.cells,az h,Mm.Q8 h]};have hcn:Mm.ok xs=false->Mm.cells xs=List.replicate 64 0:=fun h=>by{rw[Mm.cells,ax (by rw[h];simp)]};subst e;obtain⟨ls,hls⟩:=aF (Mm.low xs);rw[hls]at uA hlo hbd heq hce;have HB:=ae hB;have HA3:=ae uA;have HE:=ae (ak hlo hbd);have hne:=bK.any wr;clear hyl hys HY hls hB hlo hbd;go_wp2;refine bV (by kernel_rfl) (by kernel_rfl) ?_;refine BigFrame.wpQuiet_want rfl fun K hK=>uM _ _ rfl g3 rfl _ (ls.map bv) (fun _ ⟨px,hpx⟩=>by rw[hpx];exact HA3.out.kept px.h) 64 5 Tryz.underlying115 (by rw[iG,HE.out.1];exact jv) (hK _ ?_);clear hK K;refine BigFrame.wpQuiet_want rfl fun K hK=>I6 100 _ _ rfl _ (.agg (ls.map iv).toArray) rfl (fun w=>by simp) (fun _ ⟨px,hpx⟩=>by rw[hpx];exact bU (IG ls HE.out.1 HE.out.2 px.to)) (hK _ ?_);clear hK K;refine BigFrame.wpQuiet_want rfl fun K hK=>uM _ _ rfl g2 rfl _ cs (fun _ ⟨px,hpx⟩=>by rw[hpx];exact HA.out.2.kept px.h) 64 2 Tryz.underlying168 (by rw[←hcs,iG,HL.out.1];exact sW) (hK _ ?_);clear hK K;refine BigFrame.wpQuiet_want rfl fun K hK=>Lh _ _ _ _ rfl ls xs rfl (by rw[hcs];rfl) 64 2 Tryz.underlying168 Tryz.underlying2 (fun _=>Tryz.sizeOf2 _) HE.out.1 HL.out.1 (by simp) (hK _ ?_);clear hK K;refine nD ?_;rintro _⟨pw,rfl⟩;have dA:=HB.out.trans (pw.h.mono HB.out.size);have hA7:=ak (HA.out.1.kept pw.h) (HA3.out.kept pw.h);generalize pw.to=w7 at*;rw[heq];clear uA hne heq;have HA7:=ae hA7;have HB7:=ae dA;clear hA7 dA HA3;rcases hok:Mm.ok xs;{have HR:Hid ((Mm.cells xs).map bv=zb/\Mm.ok xs=false):=⟨by rw[hcn hok,hzb],hok⟩;have hlz:zb.length=64:=HL.out.2.1;clear hcn hce hok;go_wp2_with(refine og 115 _ rfl ?_);refine⟨?_⟩;refine qD rfl rfl zb hzb ?_;go_wp2_with(refine jw 115 _ _ rfl ?_);refine⟨?_⟩;refine gG rfl _ _ _ rfl g1 zb rfl rfl _ _ HA7.out.1 (by rw[hlz];exact jv) rfl (by rw[←hzb];exact tV) ?_;intro w8 hA8 hg8;have HA8:=ae hA8;go_wp2;refine iw (v:= .tuple #[.agg zb.toArray, .bool false]) ?_ rfl ⟨by rw[HR.out.1,HR.out.2],aG HB7.out hg8 HG.out.1⟩;exact nA rfl _ _ g1 _ zb _ 64 5 rfl rfl HA8.out Tryz.underlying115 (by rw[hlz];exact jv)};have HR:Hid ((Mm.cells xs).map bv=ls.map bv/\Mm.ok xs=true):=⟨by rw[hce hok],hok⟩;have hlz:zb.length=64:=HL.out.2.1;have hll:(ls.map bv).length=64:=by{rw[iG];exact HE.out.1};clear hcn hce hok;go_wp2_with(refine jA 115 _ rfl ?_);refine⟨?_⟩;refine ib rfl _ _ rfl g3 rfl _ _ HA7.out.2 64 5 Tryz.underlying115 (by rw[hll];exact jv) ?_;go_wp2_with(refine jw 115 _ _ rfl ?_);refine⟨?_⟩;refine gG rfl _ _ _ rfl g1 (ls.map bv) rfl rfl _ _ HA7.out.1 (by rw[hll];exact jv) (by rw[hlz,hll]) tV ?_;intro w8 hA8 hg8;have HA8:=ae hA8;go_wp2;refine iw (v:= .tuple #[.agg (ls.map bv).toArray, .bool true]) ?_ rfl ⟨by rw[HR.out.1,HR.out.2],aG HB7.out hg8 HG.out.1⟩;exact nA rfl _ _ g1 _ (ls.map bv) _ 64 5 rfl rfl HA8.out Tryz.underlying115 (by rw[hll];exact jv)};have hno:Mm.ok xs=false:=by{rw[Bool.eq_false_iff];intro h;exact h64 (hl.symm.trans (Mm.fT h))};have hce:(Mm.cells xs).map bv=zb:=by{rw[←hzb,Mm.cells,ax (by rw[hno];simp)]};rw[hce,hno];have al5:¬(len:Int)=64:=by{omega};clear hl hce hno;go_enter Tryz.func65,Tryz.ntmps65;go_wp2_with(refine gZ 115 rfl ?_);refine⟨?_⟩;refine eP rfl _ rfl zb 64 HC ?_;intro g1 w1 hg1 hA1 hB1;go_wp2_with(refine og 115 _ rfl ?_);refine⟨?_⟩;refine qD rfl rfl zb hzb ?_;go_wp2_with(refine jw 115 _ _ rfl ?_);refine⟨?_⟩;have hlz:zb.length=64:=by{rw[←hzb];simp};refine gG rfl _ _ _ rfl g1 zb rfl rfl _ _ hA1 (by rw[hlz];exact jv) rfl (by rw[←hzb];exact tV) ?_;intro w5 WE hg5;have HA5:=ae WE;go_wp2;have o2:w.heap.size<=g1:=by{have:=hg1.out;omega};refine iw (v:= .tuple #[.agg zb.toArray, .bool false]) ?_ rfl ⟨rfl,aG hB1 hg5 o2⟩;exact nA rfl _ _ g1 _ zb _ 64 5 rfl rfl HA5.out Tryz.underlying115 (by rw[hlz];exact jv)
theorem wG (a o:Int)(w:World):Calls Tryz.prog 146 #[.int .i64 a, .int .i64 o] w fun e w'=>e= .returned (.tuple #[.int .i64 (if Mm.there a o=true then a+o else 0), .bool (Mm.there a o)])/\w'=w:=by rcases hok:Wd.ok a;{have hth:Mm.there a o=false:=by{simp[Mm.there,hok]};rw[hth];go_enter Tryz.func146,Tryz.ntmps146;go_wp2_with(go_at_call 101;refine(bE _ _).mono ?_;rintro e w'⟨rfl,dC⟩;subst w';rw[hok]);go_ret2;exact⟨rfl,rfl⟩};have h0:=Wd.aS.1 hok;have ha0:=h0.1;have ha1:=h0.2;clear h0;rcases hin:Wd.dP o 0 255;{have hth:Mm.there a o=false:=by{simp[Mm.there,hin]};rw[hth];go_enter Tryz.func146,Tryz.ntmps146;go_wp2_with(first|(go_at_call 101;refine(bE _ _).mono ?_;rintro e w'⟨rfl,dC⟩;subst w';rw[hok])|(go_at_call 66;refine(bH _ _ _ _).mono ?_;rintro e w'⟨rfl,dC⟩;subst w';rw[hin]));go_ret2;exact⟨rfl,rfl⟩};have h1:=Wd.aZ.1 hin;have ho0:=h1.1;have ho1:=h1.2;clear h1;by_cases hle:a+o<=60;{have hth:Mm.there a o=true:=Mm.iU.2 ⟨ha0,ho0,ho1,hle⟩;rw[hth,az rfl];go_enter Tryz.func146,Tryz.ntmps146;go_wp2_with(first|(go_at_call 101;refine(bE _ _).mono ?_;rintro e w'⟨rfl,dC⟩;subst w';rw[hok])|(go_at_call 66;refine(bH _ _ _ _).mono ?_;rintro e w'⟨rfl,dC⟩;subst w';rw[hin]));go_ret2;exact⟨rfl,rfl⟩};have hth:Mm.there a o=false:=by{rw[Bool.eq_false_iff];intro h;exact hle (Mm.iU.1 h).2.2.2};rw[hth];go_enter Tryz.func146,Tryz.ntmps146;go_wp2_with(first|(go_at_call 101;refine(bE _ _).mono ?_;rintro e w'⟨rfl,dC⟩;subst w';rw[hok])|(go_at_call 66;refine(bH _ _ _ _).mono ?_;rintro e w'⟨rfl,dC⟩;subst w';rw[hin]));go_ret2;exact⟨rfl,rfl⟩
theorem OO (bs:List Int)(hl:bs.length=64)(hb:∀j,0<=bs.getD j 0/\bs.getD j 0<=255)(k:Nat)(hk:k+4<=64)(v:Int)(h0:0<=v)(h1:v<=4294967295)(w:World):Calls Tryz.prog 140 #[.agg (bs.map bv).toArray, .int .i64 k, .int .u32 v] w fun e w'=>e= .returned (.agg ((Mm.iP bs k v 4).map bv).toArray)/\Below w.heap.size w w':=by have HL:=ae hl;obtain⟨cs,hcs⟩:=aF (bs.map bv);obtain⟨zb,hzb⟩:=aF ((List.replicate 64 (0:Int)).map bv);have HC:=KW;rw[hzb]at HC;rw[hcs];clear hl;go_enter Tryz.func140,Tryz.ntmps140;go_wp2_with(refine pJ 115 _ rfl ?_);refine⟨?_⟩;refine kG rfl _ _ rfl cs rfl ?_;intro g1 w1 hg1 hA1 hB1;go_wp2_with(refine gZ 115 rfl ?_);refine⟨?_⟩;refine eP rfl _ rfl zb 64 HC ?_;intro g2 w2 hg2 hA2 hB2;have hBw:=hB1.trans (hB2.mono hB1.size);have HW:=ae (ak hBw (ak (hA1.kept hB2) hA2));have HG:Hid (w.heap.size<=g1/\w.heap.size<=g2/\g1≠g2):=by{have e1:=hg1.out;have e2:=hg2.out;have s1:=hB1.size;have s3:=hA1.lt;exact⟨by omega,by omega,by omega⟩};clear hA1 hA2 hB1 hB2 hBw hg1 hg2 HC;go_wp2;go_loopw [7,8,9,10,11,12,13,14,15,16,17,18,19,20] (fun _ i _ _ _ _ _ _ _ _ _ _ _ _ wr=>∃(j:Nat),i= .int .i64 j/\j<=4/\dG wr g1 115 ((Mm.iP bs k v j).map bv)/\dG wr g2 115 zb/\Below w.heap.size w wr) (fun _ i _ _ _ _ _ _ _ _ _ _ _ _ _=>4-(intOf i).toNat);(case atStart=>exact⟨0,rfl,by omega,by rw[Mm.iP,hcs];exact HW.out.2.1,HW.out.2.2,HW.out.1⟩);case round=>obtain⟨j,rfl,hj,hA1,hA2,hB⟩:=hrel;have HA:=ae (ak hA2 hB);by_cases hlt:j<4;{have gI:(j:Int)<4:=by{omega};have hkj:k+j<64:=by{omega};have hc:=hA1.cell (iF (f:=bv) (k:=k+j) (by rw[Mm.lU,HL.out];exact hkj));have hf:=hA1.frozen (k+j);have hset:=hA1.set (k+j) (bv (v / 256 ^ j%256));rw[←List.map_set,←Mm.iP]at hset;obtain⟨q,hq⟩:=aF ((Mm.iP bs k v j).getD (k+j) 0);rw[hq]at hc;have HS:=ae hset;clear hq hset hA1 hA2 hB hb;unfold bv at hc;obtain rfl|rfl|rfl|rfl:j=0\/j=1\/j=2\/j=3:=by{omega};{rw[Nat.add_zero]at hc hf;go_wp2;have e:=HS.out;rw[Nat.add_zero,show v / 256 ^ 0%256=v%256 by simp]at e;exact⟨⟨1,rfl,by omega,e,HA.out.1.dZ (aC _ ⟨g1,k,none⟩ _) (by simpa using Ne.symm HG.out.2.2),HA.out.2.setCell (p:=⟨g1,k,none⟩) HG.out.1 _⟩,by simp[intOf]⟩};{go_wp2;have e:=HS.out;rw[show(256:Int) ^ 1=256 from rfl]at e;exact⟨⟨2,rfl,by omega,e,HA.out.1.dZ (aC _ ⟨g1,k+1,none⟩ _) (by simpa using Ne.symm HG.out.2.2),HA.out.2.setCell (p:=⟨g1,k+1,none⟩) HG.out.1 _⟩,by simp[intOf]⟩};{go_wp2;have e:=HS.out;rw[show(256:Int) ^ 2=65536 from rfl]at e;exact⟨⟨3,rfl,by omega,e,HA.out.1.dZ (aC _ ⟨g1,k+2,none⟩ _) (by simpa using Ne.symm HG.out.2.2),HA.out.2.setCell (p:=⟨g1,k+2,none⟩) HG.out.1 _⟩,by simp[intOf]⟩};go_wp2;have e:=HS.out;rw[show(256:Int) ^ 3=16777216 from rfl,show v / 16777216%256=v / 16777216 by omega]at e;exact⟨⟨4,rfl,by omega,e,HA.out.1.dZ (aC _ ⟨g1,k+3,none⟩ _) (by simpa using Ne.symm HG.out.2.2),HA.out.2.setCell (p:=⟨g1,k+3,none⟩) HG.out.1 _⟩,by simp[intOf]⟩};obtain rfl:j=4:=by{omega};have hll:((Mm.iP bs k v 4).map bv).length=64:=by{rw[iG,Mm.lU];exact HL.out};have hlz:zb.length=64:=by{rw[←hzb];simp};obtain⟨ys,hys⟩:=aF ((Mm.iP bs k v 4).map bv);have HY:=ae hys;have hone:∀x∈ys,x.oneCell'=true:=by{rw[←hys];exact tV};rw[hys]at hll hA1;clear hys hb hB;go_wp2_with(refine jA 115 _ rfl ?_);refine⟨?_⟩;refine ib rfl _ _ rfl g1 rfl _ _ hA1 64 5 Tryz.underlying115 (by rw[hll];exact jv) ?_;go_wp2_with(refine jw 115 _ _ rfl ?_);refine⟨?_⟩;refine gG rfl _ _ _ rfl g2 ys rfl rfl _ _ hA2 (by rw[hll];exact jv) (by rw[hll,hlz]) hone ?_;intro w5 WE hg5;have HA5:=ae WE;go_wp2;refine iw (v:= .agg ys.toArray) ?_ rfl ⟨by rw[HY.out],aG HA.out.2 hg5 HG.out.2.1⟩;exact results_cell_row rfl _ _ g2 _ _ _ _ rfl HA5.out Tryz.underlying115 rfl (by rw[List.size_toArray,hll];exact jv)
theorem Db {x q:Int}(i:Nat)(hi:i<=24)(h0:0<=x)(h1:x<2 ^ i)(h2:0<=q)(h3:q<=255):bits .or .u32 x (q*2 ^ i)=x+q*2 ^ i:=by obtain⟨n,rfl⟩:=Cj h0;obtain⟨m,rfl⟩:=Cj h2;have hn:n<2 ^ i:=by{have:((n:Int))<((2 ^ i:Nat):Int):=by{push_cast;exact h1};exact_mod_cast this};have hm:m<=255:=by{omega};have hp:2 ^ i<=2 ^ 24:=Nat.pow_le_pow_right (by omega) hi;have hmi:m*2 ^ i<=255*2 ^ 24:=Nat.mul_le_mul hm hp;have h:=(bits_nat .u32 32 (by decide) Wd.vK n (m*2 ^ i) (by omega) (by omega)).2;have e:((m*2 ^ i:Nat):Int)=(m:Int)*2 ^ i:=by{push_cast;rfl};rw[e]at h;rw[h,Nat.mul_comm,Nat.or_comm,←Nat.two_pow_add_eq_or_of_lt hn m];push_cast;rw[Int.mul_comm,Int.add_comm]
theorem Ow (bs:List Int)(hl:bs.length=64)(hb:∀j,0<=bs.getD j 0/\bs.getD j 0<=255)(k:Nat)(hk:k+4<=64)(w:World):Calls Tryz.prog 138 #[.agg (bs.map bv).toArray, .int .i64 k] w fun e w'=>e= .returned (.int .u32 (Mm.jX bs k 4))/\Below w.heap.size w w':=by have HL:=ae hl;obtain⟨cs,hcs⟩:=aF (bs.map bv);have hbd:=Mm.vI hb k;rw[hcs];clear hl;go_enter Tryz.func138,Tryz.ntmps138;go_wp2_with(refine pJ 115 _ rfl ?_);refine⟨?_⟩;refine kG rfl _ _ rfl cs rfl ?_;intro g1 w1 hg1 hA1 hB1;have HW:=ae (ak hB1 hA1);clear hA1 hB1 hg1;go_wp2;go_loop [5,6,7,8,9,10,11,12,13,14,15,16,17,18,19,20,21] (fun x _ i _ _ _ _ _ _ _ _ _ _ _ _ _ _=>∃(j:Nat),i= .int .i64 j/\j<=4/\x= .int .u32 (Mm.jX bs k j)) (fun _ _ i _ _ _ _ _ _ _ _ _ _ _ _ _ _=>4-(intOf i).toNat);(case atStart=>exact⟨0,rfl,by omega,rfl⟩);case round=>obtain⟨j,rfl,hj,rfl⟩:=hrel;by_cases hlt:j<4;{have gI:(j:Int)<4:=by{omega};have hkj:k+j<64:=by{omega};have hc:=HW.out.2.cell (hcs▸iF (f:=bv) (bs:=bs) (k:=k+j) (by rw[HL.out];exact hkj));have hp0:=(hb (k+j)).1;have hp1:=(hb (k+j)).2;have hx0:=(hbd j).1;have hx1:=(hbd j).2;have hN:Mm.jX bs k (j+1)=Mm.jX bs k j+bs.getD (k+j) 0*256 ^ j:=rfl;obtain⟨q,hq⟩:=aF (bs.getD (k+j) 0);obtain⟨x,hx⟩:=aF (Mm.jX bs k j);rw[hq]at hc hp0 hp1 hN;rw[hx]at hx0 hx1 hN ⊢;have HN:=ae hN;clear hq hx hN hb hbd;unfold bv at hc;obtain rfl|rfl|rfl|rfl:j=0\/j=1\/j=2\/j=3:=by{omega};{rw[Nat.add_zero]at hc;rw[show(256:Int) ^ 0=1 from rfl]at hx1;go_wp2;have e:=Db 0 (by omega) hx0 hx1 hp0 hp1;have e2:=HN.out;rw[show(2:Int) ^ 0=1 from rfl,Int.mul_one]at e;rw[show(256:Int) ^ 0=1 from rfl,Int.mul_one]at e2;exact⟨⟨1,rfl,by omega,by rw[e];exact congrArg _ e2.symm⟩,by simp[intOf]⟩};{rw[show(256:Int) ^ 1=256 from rfl]at hx1;go_wp2;have e:=Db 8 (by omega) hx0 hx1 hp0 hp1;have e2:=HN.out;rw[show(2:Int) ^ 8=256 from rfl]at e;rw[show(256:Int) ^ 1=256 from rfl]at e2;exact⟨⟨2,rfl,by omega,by rw[e];exact congrArg _ e2.symm⟩,by simp[intOf]⟩};{rw[show(256:Int) ^ 2=65536 from rfl]at hx1;go_wp2;have e:=Db 16 (by omega) hx0 hx1 hp0 hp1;have e2:=HN.out;rw[show(2:Int) ^ 16=65536 from rfl]at e;rw[show(256:Int) ^ 2=65536 from rfl]at e2;exact⟨⟨3,rfl,by omega,by rw[e];exact congrArg _ e2.symm⟩,by simp[intOf]⟩};rw[show(256:Int) ^ 3=16777216 from rfl]at hx1;go_wp2;have e:=Db 24 (by omega) hx0 hx1 hp0 hp1;have e2:=HN.out;rw[show(2:Int) ^ 24=16777216 from rfl]at e;rw[show(256:Int) ^ 3=16777216 from rfl]at e2;exact⟨⟨4,rfl,by omega,by rw[e];exact congrArg _ e2.symm⟩,by simp[intOf]⟩};obtain rfl:j=4:=by{omega};clear hb hbd;go_wp2;go_ret;exact⟨rfl,HW.out.1⟩
end Go.Proofs.YthkjdjmjdlimnaaGreat
