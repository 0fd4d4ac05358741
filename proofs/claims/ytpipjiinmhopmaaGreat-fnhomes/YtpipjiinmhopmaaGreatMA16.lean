/-
  Own texts for a law: Low6 Low7 Gen11 Gen12
-/
import Derived.Test.YtpipjiinmhopmaaGreatMA15
namespace Go.Proofs.YtpipjiinmhopmaaGreat
open Go.RowKit Go.Shelf
set_option linter.all false
set_option maxRecDepth 100000
set_option maxHeartbeats 16000000
theorem Lw.IM {c:LX}{W0:World}(T:TX c W0){aH:Nat}(hat:aH<c.f.b.length)(h:aG.op c.f.b aH=16):0<=Hg.arg c.f.b aH:=by have hok:St.ok (aG.op c.f.b aH) (Hg.arg c.f.b aH)=true:=St.aU T.all hat;simp only[St.ok,au,Wd.bJ]at hok;have h1:St.least (aG.op c.f.b aH)=0:=by{rw[h];rfl};omega
def Lw.ig (t n:Int)(k:Nat):List Int:=(List.range k).map fun(i:Nat)=>t-n+1+(i:Int)
theorem Lw.Bh (t n:Int)(k:Nat):Lw.ig t n (k+1)=Lw.ig t n k++[t-n+1+(k:Int)]:=by unfold Lw.ig;rw[List.range_succ,List.map_append];rfl
theorem PY {W:World}{a:Option Addr}{n k:Nat}{fs:List Fn}(h:FL W a n fs)(hk:k<n):∃b off,a=some ⟨b,off,none⟩/\b<W.heap.size/\∃ba bl bc,W.cell? ⟨b,off+k*4,none⟩=some (.int .i64 (fs.getD k .z).a)/\W.cell? ⟨b,off+k*4+1,none⟩=some (.int .i64 (fs.getD k .z).l)/\W.cell? ⟨b,off+k*4+2,none⟩=some (.int .i64 (fs.getD k .z).g)/\W.cell? ⟨b,off+k*4+3,none⟩=some (.slice ba bl bc):=by obtain⟨hl,hm,h0|⟨b,off,e,hb,hx⟩⟩:=h;{omega};obtain⟨x0,x1,x2,ba,bl,bc,x3,-⟩:=hx k hk;exact⟨b,off,e,hb,ba,bl,bc,x0,x1,x2,x3⟩
theorem Tp {c:LX} {W0 W:World} {v vg:Value} {out:List (Ln×Int)} {P:Nat->Prop} (T:TX c W0) (K:MK c W0 W v vg out P) (fa:Option Addr) (fl fc:Nat) (d:ByteArray) (oa:Option Addr) (oc:Nat) (hF:FL W0 fa fl c.fs) (hO:IL W0 oa c.f.b.length c.O) (aH:Nat) (hat:aH<c.f.b.length) (hr:0<=c.H.getD aH 0) (hlen:out.length<=900) (p:Int) (hp:aG.op c.f.b aH=p) (hk:Hid (p=16)):Calls Tryz.prog 120 #[.pointer (some ⟨c.B,0,none⟩), .agg #[.slice fa fl fc, .string d], .slice oa c.f.b.length oc, .int .i64 aH] W fun e w'=>∃v' nR,e= .returned (.tuple #[])/\MK c W0 w' v' nR (out++Lw.step c.fs c.f c.E c.O c.H aH) (fun g=>P g\/W.heap.size<=g)/\FX c v vg v' nR W w':=by
 have hty:=T.acc.typ aH hat hr
 obtain⟨hH,hE,hS⟩:=T.il K
 have Ki:=hO.kept K.eZ
 have hF1:=hF.kept K.eZ
 have hLen:=T.ok.2.2.2.2.2
 have htop:=T.acc.iI aH hat
 have hW:=T.lt
 have hwd:0<=Lw.wd c.f/\Lw.wd c.f<=6:=by have:=T.ok;unfold Lw.wd;omega
 have HST:Hid (Lw.step c.fs c.f c.E c.O c.H aH=Lw.iL c.fs c.f c.E c.O c.H aH p (Hg.arg c.f.b aH) (Lw.bx c.f (c.H.getD aH 0-1))):=by show _=_;unfold Lw.step;rw[hp]
 have hbx0:=K.box
 unfold LX.eF at hbx0
 obtain⟨bl,hbl⟩:∃n,c.f.b.length=n:=⟨_,rfl⟩
 rw[hbl]at hH hE hS Ki hLen hat hbx0 ⊢
 have Yb:(aH:Int)<(bl:Int):=by omega
 have cS:∃b o,c.ba=some ⟨b,o,none⟩/\b<W.heap.size/\W.cell? ⟨b,o+aH*2,none⟩=some (.int .i64 (aG.op c.f.b aH))/\W.cell? ⟨b,o+aH*2+1,none⟩=some (.int .i64 (Hg.arg c.f.b aH)):=by obtain⟨hl,-,h3|⟨b,o,e,hb,hh⟩⟩:=hS;{omega};exact⟨b,o,e,hb,(hh aH hat).1,(hh aH hat).2⟩
 obtain⟨sb,so,es,lS,GV,cS2⟩:=cS
 have cH:∃b o,c.ha=some ⟨b,o,none⟩/\b<W.heap.size/\W.cell? ⟨b,o+aH,none⟩=some (.int .i64 (c.H.getD aH 0)):=by obtain⟨hl,-,h3|⟨b,o,e,hb,hh⟩⟩:=hH;{omega};exact⟨b,o,e,hb,hh aH hat⟩
 obtain⟨hb',ho',eh,lH,cH⟩:=cH
 have cE:∃b o,c.ea=some ⟨b,o,none⟩/\b<W.heap.size/\W.cell? ⟨b,o+aH,none⟩=some (.int .i64 (aG.aW c.E aH)):=by obtain⟨hl,-,h3|⟨b,o,e,hb,hh⟩⟩:=hE;{omega};refine⟨b,o,e,hb,?_⟩;rw[hh aH hat];unfold aG.aW;rw[ah,ah,ai (by omega)];rfl
 obtain⟨eb,eo,ee,lE,cE⟩:=cE
 have cO:∃b o,oa=some ⟨b,o,none⟩/\b<W.heap.size/\W.cell? ⟨b,o+aH,none⟩=some (.int .i64 (aG.aW c.O aH)):=by obtain⟨hl,-,h3|⟨b,o,e,hb,hh⟩⟩:=Ki;{omega};refine⟨b,o,e,hb,?_⟩;rw[hh aH hat];unfold aG.aW;rw[ah,ah,ai (by omega)];rfl
 obtain⟨ob,oo,rfl,lO,cO⟩:=cO
 rw[hp]at GV
 obtain⟨q,hq⟩:∃q,Hg.arg c.f.b aH=q:=⟨_,rfl⟩
 obtain⟨u,hu⟩:∃u,c.H.getD aH 0=u:=⟨_,rfl⟩
 rw[hq]at cS2 HST
 rw[hu]at cH htop hr HST
 have d2:=(hbx0.2 2 _ rfl).1
 have d3:=(hbx0.2 3 _ rfl).1
 have d4:=(hbx0.2 4 _ rfl).1
 have d5:=(hbx0.2 5 _ rfl).1
 have Kh:=hbx0.1
 rw[eh]at d3
 rw[ee]at d4
 rw[es]at d5
 have hB1:=aA W (.cells #[.slice fa fl fc, .string d] 97)
 have hA1:gP (W.alloc (.cells #[.slice fa fl fc, .string d] 97)) W.heap.size 97 [.slice fa fl fc, .string d]:=heap_alloc_last W _
 obtain⟨W1,hW1⟩:∃X,W.alloc (.cells #[.slice fa fl fc, .string d] 97)=X:=⟨_,rfl⟩
 rw[hW1]at hB1 hA1
 have hB2:=aA W1 (.cells #[.int .i64 (p), .int .i64 q] 141)
 have hA2:gP (W1.alloc (.cells #[.int .i64 (p), .int .i64 q] 141)) W1.heap.size 141 [.int .i64 (p), .int .i64 q]:=heap_alloc_last W1 _
 obtain⟨W2,hW2⟩:∃X,W1.alloc (.cells #[.int .i64 (p), .int .i64 q] 141)=X:=⟨_,rfl⟩
 rw[hW2]at hB2 hA2
 have hB:=hB1.trans (hB2.mono hB1.size)
 have K2:=K.kept hB
 have rF:=hA1.kept hB2
 have hcon:=jo T K2 (u-1) (by omega) (by omega)
 have Yc:-1<=Lw.bx c.f (u-1)/\Lw.bx c.f (u-1)<=26:=by unfold Lw.bx;omega
 obtain⟨tt,Cf⟩:∃tt,Lw.bx c.f (u-1)=tt:=⟨_,rfl⟩
 rw[Cf]at hcon Yc HST
 have c3:=aP hB1 d3
 have k3:=aP hB d3
 have k4:=aP hB d4
 have c5:=aP hB1 d5
 have c6:=aP hB1 GV
 have c7:=aP hB1 cS2
 have c8:=aP hB cH
 have vO:=aP hB cE
 have vP:=aP hB cO
 have k2:=aP hB d2
 have s0:=hA2.cell (j:=0) rfl
 have s1:=hA2.cell (j:=1) rfl
 have m0:=rF.cell (j:=0) rfl
 have F0:FX c v vg v vg W W2:=FX.below hB
 have hF2:=hF1.kept hB
 have HQ:=ae (ak hp (ak hq (ak hbl (ak hu hty))))
 clear hH hE hS hO Ki hF hF1 d2 d3 d4 d5 GV cS2 cH cE cO hbx0 hA1 hB1 hB2 K hu Cf hp hq hbl
 go_enter Tryz.func120,Tryz.ntmps120
 go_wp2_with fail
 refine hcon.mono ?_
 rintro e w3 ⟨rfl,bq⟩
 subst w3
 dsimp only
 clear hcon
 obtain rfl:=hk.out
 have hq0:0<=q:=by have:=Lw.IM T (aH:=aH) (by rw[HQ.out.2.2.1];exact hat) HQ.out.1;rw[HQ.out.2.1]at this;exact this
 have hq1:q<c.fs.length:=by have:=HQ.out.2.2.2.2.call HQ.out.1;rw[HQ.out.2.1]at this;exact this
 have hfl:c.fs.length=fl:=hF2.1
 obtain⟨qn,rfl⟩:=Int.eq_ofNat_of_zero_le hq0
 have hqn:qn<fl:=by omega
 have hqZ:(qn:Int)<(fl:Int):=by omega
 obtain⟨fb,fo,rfl,lF,ZV,ZW,ZX,y0,y1,y2,y3⟩:=PY hF2 hqn
 have Kj:=Mn.NH T.val (k:=qn) (by omega)
 have aj1:fl<=4:=by have:=T.val.len.2;omega
 unfold Mn.fn at Kj
 obtain⟨G,hG⟩:∃G,c.fs.getD qn .z=G:=⟨_,rfl⟩
 rw[hG]at Kj y0 y1 y2
 replace HST:Hid (Lw.step c.fs c.f c.E c.O c.H aH=[(⟨7,if G.g=1 then tt-G.a+1 else Lw.wd c.f+20,0,0,qn,Lw.args tt G.a⟩,-1)]):=by show _=_;rw[HST.out];show[((⟨7,if(c.fs.getD (qn:Int).toNat .z).g=1 then _ else _,0,0,_,Lw.args tt (c.fs.getD (qn:Int).toNat .z).a⟩:Ln),(-1:Int))]=_;rw[az,hG]
 obtain⟨ga,hga⟩:∃ga:Nat,G.a=(ga:Int):=Int.eq_ofNat_of_zero_le Kj.1
 have aj2:ga<=3:=by omega
 obtain⟨gg,hgg⟩:∃gg,G.g=gg:=⟨_,rfl⟩
 have M5:gg=0\/gg=1:=by rw[←hgg];exact Kj.2.2.2.2.1
 obtain⟨gl,hgl⟩:∃gl,G.l=gl:=⟨_,rfl⟩
 have HAR:Hid (Lw.args tt G.a=Lw.ig tt ga ga):=by show _=_;rw[hga];rfl
 rw[hga]at y0 HST HAR
 rw[hgg]at y2 HST
 rw[hgl]at y1
 obtain⟨QY,Ye⟩:∃QY,Lw.wd c.f=QY:=⟨_,rfl⟩
 rw[Ye]at k2 hwd HST
 have hBG:=aA W2 (.cells #[.int .i64 (ga:Int), .int .i64 gl, .int .i64 gg, .slice ZV ZW ZX] 134)
 have hAG:gP (W2.alloc (.cells #[.int .i64 (ga:Int), .int .i64 gl, .int .i64 gg, .slice ZV ZW ZX] 134)) W2.heap.size 134 [.int .i64 (ga:Int), .int .i64 gl, .int .i64 gg, .slice ZV ZW ZX]:=heap_alloc_last W2 _
 obtain⟨W3,hW3⟩:∃X,W2.alloc (.cells #[.int .i64 (ga:Int), .int .i64 gl, .int .i64 gg, .slice ZV ZW ZX] 134)=X:=⟨_,rfl⟩
 rw[hW3]at hBG hAG
 have j2:=aP hBG k2
 have t1:=aP hBG s1
 have hlB:c.B<W3.heap.size:=aj K2.sz hBG.size
 have hlS:=(hA2.kept hBG).lt
 have HKK:=ae (ak (K2.kept hBG) (ak (F0.trans (FX.below (c:=c) (v:=v) (vg:=vg) hBG)) hAG))
 clear c3 k3 k4 c5 c6 c7 c8 vO vP rF hW1 hW2 hty hF2 hG hga hgg hgl Ye Kj hfl K2 F0 hB hA2
 go_wp2
 go_region
 all_goals
  clear j2 t1 y0 y1 y2 y3 k2 s0 s1 m0
  have QZ:=aA W3 (.cells #[.int .i64 7, .int .i64 (QY+20), .int .i64 0, .int .i64 0, .int .i64 qn, .slice none 0 0] 67)
  have hBL:=QZ.trans ((Below.refl _ _).drew.mono QZ.size)
  have hAL:gP (W3.alloc (.cells #[.int .i64 7, .int .i64 (QY+20), .int .i64 0, .int .i64 0, .int .i64 qn, .slice none 0 0] 67)).drew W3.heap.size 67 [.int .i64 7, .int .i64 (QY+20), .int .i64 0, .int .i64 0, .int .i64 qn, .slice none 0 0]:=heap_alloc_last W3 _
  obtain⟨i0,hi,hz0,hz1,hz2⟩:=info_parts cz
  have HS:=ae (ak hAL hBL)
  clear QZ hAL hBL hW3
  go_wp2
  go_loopw [20] (fun vi wr=>∃(k:Nat)(lv:Value),vi= .int .i64 k/\k<=ga/\gP wr W3.heap.size 67 [.int .i64 7, .int .i64 (QY+20), .int .i64 0, .int .i64 0, .int .i64 qn,lv]/\OI wr (W3.heap.size+1) lv (Lw.ig tt ga k)/\Below W3.heap.size W3 wr) (fun i _=>ga-(intOf i).toNat)
  case atStart=>exact⟨0,_,rfl,Nat.zero_le _,HS.out.1,OI.nil _ _,HS.out.2⟩
  case round=>
   obtain⟨k,lv,rfl,hk,hAr,hol,hBr⟩:=hrel
   clear HS
   have ZY:=HKK.out.2.2.kept hBr
   have g0:=ZY.cell (j:=0) rfl
   have g2:=ZY.cell (j:=2) rfl
   have hll:(Lw.ig tt ga k).length=k:=by unfold Lw.ig;simp
   have GX:wr.ownsRow (W3.heap.size+1) 2 1 lv k ((Lw.ig tt ga k).map iv):=by unfold OI at hol;rwa [hll]at hol
   obtain⟨la,lc,rfl⟩:=dw GX
   have GY:∀g,(Value.slice la k lc).ownBlock=some g->W3.heap.size+1<=g:=fun g hg=>(bX GX hg).1
   have a5:=hAr.cell (j:=5) rfl
   have al:=hAr.lt
   by_cases hlt:k<ga
   · have bN:(k:Int)<(ga:Int):=by{omega};obtain⟨y,hy⟩:∃y,tt-(ga:Int)+1+(k:Int)=y:=⟨_,rfl⟩;have HY:=ae hy;clear hy;have pM:=aA wr (.cells #[.int .i64 (tt-(ga:Int)+1+(k:Int))] 2);have HO:=ae (aI GX pM);have HA:=ae (hAr.kept pM);have HBr:=ae (hBr.trans (pM.mono hBr.size));have aeY:=hBr.size;clear pM hol GX hAr hBr ZY hll;go_wp2_with(at_builtin;refine wpList_append_own _ rfl _ _ 26 rfl (W3.heap.size+1) 2 i0 (.int .i64 0) 1 8 Tryz.underlying26 hi hz0 hz1 hz2 rfl (by decide) (.slice la k lc) k _ rfl HO.out ⟨wr.heap.size,0,none⟩ 1 1 [.int .i64 (tt-(ga:Int)+1+(k:Int))] rfl rfl (cell_one_new _ _ _) (by simp[Value.oneCell']) (by simp only[maxLen];omega) (by omega) (by simp;omega) ?_;intro v2 wB hown2 hgrow2 _;obtain⟨g2',cap2,rfl⟩:=ownsRow_succ hown2;have hA3:=HA.out.bT hgrow2 (fun e=>by have:=GY W3.heap.size e.symm;omega);have b5:=hA3.cell (j:=5) rfl;have f5:=hA3.frozen 5;have l5:=hA3.lt;have kR:=ae (ak hown2 (ak hgrow2 hA3));clear hown2 hgrow2 hA3);go_roundw;(case rel=>obtain⟨o1,o2,o3⟩:=kR.out;have gs:=aB wB ⟨W3.heap.size,5,none⟩ (.slice (some ⟨g2',0,none⟩) (k+1) cap2);refine⟨k+1,_,by simp,hlt,o3.set 5 _,?_,?_⟩;{show World.ownsRow _ _ _ _ _ _ _;rw[Lw.Bh,List.map_append,List.length_append,List.length_singleton,show(Lw.ig tt ga k).length=k by unfold Lw.ig;simp];exact cZ o1 gs (fun g e=>by have:=(bX o1 e).1;simp only[ne_eq,af];omega)};exact dG (dG HBr.out o2 (fun g e=>by have:=GY g e;omega)) gs (fun g e=>by cases e;exact Nat.le_refl _));case measure=>simp[intOf];omega
   · have hke:k=ga:=by omega
     subst hke
     have bN:¬(k:Int)<(k:Int):=by omega
     have HX:=ae (ak (HKK.out.1.kept hBr) (HKK.out.2.1.trans (FX.below (c:=c) (v:=v) (vg:=vg) hBr)))
     have HBr:=ae hBr
     have ZZ:=ae GX
     have HAr:=ae hAr
     have a0:=hAr.cell (j:=0) rfl
     have a1:=hAr.cell (j:=1) rfl
     have a2:=hAr.cell (j:=2) rfl
     have a3:=hAr.cell (j:=3) rfl
     have a4:=hAr.cell (j:=4) rfl
     have q1:=hAr.frozen 1
     have hKs:=HKK.out.1.Cb
     have Yf:∀g,vg.ownBlock=some g->g<W3.heap.size:=fun g e=>(bX hKs e).2
     have hB3:c.B+1<=W3.heap.size:=HKK.out.1.sz
     have hWW:=HKK.out.2.1.size
     clear hol GX hAr hBr ZY hKs
     rcases M5 with rfl|rfl
     · have hadd:=aL c W0 wr v vg out (fun g=>P g\/W.heap.size<=g) hW (HX.out.1.fG (fun g h=> .inl h)) ⟨7,QY+20,0,0,qn,Lw.ig tt k k⟩ la k lc (by
        show World.ownsRow _ _ _ _ _ _ _
        rw[hll]
        refine⟨ZZ.out.1,?_⟩
        rcases ZZ.out.2 with h'|⟨g',cap',cur,h',hb,r⟩
        · exact .inl h'
        · exact .inr ⟨g',cap',cur,h',by omega,r⟩) (fun g e=>⟨fun e2=>by have:=GY g e;have:=Yf g e2;omega, .inr (by have:=GY g e;omega)⟩) (-1) (by omega)
       go_wp2_with fail
       refine hadd.mono ?_
       rintro e X1 ⟨v1,ja,rfl,K1,F1⟩
       dsimp only
       have G1:=HX.out.2.trans F1
       clear hadd a0 a1 a2 a3 a4 a5 g0 g2
       go_wp2
       (try simp only[Exit.inBlock,Exit.then])
       refine bodyPost_end (results_none rfl _ _ _) rfl ⟨v1,ja,rfl,?_,G1⟩
       rw[HST.out,HAR.out]
       exact K1
     · have gs:=aB wr ⟨W3.heap.size,1,none⟩ (.int .i64 (tt-(k:Int)+1))
       have hAs:=HAr.out.set 1 (.int .i64 (tt-(k:Int)+1))
       have hBs:=dG HBr.out gs (fun g e=>by cases e;exact Nat.le_refl _)
       have hos:=cZ ZZ.out gs (fun g e=>by have:=(bX ZZ.out e).1;simp only[ne_eq,af];omega)
       obtain⟨ws,hws⟩:∃ws,wr.setCell ⟨W3.heap.size,1,none⟩ (.int .i64 (tt-(k:Int)+1))=ws:=⟨_,rfl⟩
       rw[hws]at hAs hBs hos
       have b0:=hAs.cell (j:=0) rfl
       have b1:=hAs.cell (j:=1) rfl
       have b2:=hAs.cell (j:=2) rfl
       have b3:=hAs.cell (j:=3) rfl
       have b4:=hAs.cell (j:=4) rfl
       have b5:=hAs.cell (j:=5) rfl
       have hKx:=HKK.out.1.kept hBs
       have hFx:=HKK.out.2.1.trans (FX.below (c:=c) (v:=v) (vg:=vg) hBs)
       have hadd:=aL c W0 ws v vg out (fun g=>P g\/W.heap.size<=g) hW (hKx.fG (fun g h=> .inl h)) ⟨7,tt-(k:Int)+1,0,0,qn,Lw.ig tt k k⟩ la k lc (by
        show World.ownsRow _ _ _ _ _ _ _
        rw[hll]
        refine⟨hos.1,?_⟩
        rcases hos.2 with h'|⟨g',cap',cur,h',hb,r⟩
        · exact .inl h'
        · exact .inr ⟨g',cap',cur,h',by omega,r⟩) (fun g e=>⟨fun e2=>by have:=GY g e;have:=Yf g e2;omega, .inr (by have:=GY g e;omega)⟩) (-1) (by omega)
       go_wp2_with fail
       refine hadd.mono ?_
       rintro e X1 ⟨v1,ja,rfl,K1,F1⟩
       dsimp only
       have G1:=hFx.trans F1
       clear hadd a0 a1 a2 a3 a4 a5 g0 g2 b0 b1 b2 b3 b4 b5 hws
       go_wp2
       (try simp only[Exit.inBlock,Exit.then])
       refine bodyPost_end (results_none rfl _ _ _) rfl ⟨v1,ja,rfl,?_,G1⟩
       rw[HST.out,HAR.out]
       exact K1
theorem yx {c:LX}{W0 W:World}{v vg:Value}{out:List (Ln×Int)}{P:Nat->Prop}(T:TX c W0)(K:MK c W0 W v vg out P)(fa:Option Addr)(fl fc:Nat)(d:ByteArray)(oa:Option Addr)(oc:Nat)(hF:FL W0 fa fl c.fs)(hO:IL W0 oa c.f.b.length c.O)(aH:Nat)(hat:aH<c.f.b.length)(hr:0<=c.H.getD aH 0)(hlen:out.length<=900):Calls Tryz.prog 120 #[.pointer (some ⟨c.B,0,none⟩), .agg #[.slice fa fl fc, .string d], .slice oa c.f.b.length oc, .int .i64 aH] W fun e w'=>∃v' nR,e= .returned (.tuple #[])/\MK c W0 w' v' nR (out++Lw.step c.fs c.f c.E c.O c.H aH) (fun g=>P g\/W.heap.size<=g)/\FX c v vg v' nR W w':=by have hok:St.ok (aG.op c.f.b aH) (Hg.arg c.f.b aH)=true:=St.aU T.all hat;simp only[St.ok,au,Wd.bJ]at hok;obtain⟨p,hp⟩:∃p,aG.op c.f.b aH=p:=⟨_,rfl⟩;rw[hp]at hok;have h3:(p=7\/p=8\/p=9\/p=12\/p=20\/p=1\/p=2\/p=3\/p=4\/p=5\/p=6\/p=17\/p=18\/p=19)\/(p=10\/p=11\/p=13\/p=15\/p=14)\/p=16:=by{omega};rcases h3 with h|h|h;{exact TH T K fa fl fc d oa oc hF hO aH hat hr hlen p hp h};{exact SQ T K fa fl fc d oa oc hF hO aH hat hr hlen p hp h};exact Tp T K fa fl fc d oa oc hF hO aH hat hr hlen p hp h
namespace Lw
open Hg (arg)
theorem Aq {fs:List Fn}{f:Fn}{E O H:List Int}(hA:Hg.Acc fs f E O H){n:Nat}(hn:n<f.b.length)(dp:Int):0<=(eG f E H n dp).1/\(eG f E H n dp).1<f.b.length:=by by_cases hlt:dp.toNat<(aG.dA f.b E n n).length;{obtain⟨t,et,htl,ZL,-⟩:=aG.EH hA.XQ rfl hlt;rw[yA hlt (t:=t) et];have f3:=hA.XQ.f3 t (by omega) (by omega);split;{exact⟨by simp only;omega,by simp only;omega⟩};split;{exact⟨by simp only;omega,by simp only;omega⟩};exact⟨by simp only;omega,by simp only;omega⟩};rw[EN hlt];have:=hA.pos;exact⟨by simp only;omega,by simp only;omega⟩
theorem Fx {fs:List Fn}{f:Fn}{E O H:List Int}(hA:Hg.Acc fs f E O H){n:Nat}(hn:n<f.b.length)(hr:0<=H.getD n 0):∀x∈step fs f E O H n,-1<=x.2/\x.2<f.b.length:=by have hty:=hA.typ n hn hr;have hpos:=hA.pos;have one:∀(l:Ln)(x:Ln×Int),x∈[(l,(-1:Int))]->-1<=x.2/\x.2<f.b.length:=fun l x hx=>by{rw[List.mem_singleton]at hx;rw[hx];exact⟨Int.le_refl _,by simp only;omega⟩};intro x hx;unfold step iL at hx;obtain⟨p,hp⟩:∃p,aG.op f.b n=p:=⟨_,rfl⟩;rw[hp]at hx;by_cases h1:p=1;{rw[ay h1]at hx;exact one _ x hx};rw[ax h1]at hx;by_cases h2:p=2;{rw[ay h2]at hx;exact one _ x hx};rw[ax h2]at hx;by_cases h3:p=3\/p=4;{rw[ay h3]at hx;exact one _ x hx};rw[ax h3]at hx;by_cases h5:p=5;{rw[ay h5]at hx;exact one _ x hx};rw[ax h5]at hx;by_cases h6:p=6;{rw[ay h6]at hx;exact one _ x hx};rw[ax h6]at hx;by_cases h10:p=10;{rw[ay h10]at hx;have hi:=hty.iff (by rw[hp];exact h10);rcases List.mem_cons.1 hx with rfl|hx;{exact⟨Int.le_refl _,by simp only;omega⟩};rw[List.mem_singleton]at hx;rw[hx];simp only;split;{rcases hi with⟨-,a,-⟩|⟨a,-⟩;{omega};omega};rcases hi with⟨a,-⟩|⟨-,a,b,-⟩;{omega};omega};rw[ax h10]at hx;by_cases h11:p=11;{rw[ay h11]at hx;have hi:=hty.Nn (by rw[hp];exact h11);rw[List.mem_singleton]at hx;rw[hx];simp only;omega};rw[ax h11]at hx;by_cases KA:p=13\/p=15;{rw[ay KA]at hx;have hg:=Aq hA hn (if p=15 then 99 else arg f.b n);generalize eG f E H n (if p=15 then 99 else arg f.b n)=L at hx hg;simp only[List.mem_append,List.mem_singleton]at hx;rcases hx with hx|hx;{by_cases hc:L.2.2=1/\L.2.1≠bx f (H.getD n 0-1);{rw[ay hc]at hx;exact one _ x hx};rw[ax hc]at hx;cases hx};rw[hx];simp only;omega};rw[ax KA]at hx;by_cases Mx:p=14;{rw[ay Mx]at hx;have hg:=Aq hA hn (arg f.b n);have hnx:=hty.next (by omega) (by omega) (by omega) (by omega) (by omega);generalize eG f E H n (arg f.b n)=L at hx hg;simp only at hx;by_cases hc:L.2.2=1/\L.2.1≠bx f (H.getD n 0-1)-1;{rw[ay hc]at hx;rcases List.mem_cons.1 hx with rfl|hx;{exact⟨Int.le_refl _,by simp only;omega⟩};rcases List.mem_cons.1 hx with rfl|hx;{exact⟨by simp only;omega,by simp only;omega⟩};rcases List.mem_cons.1 hx with rfl|hx;{exact⟨Int.le_refl _,by simp only;omega⟩};rw[List.mem_singleton]at hx;rw[hx];simp only;omega};rw[ax hc,List.mem_singleton]at hx;rw[hx];simp only;omega};rw[ax Mx]at hx;by_cases h16:p=16;{rw[ay h16]at hx;exact one _ x hx};rw[ax h16]at hx;by_cases Qg:p=17;{rw[ay Qg]at hx;exact one _ x hx};rw[ax Qg]at hx;by_cases h18:p=18;{rw[ay h18]at hx;exact one _ x hx};rw[ax h18]at hx;by_cases h19:p=19;{rw[ay h19]at hx;exact one _ x hx};rw[ax h19]at hx;cases hx
theorem xe {fs:List Fn}{f:Fn}{E O H:List Int}(hA:Hg.Acc fs f E O H):∀n,n<=f.b.length->∀x∈(fe fs f E O H n).1,-1<=x.2/\x.2<f.b.length
 | 0,_,x,hx=>by
   unfold fe first at hx
   simp only[List.mem_map]at hx
   obtain⟨i,-,rfl⟩:=hx
   have:=hA.pos
   exact⟨Int.le_refl _,by simp only;omega⟩
 | n +1,hn,x,hx=>by
   unfold fe at hx
   simp only[List.mem_append]at hx
   rcases hx with hx|hx
   · exact xe hA n (by omega) x hx
   · split at hx
     · exact Fx hA (by omega) (by assumption) x hx
     · cases hx
theorem Ic {fs:List Fn}{f:Fn}{E O H:List Int}(hA:Hg.Acc fs f E O H):∀x∈raw fs f E O H,-1<=x.2/\x.2<f.b.length:=fun x hx=>by
 unfold raw at hx
 rcases List.mem_append.1 hx with hx|hx
 · exact xe hA _ (Nat.le_refl _) x hx
 · have:=hA.pos
   unfold last at hx
   split at hx
   · rcases List.mem_cons.1 hx with rfl|hx
     · exact⟨Int.le_refl _,by simp only;omega⟩
     · rw[List.mem_singleton]at hx
       rw[hx]
       exact⟨Int.le_refl _,by simp only;omega⟩
   · rw[List.mem_singleton]at hx
     rw[hx]
     exact⟨Int.le_refl _,by simp only;omega⟩
end Lw
theorem uT:∀(xs:List Lv)(k:Nat)(y:Int),k<xs.length->bV (xs.set k ((xs.getD k dQ).1,(xs.getD k dQ).2.1,(xs.getD k dQ).2.2.1,(xs.getD k dQ).2.2.2.1,y,(xs.getD k dQ).2.2.2.2.2))=(bV xs).set (k*6+4) (.int .i64 y)
 |[],k,y,h=>by simp at h
 |x::xs,0,y,h=>rfl
 | x::xs,k+1,y,h=>by
   have ih:=uT xs k y (by simpa using h)
   have e:(x::xs).getD (k+1) dQ=xs.getD k dQ:=rfl
   rw[e,List.set_cons_succ,gD,ih,gD,show(k+1)*6+4=k*6+4+1+1+1+1+1+1 by omega]
   simp only[List.set_cons_succ]
section
structure LM (w:World)(R M D:Nat)(d:ByteArray)(B:Nat)(a:Option Addr)(len cap:Nat)(zs:List Int)(F nf cv:Nat)(W:World):Prop where
 ix:w.heap.size<=R/\R<M/\M<F/\F<D/\D<W.heap.size/\B<w.heap.size
 nb:0<nf/\nf<=3/\nf<=cv/\cv<=maxLen
 bR:bu W R [.slice none 0 0, .string ⟨#[]⟩]
 bM:bu W D [.slice (some ⟨F,0,none⟩) nf cv, .string d]
 fd:∀j,j<nf->AB W M F j True
 fz:∀k,W.frozen? ⟨F,k,none⟩=false
 dr:aM w W B a len cap zs
variable {w W W' : World} {R M D : Nat} {d : ByteArray} {B : Nat} {a : Option Addr} {len cap : Nat} {zs : List Int} {F nf cv : Nat}
theorem LM.kb (h:LM w R M D d B a len cap zs F nf cv W)(hk:KB W.heap.size B W W')(hc:ib W' B a len cap zs):LM w R M D d B a len cap zs F nf cv W':=by have ix:=h.ix;have hs:=hk.size;have box:∀{b:Nat}{vs:List Value},bu W b vs->b≠B->bu W' b vs:=fun{b vs} hb hne=>by{have e:=hk.block b hb.1 hne;refine⟨by have:=hb.1;omega,fun i x hx=>?_⟩;obtain⟨h1,h2⟩:=hb.2 i x hx;exact⟨(World.cell?_of_block e).trans h1,(World.frozen?_of_block e).trans h2⟩};exact⟨by omega,h.nb,box h.bR (by omega),box h.bM (by omega),fun j hj=>(h.fd j hj).of hs (fun k a b=>hk.block k a (by omega)) (by omega) (by omega),fun k=>(World.frozen?_of_block (hk.block F (by omega) (by omega))).trans (h.fz k),hc,⟨hk.os.trans h.dr.2.os,hk.tape.trans h.dr.2.tape,hk.output.trans h.dr.2.output,Nat.le_trans h.dr.2.size hs,fun k h1 h2=>(hk.block k (by have:=h.dr.2.size;omega) (fun e=>h2 (by rw[e]))).trans (h.dr.2.block k h1 h2)⟩⟩
theorem LM.drawn (h:LM w R M D d B a len cap zs F nf cv W)(hd:aM W W' B a len cap zs):LM w R M D d B a len cap zs F nf cv W':=
 h.kb ⟨hd.2.os,hd.2.tape,hd.2.output,hd.2.size,fun k h1 h2=>hd.2.block k h1 (by simpa using h2)⟩ hd.1
theorem LM.kept (h:LM w R M D d B a len cap zs F nf cv W)(hB:Below W.heap.size W W'):LM w R M D d B a len cap zs F nf cv W':=
 h.kb (KB.below hB (Nat.le_refl _)) (h.dr.1.kept (row:=none) ⟨hB.os,hB.tape,hB.output,hB.size,fun k hk _=>hB.block k hk⟩ (by simp) (.inr (by simp)))
def FDs (W:World)(M F nf:Nat):Prop:=∀j,j<nf->AB W M F j False
def FM (w:World)(B:Nat)(a:Option Addr)(len cap:Nat)(zs:List Int)(F nf cv:Nat)(W:World):Prop:=
 ∃M,w.heap.size<=M/\M<F/\F<W.heap.size/\(0<nf/\nf<=3/\nf<=cv/\cv<=maxLen)/\FDs W M F nf/\aM w W B a len cap zs
theorem AB.fG {j:Nat}{f:Prop}(h:AB W M F j f):AB W M F j False:=by obtain⟨p,q,g,ba,bl,bc,xs,h0,h1,h2,h3,h4,h5,h6,h7⟩:=h;exact⟨p,q,g,ba,bl,bc,xs,h0,h1,h2,h3,h4,h5,h6,fun h=>h.elim⟩
structure CH (x:World)(B F j:Nat)(W:World):Prop where
 os:W.os=x.os
 tape:W.tape=x.tape
 output:W.output=x.output
 size:x.heap.size<=W.heap.size
 blk:∀k,k<x.heap.size->k≠B->k≠F->W.heap[k]?=x.heap[k]?
 cell:∀o,o≠j*4+1->o≠j*4+2->o≠j*4+3->W.cell? ⟨F,o,none⟩=x.cell? ⟨F,o,none⟩
 fz:∀o,W.frozen? ⟨F,o,none⟩=x.frozen? ⟨F,o,none⟩
theorem CH.ma {x:World}{j:Nat}(hB:Below x.heap.size x W)(hF:F<x.heap.size):CH x B F j W:=
 ⟨hB.os,hB.tape,hB.output,hB.size,fun k h1 _ _=>hB.block k h1,fun o _ _ _=>World.cell?_of_block (hB.block F hF),fun o=>World.frozen?_of_block (hB.block F hF)⟩
theorem ib.put {W:World}(h:ib W B a len cap zs)(p:Addr)(hp:B<p.block)(v:Value):ib (W.setCell p v) B a len cap zs:=
 h.kept (aB W p v) (by simp only[ne_eq,af];omega) (h.2.1.imp_right fun hx y e e'=>by have:=hx y e;simp only[af]at e';omega)
theorem CH.kb {x:World}{j:Nat}(h:CH x B F j W)(hk:KB W.heap.size B W W')(hF:F<x.heap.size)(XY:F≠B):CH x B F j W':=by have hs:=h.size;have e:=hk.block F (by omega) XY;exact⟨hk.os.trans h.os,hk.tape.trans h.tape,hk.output.trans h.output,Nat.le_trans h.size hk.size,fun k h1 h2 h3=>(hk.block k (by omega) h2).trans (h.blk k h1 h2 h3),fun o h1 h2 h3=>(World.cell?_of_block e).trans (h.cell o h1 h2 h3),fun o=>(World.frozen?_of_block e).trans (h.fz o)⟩
theorem CH.drawn {x:World}{j:Nat}(h:CH x B F j W)(hd:aM W W' B a len cap zs)(hF:F<x.heap.size)(XY:F≠B):CH x B F j W':=
 h.kb ⟨hd.2.os,hd.2.tape,hd.2.output,hd.2.size,fun k h1 h2=>hd.2.block k h1 (by simpa using h2)⟩ hF XY
theorem CH.box {x:World}{j b:Nat}{vs:List Value}(h:CH x B F j W)(hb:bu x b vs)(h1:b≠B)(h2:b≠F):bu W b vs:=by have e:=h.blk b hb.1 h1 h2;refine⟨by have:=hb.1;have:=h.size;omega,fun i x hx=>?_⟩;obtain⟨k1,k2⟩:=hb.2 i x hx;exact⟨(World.cell?_of_block e).trans k1,(World.frozen?_of_block e).trans k2⟩
theorem CL.tail {gb off bl:Nat}{xs:List (Int×Int)}(h:CL W M F (some ⟨gb,off,none⟩) bl xs)(hb:0<bl):CL W M F (some ⟨gb,off+2,none⟩) (bl-1) (xs.drop 1):=by obtain⟨h1,h2,h3|⟨b,o,e,h4,h5,h6,h7⟩⟩:=h;{omega};cases e;refine⟨by rw[List.length_drop,h1],by omega, .inr ⟨gb,off+2,rfl,h4,h5,h6,fun j hj=>?_⟩⟩;have:=h7 (j+1) (by omega);rw[show off+(j+1)*2=off+2+j*2 by omega]at this;rw[ah,List.getElem?_drop,show 1+j=j+1 by omega,←ah];exact this
theorem LM.change {x:World}{j:Nat}(h:LM w R M D d B a len cap zs F nf cv x)(hc:CH x B F j W)(mD:ib W B a len cap zs){q g:Int}{ba:Option Addr}{bl bc:Nat}{xs:List (Int×Int)}(h1:W.cell? ⟨F,j*4+1,none⟩=some (.int .i64 q))(h2:W.cell? ⟨F,j*4+2,none⟩=some (.int .i64 g))(h3:W.cell? ⟨F,j*4+3,none⟩=some (.slice ba bl bc))(h4:CL W M F ba bl xs)(v1 v2:Value):FM w B a len cap zs F nf cv ((W.setCell ⟨R,0,none⟩ v1).setCell ⟨R,1,none⟩ v2):=by have ix:=h.ix;have hs:=hc.size;have hdw:aM w W B a len cap zs:=⟨mD,hc.os.trans h.dr.2.os,hc.tape.trans h.dr.2.tape,hc.output.trans h.dr.2.output,Nat.le_trans h.dr.2.size hc.size,fun k hk hne=>(hc.blk k (by have:=h.dr.2.size;omega) (fun e=>hne (by rw[e])) (by omega)).trans (h.dr.2.block k hk hne)⟩;refine⟨M,by omega,by omega,by simp[World.setCell];omega,h.nb,fun i hi=>?_,(hdw.put ix.2.2.2.2.2 ⟨R,0,none⟩ (by simp only;omega) _).put ix.2.2.2.2.2 ⟨R,1,none⟩ (by simp only;omega) _⟩;have hW:AB W M F i False:=by{obtain⟨p',q',g',ba',R8,bc',xs',k0,k1,k2,k3,k4,k5,k6,-⟩:=h.fd i hi;by_cases e:i=j;{subst e;exact⟨p',q,g,ba,bl,bc,xs,k0,k1,(hc.cell _ (by omega) (by omega) (by omega)).trans k2,h1,h2,h3,h4,fun h=>h.elim⟩};exact⟨p',q',g',ba',R8,bc',xs',k0,k1,(hc.cell _ (by omega) (by omega) (by omega)).trans k2,(hc.cell _ (by omega) (by omega) (by omega)).trans k3,(hc.cell _ (by omega) (by omega) (by omega)).trans k4,(hc.cell _ (by omega) (by omega) (by omega)).trans k5,k6.of hc.size (fun k a b c=>hc.blk k a (by omega) c),fun h=>h.elim⟩};exact(hW.set ⟨R,0,none⟩ _ (by simp only;omega) (by omega)).set ⟨R,1,none⟩ _ (by simp only;omega) (by omega)
theorem LM.fin (h:LM w R M D d B a len cap zs F nf cv W)(v1 v2:Value):FM w B a len cap zs F nf cv ((W.setCell ⟨R,0,none⟩ v1).setCell ⟨R,1,none⟩ v2):=by have ix:=h.ix;exact⟨M,by omega,by omega,by simp[World.setCell];omega,h.nb,fun j hj=>(((h.fd j hj).fG).set ⟨R,0,none⟩ _ (by simp only;omega) (by omega)).set ⟨R,1,none⟩ _ (by simp only;omega) (by omega),(h.dr.put ix.2.2.2.2.2 ⟨R,0,none⟩ (by simp only;omega) _).put ix.2.2.2.2.2 ⟨R,1,none⟩ (by simp only;omega) _⟩
def Zl (B F D nf cv:Nat):Nat->Value->World->Prop
 |0,y,_=>y= .pointer (some ⟨D,0,none⟩)
 |1,y,_=>y= .slice (some ⟨F,0,none⟩) nf cv
 |2,y,_=>y= .pointer (some ⟨B,0,none⟩)
 |3,y,_=>y= .pointer (some ⟨D,0,none⟩)
 |4,y,_=>y= .slice (some ⟨F,0,none⟩) nf cv
 |5,y,_=>y= .int .i64 nf
 |6,y,_=>∃j:Nat,j<nf/\y= .int .i64 j
 |7,y,_=>∃j:Nat,j<nf/\y= .pointer (some ⟨F,j*4,none⟩)
 |_,_,_=>True
theorem Zl.fJ {B F D nf cv k:Nat}{y:Value}{x x':World}(hf:Zl B F D nf cv k y x):Zl B F D nf cv k y x':=by unfold Zl at hf ⊢;split at hf;all_goals exact hf
def Zm (B F j gb bl cb:Nat):Nat->Value->World->Prop
 |0,y,_=>y= .pointer (some ⟨F,j*4,none⟩)
 |1,y,_=>y= .pointer (some ⟨F,j*4,none⟩)
 |2,y,_=>y= .pointer (some ⟨F,j*4+3,none⟩)
 |3,y,_=>y= .slice (some ⟨gb,0,none⟩) bl cb
 |4,y,_=>y= .pointer (some ⟨B,0,none⟩)
 |5,y,_=>y= .pointer (some ⟨F,j*4,none⟩)
 |6,y,_=>y= .pointer (some ⟨F,j*4,none⟩)
 |7,y,_=>y= .pointer (some ⟨F,j*4+3,none⟩)
 |8,y,_=>y= .slice (some ⟨gb,0,none⟩) bl cb
 |9,y,_=>y= .int .i64 bl
 |10,y,_=>∃i:Nat,i<bl/\y= .int .i64 i
 |11,y,_=>y= .pointer (some ⟨B,0,none⟩)
 |12,y,_=>∃op z:Int,y= .agg #[.int .i64 op, .int .i64 z]
 |_,_,_=>True
theorem Zm.fJ {B F j gb bl cb k:Nat}{y:Value}{x x':World}(hf:Zm B F j gb bl cb k y x):Zm B F j gb bl cb k y x':=by unfold Zm at hf ⊢;split at hf;all_goals exact hf
end
theorem FDs.fl {W:World}{M F nf:Nat}(h:FDs W M F nf)(hF:F<W.heap.size)(hn:nf<=3):∃fs,FL W (some ⟨F,0,none⟩) nf fs:=by
 have H:∀m,m<=nf->∃fs:List Fn,fs.length=m/\∀j,j<m->W.cell? ⟨F,0+j*4,none⟩=some (.int .i64 (fs.getD j .z).a)/\W.cell? ⟨F,0+j*4+1,none⟩=some (.int .i64 (fs.getD j .z).l)/\W.cell? ⟨F,0+j*4+2,none⟩=some (.int .i64 (fs.getD j .z).g)/\
     ∃ba bl bc,W.cell? ⟨F,0+j*4+3,none⟩=some (.slice ba bl bc)/\SL W ba bl (fs.getD j .z).b:=by
   intro m
   induction m with
   |zero=>exact fun _=>⟨[],rfl,fun j hj=>by omega⟩
   | succ m ih=>
     intro hm
     obtain⟨fs,hl,hx⟩:=ih (by omega)
     obtain⟨p,q,g,ba,bl,bc,xs,-,-,k0,k1,k2,k3,k4,-⟩:=h m (by omega)
     refine⟨fs++[(⟨p,q,g,xs⟩:Fn)],by simp[hl],fun j hj=>?_⟩
     by_cases e:j<m
     · have e1:(fs++[(⟨p,q,g,xs⟩:Fn)]).getD j .z=fs.getD j .z:=by rw[ah,ah,List.getElem?_append_left (by omega)]
       rw[e1]
       exact hx j e
     · have e':j=m:=by omega
       subst e'
       have e1:(fs++[(⟨p,q,g,xs⟩:Fn)]).getD j .z=⟨p,q,g,xs⟩:=by
         rw[ah,List.getElem?_append_right (by omega),hl,Nat.sub_self]
         rfl
       rw[e1]
       simp only[Nat.zero_add]
       exact⟨k0,k1,k2,ba,bl,bc,k3,k4.sl⟩
 obtain⟨fs,hl,hx⟩:=H nf (Nat.le_refl _)
 exact⟨fs,hl,by simp only[maxLen];omega, .inr ⟨F,0,rfl,hF,hx⟩⟩
theorem di {n:Nat}{w w1 w2:World}{B:Nat}{a:Option Addr}{len cap:Nat}{zs:List Int}(h:Below n w w1)(hd:aM w1 w2 B a len cap zs)(hB:n<=B)(hn:n<=w1.heap.size):Below n w w2:=
 ⟨hd.2.os.trans h.os,hd.2.tape.trans h.tape,hd.2.output.trans h.output,Nat.le_trans h.size hd.2.size,fun k hk=>(hd.2.block k (by omega) (by simp only[ne_eq,af];omega)).trans (h.block k hk)⟩
end Go.Proofs.YtpipjiinmhopmaaGreat
