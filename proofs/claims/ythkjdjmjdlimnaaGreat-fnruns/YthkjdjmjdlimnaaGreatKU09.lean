/-
  Own texts for a law: Low4 Low5 Low6 Low7 LinM Rl0 Mem2 Mem3 Mem4
-/
import Derived.Test.YthkjdjmjdlimnaaGreatKU08
namespace Go.Proofs.YthkjdjmjdlimnaaGreat
open Go.RowKit Go.Shelf
set_option linter.all false
set_option maxRecDepth 100000
set_option maxHeartbeats 16000000
theorem Vs {c:LX}{W0 W:World}{v vg:Value}{out:List (Ln×Int)}{P:Nat->Prop}(T:TX c W0)(K:MK c W0 W v vg out P)(fa:Option Addr)(fl fc:Nat)(d:ByteArray)(oa:Option Addr)(oc:Nat)(hF:FL W0 fa fl c.fs)(hO:IL W0 oa c.f.b.length c.O)(at':Nat)(hat:at'<c.f.b.length)(hr:0<=c.H.getD at' 0)(hlen:out.length<=900)(p:Int)(hp:aQ.op c.f.b at'=p)(hk:p=7\/p=8\/p=9\/p=12\/p=20\/p=1\/p=2\/p=3\/p=4\/p=5\/p=6\/p=17\/p=18\/p=19):Calls Tryz.prog 63 #[.pointer (some ⟨c.B,0,none⟩), .agg #[.slice fa fl fc, .string d], .slice oa c.f.b.length oc, .int .i64 at'] W fun e w'=>∃v' nL,e= .returned (.tuple #[])/\MK c W0 w' v' nL (out++Lw.step c.fs c.f c.E c.O c.H at') (fun g=>P g\/W.heap.size<=g)/\FX c v vg v' nL W w':=by have hty:=T.acc.typ at' hat hr;obtain⟨hH,hE,hS⟩:=T.il K;have Og:=hO.kept K.gJ;have hF1:=hF.kept K.gJ;have hLen:=T.ok.2.2.2.2.2;have htop:=T.acc.oW at' hat;have hW:=T.lt;have hwd:0<=Lw.wd c.f/\Lw.wd c.f<=6:=by{have:=T.ok;unfold Lw.wd;omega};have HST:Hid (Lw.step c.fs c.f c.E c.O c.H at'=Lw.vR c.fs c.f c.E c.O c.H at' p (Hg.arg c.f.b at') (Lw.bx c.f (c.H.getD at' 0-1))):=by{show _=_;unfold Lw.step;rw[hp]};have hbx0:=K.box;unfold LX.dI at hbx0;obtain⟨bl,hbl⟩:∃n,c.f.b.length=n:=⟨_,rfl⟩;rw[hbl]at hH hE hS Og hLen hat hbx0 ⊢;have oZ:(at':Int)<(bl:Int):=by{omega};have cS:∃b o,c.ba=some ⟨b,o,none⟩/\b<W.heap.size/\W.cell? ⟨b,o+at'*2,none⟩=some (.int .i64 (aQ.op c.f.b at'))/\W.cell? ⟨b,o+at'*2+1,none⟩=some (.int .i64 (Hg.arg c.f.b at')):=by{obtain⟨hl,-,h3|⟨b,o,e,hb,hh⟩⟩:=hS;{omega};exact⟨b,o,e,hb,(hh at' hat).1,(hh at' hat).2⟩};obtain⟨sb,so,es,lS,FP,cS2⟩:=cS;have cH:∃b o,c.ha=some ⟨b,o,none⟩/\b<W.heap.size/\W.cell? ⟨b,o+at',none⟩=some (.int .i64 (c.H.getD at' 0)):=by{obtain⟨hl,-,h3|⟨b,o,e,hb,hh⟩⟩:=hH;{omega};exact⟨b,o,e,hb,hh at' hat⟩};obtain⟨hb',ho',eh,lH,cH⟩:=cH;have cE:∃b o,c.ea=some ⟨b,o,none⟩/\b<W.heap.size/\W.cell? ⟨b,o+at',none⟩=some (.int .i64 (aQ.aS c.E at')):=by{obtain⟨hl,-,h3|⟨b,o,e,hb,hh⟩⟩:=hE;{omega};refine⟨b,o,e,hb,?_⟩;rw[hh at' hat];unfold aQ.aS;rw[ah,ah,ai (by omega)];rfl};obtain⟨eb,eo,ee,lE,cE⟩:=cE;have cO:∃b o,oa=some ⟨b,o,none⟩/\b<W.heap.size/\W.cell? ⟨b,o+at',none⟩=some (.int .i64 (aQ.aS c.O at')):=by{obtain⟨hl,-,h3|⟨b,o,e,hb,hh⟩⟩:=Og;{omega};refine⟨b,o,e,hb,?_⟩;rw[hh at' hat];unfold aQ.aS;rw[ah,ah,ai (by omega)];rfl};obtain⟨ob,oo,rfl,lO,cO⟩:=cO;rw[hp]at FP;obtain⟨q,hq⟩:∃q,Hg.arg c.f.b at'=q:=⟨_,rfl⟩;obtain⟨u,hu⟩:∃u,c.H.getD at' 0=u:=⟨_,rfl⟩;rw[hq]at cS2 HST;rw[hu]at cH htop hr HST;have d2:=(hbx0.2 2 _ rfl).1;have d3:=(hbx0.2 3 _ rfl).1;have d4:=(hbx0.2 4 _ rfl).1;have d5:=(hbx0.2 5 _ rfl).1;have Oe:=hbx0.1;rw[eh]at d3;rw[ee]at d4;rw[es]at d5;have hB1:=aB W (.cells #[.slice fa fl fc, .string d] 26);have hA1:dS (W.alloc (.cells #[.slice fa fl fc, .string d] 26)) W.heap.size 26 [.slice fa fl fc, .string d]:=heap_alloc_last W _;obtain⟨W1,hW1⟩:∃X,W.alloc (.cells #[.slice fa fl fc, .string d] 26)=X:=⟨_,rfl⟩;rw[hW1]at hB1 hA1;have hB2:=aB W1 (.cells #[.int .i64 (p), .int .i64 q] 95);have hA2:dS (W1.alloc (.cells #[.int .i64 (p), .int .i64 q] 95)) W1.heap.size 95 [.int .i64 (p), .int .i64 q]:=heap_alloc_last W1 _;obtain⟨W2,hW2⟩:∃X,W1.alloc (.cells #[.int .i64 (p), .int .i64 q] 95)=X:=⟨_,rfl⟩;rw[hW2]at hB2 hA2;have hB:=hB1.trans (hB2.mono hB1.size);have K2:=K.kept hB;have kg:=hA1.kept hB2;have hcon:=kD T K2 (u-1) (by omega) (by omega);have Yv:-1<=Lw.bx c.f (u-1)/\Lw.bx c.f (u-1)<=26:=by{unfold Lw.bx;omega};obtain⟨tt,Be⟩:∃tt,Lw.bx c.f (u-1)=tt:=⟨_,rfl⟩;rw[Be]at hcon Yv HST;have c3:=bf hB1 d3;have k3:=bf hB d3;have k4:=bf hB d4;have c5:=bf hB1 d5;have c6:=bf hB1 FP;have c7:=bf hB1 cS2;have c8:=bf hB cH;have uj:=bf hB cE;have uk:=bf hB cO;have k2:=bf hB d2;have s0:=hA2.cell (j:=0) rfl;have s1:=hA2.cell (j:=1) rfl;have m0:=kg.cell (j:=0) rfl;have F0:FX c v vg v vg W W2:=FX.below hB;have hF2:=hF1.kept hB;have HQ:=ae (ak hp (ak hq (ak hbl (ak hu hty))));clear hH hE hS hO Og hF hF1 d2 d3 d4 d5 FP cS2 cH cE cO hbx0 hA1 hB1 hB2 K hu Be hp hq hbl;go_enter Tryz.func63,Tryz.ntmps63;go_wp2_with fail;refine hcon.mono ?_;rintro e w3 ⟨rfl,aW⟩;subst w3;dsimp only;clear hcon;rcases hk with rfl|rfl|rfl|rfl|rfl|rfl|rfl|rfl|rfl|rfl|rfl|rfl|rfl|rfl;{replace HST:Hid (Lw.step c.fs c.f c.E c.O c.H at'=[]):=HST;clear c3 k3 k4 c5 c6 c7 c8 uj uk k2 m0 kg hA2 hW1 hW2 hty hF2;go_wp2;(try simp only[Exit.inBlock,Exit.then]);refine bodyPost_end (results_none rfl _ _ _) rfl ⟨v,vg,rfl,?_,F0⟩;rw[HST.out];refine MK.iJ ?_ (fun g h=> .inl h);simpa[List.append_assoc]using K2};{replace HST:Hid (Lw.step c.fs c.f c.E c.O c.H at'=[]):=HST;clear c3 k3 k4 c5 c6 c7 c8 uj uk k2 m0 kg hA2 hW1 hW2 hty hF2;go_wp2;(try simp only[Exit.inBlock,Exit.then]);refine bodyPost_end (results_none rfl _ _ _) rfl ⟨v,vg,rfl,?_,F0⟩;rw[HST.out];refine MK.iJ ?_ (fun g h=> .inl h);simpa[List.append_assoc]using K2};{replace HST:Hid (Lw.step c.fs c.f c.E c.O c.H at'=[]):=HST;clear c3 k3 k4 c5 c6 c7 c8 uj uk k2 m0 kg hA2 hW1 hW2 hty hF2;go_wp2;(try simp only[Exit.inBlock,Exit.then]);refine bodyPost_end (results_none rfl _ _ _) rfl ⟨v,vg,rfl,?_,F0⟩;rw[HST.out];refine MK.iJ ?_ (fun g h=> .inl h);simpa[List.append_assoc]using K2};{replace HST:Hid (Lw.step c.fs c.f c.E c.O c.H at'=[]):=HST;clear c3 k3 k4 c5 c6 c7 c8 uj uk k2 m0 kg hA2 hW1 hW2 hty hF2;go_wp2;(try simp only[Exit.inBlock,Exit.then]);refine bodyPost_end (results_none rfl _ _ _) rfl ⟨v,vg,rfl,?_,F0⟩;rw[HST.out];refine MK.iJ ?_ (fun g h=> .inl h);simpa[List.append_assoc]using K2};{replace HST:Hid (Lw.step c.fs c.f c.E c.O c.H at'=[]):=HST;clear c3 k3 k4 c5 c6 c7 c8 uj uk k2 m0 kg hA2 hW1 hW2 hty hF2;go_wp2;(try simp only[Exit.inBlock,Exit.then]);refine bodyPost_end (results_none rfl _ _ _) rfl ⟨v,vg,rfl,?_,F0⟩;rw[HST.out];refine MK.iJ ?_ (fun g h=> .inl h);simpa[List.append_assoc]using K2};{replace HST:Hid (Lw.step c.fs c.f c.E c.O c.H at'=[(⟨1,tt+1,0,0,q,[]⟩,-1)]):=HST;clear c3 k3 k4 c5 c6 c7 c8 uj uk k2 m0 kg hA2 hW1 hW2 hty hF2;go_wp2_with fail;refine(aV c W0 W2 v vg (out) P hW K2 ⟨1,tt+1,0,0,q,[]⟩ none 0 0 (OI.nil _ _) (fun g e=>by cases e) (-1) (by omega)).mono ?_;rintro e X1 ⟨v1,j5,rfl,K1,F1⟩;dsimp only;clear s0 s1;have G1:=F0.trans F1;clear K2 F1 F0;go_wp2;(try simp only[Exit.inBlock,Exit.then]);refine bodyPost_end (results_none rfl _ _ _) rfl ⟨v1,j5,rfl,?_,G1⟩;rw[HST.out];refine MK.iJ ?_ (fun g h=> .inl h);simpa[List.append_assoc]using K1};{replace HST:Hid (Lw.step c.fs c.f c.E c.O c.H at'=[(⟨2,tt+1,q,0,0,[]⟩,-1)]):=HST;clear c3 k3 k4 c5 c6 c7 c8 uj uk k2 m0 kg hA2 hW1 hW2 hty hF2;go_wp2_with fail;refine(aV c W0 W2 v vg (out) P hW K2 ⟨2,tt+1,q,0,0,[]⟩ none 0 0 (OI.nil _ _) (fun g e=>by cases e) (-1) (by omega)).mono ?_;rintro e X1 ⟨v1,j5,rfl,K1,F1⟩;dsimp only;clear s0 s1;have G1:=F0.trans F1;clear K2 F1 F0;go_wp2;(try simp only[Exit.inBlock,Exit.then]);refine bodyPost_end (results_none rfl _ _ _) rfl ⟨v1,j5,rfl,?_,G1⟩;rw[HST.out];refine MK.iJ ?_ (fun g h=> .inl h);simpa[List.append_assoc]using K1};{replace HST:Hid (Lw.step c.fs c.f c.E c.O c.H at'=[(⟨2,q,tt,0,0,[]⟩,-1)]):=HST;clear c3 k3 k4 c5 c6 c7 c8 uj uk k2 m0 kg hA2 hW1 hW2 hty hF2;go_wp2_with fail;refine(aV c W0 W2 v vg (out) P hW K2 ⟨2,q,tt,0,0,[]⟩ none 0 0 (OI.nil _ _) (fun g e=>by cases e) (-1) (by omega)).mono ?_;rintro e X1 ⟨v1,j5,rfl,K1,F1⟩;dsimp only;clear s0 s1;have G1:=F0.trans F1;clear K2 F1 F0;go_wp2;(try simp only[Exit.inBlock,Exit.then]);refine bodyPost_end (results_none rfl _ _ _) rfl ⟨v1,j5,rfl,?_,G1⟩;rw[HST.out];refine MK.iJ ?_ (fun g h=> .inl h);simpa[List.append_assoc]using K1};{replace HST:Hid (Lw.step c.fs c.f c.E c.O c.H at'=[(⟨2,q,tt,0,0,[]⟩,-1)]):=HST;clear c3 k3 k4 c5 c6 c7 c8 uj uk k2 m0 kg hA2 hW1 hW2 hty hF2;go_wp2_with fail;refine(aV c W0 W2 v vg (out) P hW K2 ⟨2,q,tt,0,0,[]⟩ none 0 0 (OI.nil _ _) (fun g e=>by cases e) (-1) (by omega)).mono ?_;rintro e X1 ⟨v1,j5,rfl,K1,F1⟩;dsimp only;clear s0 s1;have G1:=F0.trans F1;clear K2 F1 F0;go_wp2;(try simp only[Exit.inBlock,Exit.then]);refine bodyPost_end (results_none rfl _ _ _) rfl ⟨v1,j5,rfl,?_,G1⟩;rw[HST.out];refine MK.iJ ?_ (fun g h=> .inl h);simpa[List.append_assoc]using K1};{replace HST:Hid (Lw.step c.fs c.f c.E c.O c.H at'=[(⟨3,tt-1,tt-1,tt,q,[]⟩,-1)]):=HST;clear c3 k3 k4 c5 c6 c7 c8 uj uk k2 m0 kg hA2 hW1 hW2 hty hF2;go_wp2_with fail;refine(aV c W0 W2 v vg (out) P hW K2 ⟨3,tt-1,tt-1,tt,q,[]⟩ none 0 0 (OI.nil _ _) (fun g e=>by cases e) (-1) (by omega)).mono ?_;rintro e X1 ⟨v1,j5,rfl,K1,F1⟩;dsimp only;clear s0 s1;have G1:=F0.trans F1;clear K2 F1 F0;go_wp2;(try simp only[Exit.inBlock,Exit.then]);refine bodyPost_end (results_none rfl _ _ _) rfl ⟨v1,j5,rfl,?_,G1⟩;rw[HST.out];refine MK.iJ ?_ (fun g h=> .inl h);simpa[List.append_assoc]using K1};{replace HST:Hid (Lw.step c.fs c.f c.E c.O c.H at'=[(⟨4,tt,tt,0,0,[]⟩,-1)]):=HST;clear c3 k3 k4 c5 c6 c7 c8 uj uk k2 m0 kg hA2 hW1 hW2 hty hF2;go_wp2_with fail;refine(aV c W0 W2 v vg (out) P hW K2 ⟨4,tt,tt,0,0,[]⟩ none 0 0 (OI.nil _ _) (fun g e=>by cases e) (-1) (by omega)).mono ?_;rintro e X1 ⟨v1,j5,rfl,K1,F1⟩;dsimp only;clear s0 s1;have G1:=F0.trans F1;clear K2 F1 F0;go_wp2;(try simp only[Exit.inBlock,Exit.then]);refine bodyPost_end (results_none rfl _ _ _) rfl ⟨v1,j5,rfl,?_,G1⟩;rw[HST.out];refine MK.iJ ?_ (fun g h=> .inl h);simpa[List.append_assoc]using K1};{replace HST:Hid (Lw.step c.fs c.f c.E c.O c.H at'=[(⟨8,tt,tt,0,q,[]⟩,-1)]):=HST;clear c3 k3 k4 c5 c6 c7 c8 uj uk k2 m0 kg hA2 hW1 hW2 hty hF2;go_wp2_with fail;refine(aV c W0 W2 v vg (out) P hW K2 ⟨8,tt,tt,0,q,[]⟩ none 0 0 (OI.nil _ _) (fun g e=>by cases e) (-1) (by omega)).mono ?_;rintro e X1 ⟨v1,j5,rfl,K1,F1⟩;dsimp only;clear s0 s1;have G1:=F0.trans F1;clear K2 F1 F0;go_wp2;(try simp only[Exit.inBlock,Exit.then]);refine bodyPost_end (results_none rfl _ _ _) rfl ⟨v1,j5,rfl,?_,G1⟩;rw[HST.out];refine MK.iJ ?_ (fun g h=> .inl h);simpa[List.append_assoc]using K1};{replace HST:Hid (Lw.step c.fs c.f c.E c.O c.H at'=[(⟨9,0,tt-1,tt,q,[]⟩,-1)]):=HST;clear c3 k3 k4 c5 c6 c7 c8 uj uk k2 m0 kg hA2 hW1 hW2 hty hF2;go_wp2_with fail;refine(aV c W0 W2 v vg (out) P hW K2 ⟨9,0,tt-1,tt,q,[]⟩ none 0 0 (OI.nil _ _) (fun g e=>by cases e) (-1) (by omega)).mono ?_;rintro e X1 ⟨v1,j5,rfl,K1,F1⟩;dsimp only;clear s0 s1;have G1:=F0.trans F1;clear K2 F1 F0;go_wp2;(try simp only[Exit.inBlock,Exit.then]);refine bodyPost_end (results_none rfl _ _ _) rfl ⟨v1,j5,rfl,?_,G1⟩;rw[HST.out];refine MK.iJ ?_ (fun g h=> .inl h);simpa[List.append_assoc]using K1};replace HST:Hid (Lw.step c.fs c.f c.E c.O c.H at'=[(⟨11,0,0,0,0,[]⟩,-1)]):=HST;clear c3 k3 k4 c5 c6 c7 c8 uj uk k2 m0 kg hA2 hW1 hW2 hty hF2;go_wp2_with fail;refine(aV c W0 W2 v vg (out) P hW K2 ⟨11,0,0,0,0,[]⟩ none 0 0 (OI.nil _ _) (fun g e=>by cases e) (-1) (by omega)).mono ?_;rintro e X1 ⟨v1,j5,rfl,K1,F1⟩;dsimp only;clear s0 s1;have G1:=F0.trans F1;clear K2 F1 F0;go_wp2;(try simp only[Exit.inBlock,Exit.then]);refine bodyPost_end (results_none rfl _ _ _) rfl ⟨v1,j5,rfl,?_,G1⟩;rw[HST.out];refine MK.iJ ?_ (fun g h=> .inl h);simpa[List.append_assoc]using K1
theorem Lw.Gx {c:LX}{W0:World}(T:TX c W0){at':Nat}(hat:at'<c.f.b.length)(h:aQ.op c.f.b at'=13\/aQ.op c.f.b at'=14):0<=Hg.arg c.f.b at'/\Hg.arg c.f.b at'<=9:=by have hok:St.ok (aQ.op c.f.b at') (Hg.arg c.f.b at')=true:=St.bI T.all hat;simp only[St.ok,au,Wd.bA]at hok;(have h1:St.least (aQ.op c.f.b at')=0:=by rcases h with h|h<;>rw[h]<;>rfl);(have h2:St.eH (aQ.op c.f.b at')=9:=by rcases h with h|h<;>rw[h]<;>rfl);omega
theorem Lw.low {f:Fn}{E H:List Int}{j:Nat}{a hh:Int}(hJ:Hg.pG f E H j hh a):∀t:Nat,a.toNat<(aQ.ed f.b E j j).length->(aQ.ed f.b E j j).getD a.toNat (-1)=(t:Int)->0<=H.getD t 0:=fun t hlt ht=>by
 obtain⟨t',e',-,-,h0,-⟩:=hJ.1 hlt
 rw[ht]at e'
 have:t=t':=by omega
 rw[this]
 exact h0
theorem VU {c:LX}{W0 W:World}{v vg:Value}{out:List (Ln×Int)}{P:Nat->Prop}(T:TX c W0)(K:MK c W0 W v vg out P)(fa:Option Addr)(fl fc:Nat)(d:ByteArray)(oa:Option Addr)(oc:Nat)(hF:FL W0 fa fl c.fs)(hO:IL W0 oa c.f.b.length c.O)(at':Nat)(hat:at'<c.f.b.length)(hr:0<=c.H.getD at' 0)(hlen:out.length<=900)(p:Int)(hp:aQ.op c.f.b at'=p)(hk:p=10\/p=11\/p=13\/p=15\/p=14):Calls Tryz.prog 63 #[.pointer (some ⟨c.B,0,none⟩), .agg #[.slice fa fl fc, .string d], .slice oa c.f.b.length oc, .int .i64 at'] W fun e w'=>∃v' nL,e= .returned (.tuple #[])/\MK c W0 w' v' nL (out++Lw.step c.fs c.f c.E c.O c.H at') (fun g=>P g\/W.heap.size<=g)/\FX c v vg v' nL W w':=by have hty:=T.acc.typ at' hat hr;obtain⟨hH,hE,hS⟩:=T.il K;have Og:=hO.kept K.gJ;have hF1:=hF.kept K.gJ;have hLen:=T.ok.2.2.2.2.2;have htop:=T.acc.oW at' hat;have hW:=T.lt;have hwd:0<=Lw.wd c.f/\Lw.wd c.f<=6:=by{have:=T.ok;unfold Lw.wd;omega};have HST:Hid (Lw.step c.fs c.f c.E c.O c.H at'=Lw.vR c.fs c.f c.E c.O c.H at' p (Hg.arg c.f.b at') (Lw.bx c.f (c.H.getD at' 0-1))):=by{show _=_;unfold Lw.step;rw[hp]};have hbx0:=K.box;unfold LX.dI at hbx0;obtain⟨bl,hbl⟩:∃n,c.f.b.length=n:=⟨_,rfl⟩;rw[hbl]at hH hE hS Og hLen hat hbx0 ⊢;have oZ:(at':Int)<(bl:Int):=by{omega};have cS:∃b o,c.ba=some ⟨b,o,none⟩/\b<W.heap.size/\W.cell? ⟨b,o+at'*2,none⟩=some (.int .i64 (aQ.op c.f.b at'))/\W.cell? ⟨b,o+at'*2+1,none⟩=some (.int .i64 (Hg.arg c.f.b at')):=by{obtain⟨hl,-,h3|⟨b,o,e,hb,hh⟩⟩:=hS;{omega};exact⟨b,o,e,hb,(hh at' hat).1,(hh at' hat).2⟩};obtain⟨sb,so,es,lS,FP,cS2⟩:=cS;have cH:∃b o,c.ha=some ⟨b,o,none⟩/\b<W.heap.size/\W.cell? ⟨b,o+at',none⟩=some (.int .i64 (c.H.getD at' 0)):=by{obtain⟨hl,-,h3|⟨b,o,e,hb,hh⟩⟩:=hH;{omega};exact⟨b,o,e,hb,hh at' hat⟩};obtain⟨hb',ho',eh,lH,cH⟩:=cH;have cE:∃b o,c.ea=some ⟨b,o,none⟩/\b<W.heap.size/\W.cell? ⟨b,o+at',none⟩=some (.int .i64 (aQ.aS c.E at')):=by{obtain⟨hl,-,h3|⟨b,o,e,hb,hh⟩⟩:=hE;{omega};refine⟨b,o,e,hb,?_⟩;rw[hh at' hat];unfold aQ.aS;rw[ah,ah,ai (by omega)];rfl};obtain⟨eb,eo,ee,lE,cE⟩:=cE;have cO:∃b o,oa=some ⟨b,o,none⟩/\b<W.heap.size/\W.cell? ⟨b,o+at',none⟩=some (.int .i64 (aQ.aS c.O at')):=by{obtain⟨hl,-,h3|⟨b,o,e,hb,hh⟩⟩:=Og;{omega};refine⟨b,o,e,hb,?_⟩;rw[hh at' hat];unfold aQ.aS;rw[ah,ah,ai (by omega)];rfl};obtain⟨ob,oo,rfl,lO,cO⟩:=cO;rw[hp]at FP;obtain⟨q,hq⟩:∃q,Hg.arg c.f.b at'=q:=⟨_,rfl⟩;obtain⟨u,hu⟩:∃u,c.H.getD at' 0=u:=⟨_,rfl⟩;rw[hq]at cS2 HST;rw[hu]at cH htop hr HST;have d2:=(hbx0.2 2 _ rfl).1;have d3:=(hbx0.2 3 _ rfl).1;have d4:=(hbx0.2 4 _ rfl).1;have d5:=(hbx0.2 5 _ rfl).1;have Oe:=hbx0.1;rw[eh]at d3;rw[ee]at d4;rw[es]at d5;have hB1:=aB W (.cells #[.slice fa fl fc, .string d] 26);have hA1:dS (W.alloc (.cells #[.slice fa fl fc, .string d] 26)) W.heap.size 26 [.slice fa fl fc, .string d]:=heap_alloc_last W _;obtain⟨W1,hW1⟩:∃X,W.alloc (.cells #[.slice fa fl fc, .string d] 26)=X:=⟨_,rfl⟩;rw[hW1]at hB1 hA1;have hB2:=aB W1 (.cells #[.int .i64 (p), .int .i64 q] 95);have hA2:dS (W1.alloc (.cells #[.int .i64 (p), .int .i64 q] 95)) W1.heap.size 95 [.int .i64 (p), .int .i64 q]:=heap_alloc_last W1 _;obtain⟨W2,hW2⟩:∃X,W1.alloc (.cells #[.int .i64 (p), .int .i64 q] 95)=X:=⟨_,rfl⟩;rw[hW2]at hB2 hA2;have hB:=hB1.trans (hB2.mono hB1.size);have K2:=K.kept hB;have kg:=hA1.kept hB2;have hcon:=kD T K2 (u-1) (by omega) (by omega);have Yv:-1<=Lw.bx c.f (u-1)/\Lw.bx c.f (u-1)<=26:=by{unfold Lw.bx;omega};obtain⟨tt,Be⟩:∃tt,Lw.bx c.f (u-1)=tt:=⟨_,rfl⟩;rw[Be]at hcon Yv HST;have c3:=bf hB1 d3;have k3:=bf hB d3;have k4:=bf hB d4;have c5:=bf hB1 d5;have c6:=bf hB1 FP;have c7:=bf hB1 cS2;have c8:=bf hB cH;have uj:=bf hB cE;have uk:=bf hB cO;have k2:=bf hB d2;have s0:=hA2.cell (j:=0) rfl;have s1:=hA2.cell (j:=1) rfl;have m0:=kg.cell (j:=0) rfl;have F0:FX c v vg v vg W W2:=FX.below hB;have hF2:=hF1.kept hB;have HQ:=ae (ak hp (ak hq (ak hbl (ak hu hty))));clear hH hE hS hO Og hF hF1 d2 d3 d4 d5 FP cS2 cH cE cO hbx0 hA1 hB1 hB2 K hu Be hp hq hbl;go_enter Tryz.func63,Tryz.ntmps63;go_wp2_with fail;refine hcon.mono ?_;rintro e w3 ⟨rfl,aW⟩;subst w3;dsimp only;clear hcon;rcases hk with rfl|rfl|rfl|rfl|rfl;{obtain⟨z,hz⟩:∃z,aQ.aS c.E at'=z:=⟨_,rfl⟩;obtain⟨y,hy⟩:∃y,aQ.aS c.O at'=y:=⟨_,rfl⟩;have Tt:0<=y->y<=80:=fun h0=>by{have f2:=T.acc.Yk.f2 at' (by rw[HQ.out.2.2.1];exact hat) (by rw[hy];exact h0);have f3:=T.acc.Yk.f3 at' (by rw[HQ.out.2.2.1];exact hat) (by omega);rw[HQ.out.2.2.1]at f3;omega};rw[hz]at uj;rw[hy]at uk;by_cases hy0:0<=y;{have hyb:=Tt hy0;replace HST:Hid (Lw.step c.fs c.f c.E c.O c.H at'=[(⟨4,tt,tt,0,0,[]⟩,-1),(⟨6,0,tt,0,0,[]⟩,y+1)]):=by{show _=_;rw[HST.out,←hy];show[_,(_,if 0<=aQ.aS c.O at' then _ else _)]=_;rw[az (by rw[hy];exact hy0)]};clear Tt hz hy;clear c3 k3 c5 c6 c7 c8 k2 m0 kg hA2 hW1 hW2 hty hF2;go_wp2_with fail;refine(aV c W0 W2 v vg (out) P hW K2 ⟨4,tt,tt,0,0,[]⟩ none 0 0 (OI.nil _ _) (fun g e=>by cases e) (-1) (by omega)).mono ?_;rintro e X1 ⟨v1,j5,rfl,K1,F1⟩;dsimp only;clear s0 s1;have G1:=F0.trans F1;clear K2 F1 F0;go_wp2_with fail;refine(aV c W0 X1 v1 j5 (out++[(⟨4,tt,tt,0,0,[]⟩,(-1))]) P hW K1 ⟨6,0,tt,0,0,[]⟩ none 0 0 (OI.nil _ _) (fun g e=>by cases e) (y+1) (by simp only[List.length_append,List.length_singleton];omega)).mono ?_;rintro e X2 ⟨v2,wh,rfl,K2,F2⟩;dsimp only;have G2:=G1.trans F2;clear K1 F2 G1;go_wp2;(try simp only[Exit.inBlock,Exit.then]);refine bodyPost_end (results_none rfl _ _ _) rfl ⟨v2,wh,rfl,?_,G2⟩;rw[HST.out];refine MK.iJ ?_ (fun g h=> .inl h);simpa[List.append_assoc]using K2};replace HST:Hid (Lw.step c.fs c.f c.E c.O c.H at'=[(⟨4,tt,tt,0,0,[]⟩,-1),(⟨6,0,tt,0,0,[]⟩,z)]):=by{show _=_;rw[HST.out,←hz];show[_,(_,if 0<=aQ.aS c.O at' then _ else _)]=_;rw[ax (by rw[hy];exact hy0)]};clear Tt hz hy;clear c3 k3 c5 c6 c7 c8 k2 m0 kg hA2 hW1 hW2 hty hF2;go_wp2_with fail;refine(aV c W0 W2 v vg (out) P hW K2 ⟨4,tt,tt,0,0,[]⟩ none 0 0 (OI.nil _ _) (fun g e=>by cases e) (-1) (by omega)).mono ?_;rintro e X1 ⟨v1,j5,rfl,K1,F1⟩;dsimp only;clear s0 s1;have G1:=F0.trans F1;clear K2 F1 F0;go_wp2_with fail;refine(aV c W0 X1 v1 j5 (out++[(⟨4,tt,tt,0,0,[]⟩,(-1))]) P hW K1 ⟨6,0,tt,0,0,[]⟩ none 0 0 (OI.nil _ _) (fun g e=>by cases e) (z) (by simp only[List.length_append,List.length_singleton];omega)).mono ?_;rintro e X2 ⟨v2,wh,rfl,K2,F2⟩;dsimp only;have G2:=G1.trans F2;clear K1 F2 G1;go_wp2;(try simp only[Exit.inBlock,Exit.then]);refine bodyPost_end (results_none rfl _ _ _) rfl ⟨v2,wh,rfl,?_,G2⟩;rw[HST.out];refine MK.iJ ?_ (fun g h=> .inl h);simpa[List.append_assoc]using K2};{obtain⟨z,hz⟩:∃z,aQ.aS c.E at'=z:=⟨_,rfl⟩;rw[hz]at uj;replace HST:Hid (Lw.step c.fs c.f c.E c.O c.H at'=[(⟨5,0,0,0,0,[]⟩,z)]):=by{show _=_;rw[HST.out,←hz];rfl};clear hz;clear c3 k3 c5 c6 c7 c8 uk k2 m0 kg hA2 hW1 hW2 hty hF2;go_wp2_with fail;refine(aV c W0 W2 v vg (out) P hW K2 ⟨5,0,0,0,0,[]⟩ none 0 0 (OI.nil _ _) (fun g e=>by cases e) (z) (by omega)).mono ?_;rintro e X1 ⟨v1,j5,rfl,K1,F1⟩;dsimp only;clear s0 s1;have G1:=F0.trans F1;clear K2 F1 F0;go_wp2;(try simp only[Exit.inBlock,Exit.then]);refine bodyPost_end (results_none rfl _ _ _) rfl ⟨v1,j5,rfl,?_,G1⟩;rw[HST.out];refine MK.iJ ?_ (fun g h=> .inl h);simpa[List.append_assoc]using K1};{have hq9:0<=q/\q<=9:=by{have:=Lw.Gx T (at':=at') (by rw[HQ.out.2.2.1];exact hat) (by rw[HQ.out.1];omega);rw[HQ.out.2.1]at this;exact this};have hlow:=Lw.low (HQ.out.2.2.2.2.jump HQ.out.1);rw[HQ.out.2.1]at hlow;have hL:=kI T K2 at' (by rw[HQ.out.2.2.1];exact hat) q (by omega) (by omega) hlow;obtain⟨⟨l1,l2,l3⟩,hl⟩:∃l,Lw.gy c.f c.E c.H at' q=l:=⟨_,rfl⟩;rw[hl]at hL;replace HST:Hid (Lw.step c.fs c.f c.E c.O c.H at'=(if l3=1/\l2≠tt then[(⟨2,l2,tt,0,0,[]⟩,-1)]else[])++[(⟨5,0,0,0,0,[]⟩,l1)]):=by{show _=_;rw[HST.out];show(((if(Lw.gy c.f c.E c.H at' q).2.2=1/\(Lw.gy c.f c.E c.H at' q).2.1≠tt then[(⟨2,(Lw.gy c.f c.E c.H at' q).2.1,tt,0,0,[]⟩,-1)]else[])++[(⟨5,0,0,0,0,[]⟩,(Lw.gy c.f c.E c.H at' q).1)]):List (Ln×Int))=_;rw[hl]};clear c3 k3 k4 c5 c6 c7 c8 uj uk k2 m0 kg hA2 hW1 hW2 hty hF2;clear hl hlow;go_wp2_with fail;refine hL.mono ?_;rintro e X0 ⟨rfl,hBL⟩;dsimp only;have K0:=K2.kept hBL;have wo:=F0.trans (FX.below (c:=c) (v:=v) (vg:=vg) hBL);clear hL K2 F0 hBL s0 s1;by_cases h3:l3=1;{subst h3;by_cases h2:l2=tt;{replace HST:Hid (Lw.step c.fs c.f c.E c.O c.H at'=[(⟨5,0,0,0,0,[]⟩,l1)]):=by{show _=_;rw[HST.out,ax (fun h=>h.2 h2)];rfl};subst h2;go_wp2_with fail;refine(aV c W0 X0 v vg (out) P hW K0 ⟨5,0,0,0,0,[]⟩ none 0 0 (OI.nil _ _) (fun g e=>by cases e) (l1) (by omega)).mono ?_;rintro e X1 ⟨v1,j5,rfl,K1,F1⟩;dsimp only;have G1:=wo.trans F1;clear K0 F1 wo;go_wp2;(try simp only[Exit.inBlock,Exit.then]);refine bodyPost_end (results_none rfl _ _ _) rfl ⟨v1,j5,rfl,?_,G1⟩;rw[HST.out];refine MK.iJ ?_ (fun g h=> .inl h);simpa[List.append_assoc]using K1};replace HST:Hid (Lw.step c.fs c.f c.E c.O c.H at'=[(⟨2,l2,tt,0,0,[]⟩,-1),(⟨5,0,0,0,0,[]⟩,l1)]):=by{show _=_;rw[HST.out,az ⟨rfl,h2⟩];rfl};go_wp2_with fail;refine(aV c W0 X0 v vg (out) P hW K0 ⟨2,l2,tt,0,0,[]⟩ none 0 0 (OI.nil _ _) (fun g e=>by cases e) (-1) (by omega)).mono ?_;rintro e X1 ⟨v1,j5,rfl,K1,F1⟩;dsimp only;have G1:=wo.trans F1;clear K0 F1 wo;go_wp2_with fail;refine(aV c W0 X1 v1 j5 (out++[(⟨2,l2,tt,0,0,[]⟩,(-1))]) P hW K1 ⟨5,0,0,0,0,[]⟩ none 0 0 (OI.nil _ _) (fun g e=>by cases e) (l1) (by simp only[List.length_append,List.length_singleton];omega)).mono ?_;rintro e X2 ⟨v2,wh,rfl,K2,F2⟩;dsimp only;have G2:=G1.trans F2;clear K1 F2 G1;go_wp2;(try simp only[Exit.inBlock,Exit.then]);refine bodyPost_end (results_none rfl _ _ _) rfl ⟨v2,wh,rfl,?_,G2⟩;rw[HST.out];refine MK.iJ ?_ (fun g h=> .inl h);simpa[List.append_assoc]using K2};replace HST:Hid (Lw.step c.fs c.f c.E c.O c.H at'=[(⟨5,0,0,0,0,[]⟩,l1)]):=by{show _=_;rw[HST.out,ax (fun h=>h3 h.1)];rfl};have h3e:(l3==1)=false:=by{simpa using h3};go_wp2_with fail;refine(aV c W0 X0 v vg (out) P hW K0 ⟨5,0,0,0,0,[]⟩ none 0 0 (OI.nil _ _) (fun g e=>by cases e) (l1) (by omega)).mono ?_;rintro e X1 ⟨v1,j5,rfl,K1,F1⟩;dsimp only;have G1:=wo.trans F1;clear K0 F1 wo;go_wp2;(try simp only[Exit.inBlock,Exit.then]);refine bodyPost_end (results_none rfl _ _ _) rfl ⟨v1,j5,rfl,?_,G1⟩;rw[HST.out];refine MK.iJ ?_ (fun g h=> .inl h);simpa[List.append_assoc]using K1};{have hlow:∀t:Nat,(99:Int).toNat<(aQ.ed c.f.b c.E at' at').length->(aQ.ed c.f.b c.E at' at').getD (99:Int).toNat (-1)=(t:Int)->0<=c.H.getD t 0:=fun t h=>by{have:=aQ.rY c.f.b c.E at' at';have e:(99:Int).toNat=99:=rfl;omega};have hL:=kI T K2 at' (by rw[HQ.out.2.2.1];exact hat) 99 (by omega) (by omega) hlow;obtain⟨⟨l1,l2,l3⟩,hl⟩:∃l,Lw.gy c.f c.E c.H at' 99=l:=⟨_,rfl⟩;rw[hl]at hL;replace HST:Hid (Lw.step c.fs c.f c.E c.O c.H at'=(if l3=1/\l2≠tt then[(⟨2,l2,tt,0,0,[]⟩,-1)]else[])++[(⟨5,0,0,0,0,[]⟩,l1)]):=by{show _=_;rw[HST.out];show(((if(Lw.gy c.f c.E c.H at' 99).2.2=1/\(Lw.gy c.f c.E c.H at' 99).2.1≠tt then[(⟨2,(Lw.gy c.f c.E c.H at' 99).2.1,tt,0,0,[]⟩,-1)]else[])++[(⟨5,0,0,0,0,[]⟩,(Lw.gy c.f c.E c.H at' 99).1)]):List (Ln×Int))=_;rw[hl]};clear c3 k3 k4 c5 c6 c7 c8 uj uk k2 m0 kg hA2 hW1 hW2 hty hF2;clear hl hlow;go_wp2_with fail;refine hL.mono ?_;rintro e X0 ⟨rfl,hBL⟩;dsimp only;have K0:=K2.kept hBL;have wo:=F0.trans (FX.below (c:=c) (v:=v) (vg:=vg) hBL);clear hL K2 F0 hBL s0 s1;by_cases h3:l3=1;{subst h3;by_cases h2:l2=tt;{replace HST:Hid (Lw.step c.fs c.f c.E c.O c.H at'=[(⟨5,0,0,0,0,[]⟩,l1)]):=by{show _=_;rw[HST.out,ax (fun h=>h.2 h2)];rfl};subst h2;go_wp2_with fail;refine(aV c W0 X0 v vg (out) P hW K0 ⟨5,0,0,0,0,[]⟩ none 0 0 (OI.nil _ _) (fun g e=>by cases e) (l1) (by omega)).mono ?_;rintro e X1 ⟨v1,j5,rfl,K1,F1⟩;dsimp only;have G1:=wo.trans F1;clear K0 F1 wo;go_wp2;(try simp only[Exit.inBlock,Exit.then]);refine bodyPost_end (results_none rfl _ _ _) rfl ⟨v1,j5,rfl,?_,G1⟩;rw[HST.out];refine MK.iJ ?_ (fun g h=> .inl h);simpa[List.append_assoc]using K1};replace HST:Hid (Lw.step c.fs c.f c.E c.O c.H at'=[(⟨2,l2,tt,0,0,[]⟩,-1),(⟨5,0,0,0,0,[]⟩,l1)]):=by{show _=_;rw[HST.out,az ⟨rfl,h2⟩];rfl};go_wp2_with fail;refine(aV c W0 X0 v vg (out) P hW K0 ⟨2,l2,tt,0,0,[]⟩ none 0 0 (OI.nil _ _) (fun g e=>by cases e) (-1) (by omega)).mono ?_;rintro e X1 ⟨v1,j5,rfl,K1,F1⟩;dsimp only;have G1:=wo.trans F1;clear K0 F1 wo;go_wp2_with fail;refine(aV c W0 X1 v1 j5 (out++[(⟨2,l2,tt,0,0,[]⟩,(-1))]) P hW K1 ⟨5,0,0,0,0,[]⟩ none 0 0 (OI.nil _ _) (fun g e=>by cases e) (l1) (by simp only[List.length_append,List.length_singleton];omega)).mono ?_;rintro e X2 ⟨v2,wh,rfl,K2,F2⟩;dsimp only;have G2:=G1.trans F2;clear K1 F2 G1;go_wp2;(try simp only[Exit.inBlock,Exit.then]);refine bodyPost_end (results_none rfl _ _ _) rfl ⟨v2,wh,rfl,?_,G2⟩;rw[HST.out];refine MK.iJ ?_ (fun g h=> .inl h);simpa[List.append_assoc]using K2};replace HST:Hid (Lw.step c.fs c.f c.E c.O c.H at'=[(⟨5,0,0,0,0,[]⟩,l1)]):=by{show _=_;rw[HST.out,ax (fun h=>h3 h.1)];rfl};have h3e:(l3==1)=false:=by{simpa using h3};go_wp2_with fail;refine(aV c W0 X0 v vg (out) P hW K0 ⟨5,0,0,0,0,[]⟩ none 0 0 (OI.nil _ _) (fun g e=>by cases e) (l1) (by omega)).mono ?_;rintro e X1 ⟨v1,j5,rfl,K1,F1⟩;dsimp only;have G1:=wo.trans F1;clear K0 F1 wo;go_wp2;(try simp only[Exit.inBlock,Exit.then]);refine bodyPost_end (results_none rfl _ _ _) rfl ⟨v1,j5,rfl,?_,G1⟩;rw[HST.out];refine MK.iJ ?_ (fun g h=> .inl h);simpa[List.append_assoc]using K1};have hq9:0<=q/\q<=9:=by{have:=Lw.Gx T (at':=at') (by rw[HQ.out.2.2.1];exact hat) (by rw[HQ.out.1];omega);rw[HQ.out.2.1]at this;exact this};have hlow:=Lw.low (HQ.out.2.2.2.2.jif HQ.out.1);rw[HQ.out.2.1]at hlow;have hL:=kI T K2 at' (by rw[HQ.out.2.2.1];exact hat) q (by omega) (by omega) hlow;obtain⟨⟨l1,l2,l3⟩,hl⟩:∃l,Lw.gy c.f c.E c.H at' q=l:=⟨_,rfl⟩;rw[hl]at hL;replace HST:Hid (Lw.step c.fs c.f c.E c.O c.H at'=if l3=1/\l2≠tt-1 then[(⟨4,tt,tt,0,0,[]⟩,-1),(⟨6,0,tt,0,0,[]⟩,(at':Int)+1),(⟨2,l2,tt-1,0,0,[]⟩,-1),(⟨5,0,0,0,0,[]⟩,l1)]else[(⟨6,0,tt,0,0,[]⟩,l1)]):=by{show _=_;rw[HST.out];show((if(Lw.gy c.f c.E c.H at' q).2.2=1/\(Lw.gy c.f c.E c.H at' q).2.1≠tt-1 then[(⟨4,tt,tt,0,0,[]⟩,-1),(⟨6,0,tt,0,0,[]⟩,(at':Int)+1),(⟨2,(Lw.gy c.f c.E c.H at' q).2.1,tt-1,0,0,[]⟩,-1),(⟨5,0,0,0,0,[]⟩,(Lw.gy c.f c.E c.H at' q).1)]else[(⟨6,0,tt,0,0,[]⟩,(Lw.gy c.f c.E c.H at' q).1)]):List (Ln×Int))=_;rw[hl]};clear c3 k3 k4 c5 c6 c7 c8 uj uk k2 m0 kg hA2 hW1 hW2 hty hF2;clear hl hlow;go_wp2_with fail;refine hL.mono ?_;rintro e X0 ⟨rfl,hBL⟩;dsimp only;have K0:=K2.kept hBL;have wo:=F0.trans (FX.below (c:=c) (v:=v) (vg:=vg) hBL);clear hL K2 F0 hBL s0 s1;by_cases h3:l3=1;{subst h3;by_cases h2:l2=tt-1;{replace HST:Hid (Lw.step c.fs c.f c.E c.O c.H at'=[(⟨6,0,tt,0,0,[]⟩,l1)]):=by{show _=_;rw[HST.out,ax (fun h=>h.2 h2)]};subst h2;go_wp2_with fail;refine(aV c W0 X0 v vg (out) P hW K0 ⟨6,0,tt,0,0,[]⟩ none 0 0 (OI.nil _ _) (fun g e=>by cases e) (l1) (by omega)).mono ?_;rintro e X1 ⟨v1,j5,rfl,K1,F1⟩;dsimp only;have G1:=wo.trans F1;clear K0 F1 wo;go_wp2;(try simp only[Exit.inBlock,Exit.then]);refine bodyPost_end (results_none rfl _ _ _) rfl ⟨v1,j5,rfl,?_,G1⟩;rw[HST.out];refine MK.iJ ?_ (fun g h=> .inl h);simpa[List.append_assoc]using K1};replace HST:Hid (Lw.step c.fs c.f c.E c.O c.H at'=[(⟨4,tt,tt,0,0,[]⟩,-1),(⟨6,0,tt,0,0,[]⟩,(at':Int)+1),(⟨2,l2,tt-1,0,0,[]⟩,-1),(⟨5,0,0,0,0,[]⟩,l1)]):=by{show _=_;rw[HST.out,az ⟨rfl,h2⟩]};go_wp2_with fail;refine(aV c W0 X0 v vg (out) P hW K0 ⟨4,tt,tt,0,0,[]⟩ none 0 0 (OI.nil _ _) (fun g e=>by cases e) (-1) (by omega)).mono ?_;rintro e X1 ⟨v1,j5,rfl,K1,F1⟩;dsimp only;have G1:=wo.trans F1;clear K0 F1 wo;go_wp2_with fail;refine(aV c W0 X1 v1 j5 (out++[(⟨4,tt,tt,0,0,[]⟩,(-1))]) P hW K1 ⟨6,0,tt,0,0,[]⟩ none 0 0 (OI.nil _ _) (fun g e=>by cases e) ((at':Int)+1) (by simp only[List.length_append,List.length_singleton];omega)).mono ?_;rintro e X2 ⟨v2,wh,rfl,K2,F2⟩;dsimp only;have G2:=G1.trans F2;clear K1 F2 G1;go_wp2_with fail;refine(aV c W0 X2 v2 wh (out++[(⟨4,tt,tt,0,0,[]⟩,(-1))]++[(⟨6,0,tt,0,0,[]⟩,((at':Int)+1))]) P hW K2 ⟨2,l2,tt-1,0,0,[]⟩ none 0 0 (OI.nil _ _) (fun g e=>by cases e) (-1) (by simp only[List.length_append,List.length_singleton];omega)).mono ?_;rintro e X3 ⟨v3,Yw,rfl,K3,F3⟩;dsimp only;have G3:=G2.trans F3;clear K2 F3 G2;go_wp2_with fail;refine(aV c W0 X3 v3 Yw (out++[(⟨4,tt,tt,0,0,[]⟩,(-1))]++[(⟨6,0,tt,0,0,[]⟩,((at':Int)+1))]++[(⟨2,l2,tt-1,0,0,[]⟩,(-1))]) P hW K3 ⟨5,0,0,0,0,[]⟩ none 0 0 (OI.nil _ _) (fun g e=>by cases e) (l1) (by simp only[List.length_append,List.length_singleton];omega)).mono ?_;rintro e X4 ⟨v4,vg4,rfl,K4,F4⟩;dsimp only;have G4:=G3.trans F4;clear K3 F4 G3;go_wp2;(try simp only[Exit.inBlock,Exit.then]);refine bodyPost_ret (results_none rfl _ _ _) rfl ⟨v4,vg4,rfl,?_,G4⟩;rw[HST.out];refine MK.iJ ?_ (fun g h=> .inl h);simpa[List.append_assoc]using K4};replace HST:Hid (Lw.step c.fs c.f c.E c.O c.H at'=[(⟨6,0,tt,0,0,[]⟩,l1)]):=by{show _=_;rw[HST.out,ax (fun h=>h3 h.1)]};have h3e:(l3==1)=false:=by{simpa using h3};go_wp2_with fail;refine(aV c W0 X0 v vg (out) P hW K0 ⟨6,0,tt,0,0,[]⟩ none 0 0 (OI.nil _ _) (fun g e=>by cases e) (l1) (by omega)).mono ?_;rintro e X1 ⟨v1,j5,rfl,K1,F1⟩;dsimp only;have G1:=wo.trans F1;clear K0 F1 wo;go_wp2;(try simp only[Exit.inBlock,Exit.then]);refine bodyPost_end (results_none rfl _ _ _) rfl ⟨v1,j5,rfl,?_,G1⟩;rw[HST.out];refine MK.iJ ?_ (fun g h=> .inl h);simpa[List.append_assoc]using K1
theorem Lw.G9 {c:LX}{W0:World}(T:TX c W0){at':Nat}(hat:at'<c.f.b.length)(h:aQ.op c.f.b at'=16):0<=Hg.arg c.f.b at':=by have hok:St.ok (aQ.op c.f.b at') (Hg.arg c.f.b at')=true:=St.bI T.all hat;simp only[St.ok,au,Wd.bA]at hok;have h1:St.least (aQ.op c.f.b at')=0:=by{rw[h];rfl};omega
def Lw.jA (t n:Int)(k:Nat):List Int:=(List.range k).map fun(i:Nat)=>t-n+1+(i:Int)
theorem Lw.zT (t n:Int)(k:Nat):Lw.jA t n (k+1)=Lw.jA t n k++[t-n+1+(k:Int)]:=by unfold Lw.jA;rw[List.range_succ,List.map_append];rfl
theorem RL {W:World}{a:Option Addr}{n k:Nat}{fs:List Fn}(h:FL W a n fs)(hk:k<n):∃b off,a=some ⟨b,off,none⟩/\b<W.heap.size/\∃ba bl bc,W.cell? ⟨b,off+k*4,none⟩=some (.int .i64 (fs.getD k .z).a)/\W.cell? ⟨b,off+k*4+1,none⟩=some (.int .i64 (fs.getD k .z).l)/\W.cell? ⟨b,off+k*4+2,none⟩=some (.int .i64 (fs.getD k .z).g)/\W.cell? ⟨b,off+k*4+3,none⟩=some (.slice ba bl bc):=by obtain⟨hl,hm,h0|⟨b,off,e,hb,hx⟩⟩:=h;{omega};obtain⟨x0,x1,x2,ba,bl,bc,x3,-⟩:=hx k hk;exact⟨b,off,e,hb,ba,bl,bc,x0,x1,x2,x3⟩
theorem Vw {c:LX} {W0 W:World} {v vg:Value} {out:List (Ln×Int)} {P:Nat->Prop} (T:TX c W0) (K:MK c W0 W v vg out P) (fa:Option Addr) (fl fc:Nat) (d:ByteArray) (oa:Option Addr) (oc:Nat) (hF:FL W0 fa fl c.fs) (hO:IL W0 oa c.f.b.length c.O) (at':Nat) (hat:at'<c.f.b.length) (hr:0<=c.H.getD at' 0) (hlen:out.length<=900) (p:Int) (hp:aQ.op c.f.b at'=p) (hk:Hid (p=16)):Calls Tryz.prog 63 #[.pointer (some ⟨c.B,0,none⟩), .agg #[.slice fa fl fc, .string d], .slice oa c.f.b.length oc, .int .i64 at'] W fun e w'=>∃v' nL,e= .returned (.tuple #[])/\MK c W0 w' v' nL (out++Lw.step c.fs c.f c.E c.O c.H at') (fun g=>P g\/W.heap.size<=g)/\FX c v vg v' nL W w':=by
 have hty:=T.acc.typ at' hat hr
 obtain⟨hH,hE,hS⟩:=T.il K
 have Og:=hO.kept K.gJ
 have hF1:=hF.kept K.gJ
 have hLen:=T.ok.2.2.2.2.2
 have htop:=T.acc.oW at' hat
 have hW:=T.lt
 have hwd:0<=Lw.wd c.f/\Lw.wd c.f<=6:=by have:=T.ok;unfold Lw.wd;omega
 have HST:Hid (Lw.step c.fs c.f c.E c.O c.H at'=Lw.vR c.fs c.f c.E c.O c.H at' p (Hg.arg c.f.b at') (Lw.bx c.f (c.H.getD at' 0-1))):=by show _=_;unfold Lw.step;rw[hp]
 have hbx0:=K.box
 unfold LX.dI at hbx0
 obtain⟨bl,hbl⟩:∃n,c.f.b.length=n:=⟨_,rfl⟩
 rw[hbl]at hH hE hS Og hLen hat hbx0 ⊢
 have oZ:(at':Int)<(bl:Int):=by omega
 have cS:∃b o,c.ba=some ⟨b,o,none⟩/\b<W.heap.size/\W.cell? ⟨b,o+at'*2,none⟩=some (.int .i64 (aQ.op c.f.b at'))/\W.cell? ⟨b,o+at'*2+1,none⟩=some (.int .i64 (Hg.arg c.f.b at')):=by obtain⟨hl,-,h3|⟨b,o,e,hb,hh⟩⟩:=hS;{omega};exact⟨b,o,e,hb,(hh at' hat).1,(hh at' hat).2⟩
 obtain⟨sb,so,es,lS,FP,cS2⟩:=cS
 have cH:∃b o,c.ha=some ⟨b,o,none⟩/\b<W.heap.size/\W.cell? ⟨b,o+at',none⟩=some (.int .i64 (c.H.getD at' 0)):=by obtain⟨hl,-,h3|⟨b,o,e,hb,hh⟩⟩:=hH;{omega};exact⟨b,o,e,hb,hh at' hat⟩
 obtain⟨hb',ho',eh,lH,cH⟩:=cH
 have cE:∃b o,c.ea=some ⟨b,o,none⟩/\b<W.heap.size/\W.cell? ⟨b,o+at',none⟩=some (.int .i64 (aQ.aS c.E at')):=by obtain⟨hl,-,h3|⟨b,o,e,hb,hh⟩⟩:=hE;{omega};refine⟨b,o,e,hb,?_⟩;rw[hh at' hat];unfold aQ.aS;rw[ah,ah,ai (by omega)];rfl
 obtain⟨eb,eo,ee,lE,cE⟩:=cE
 have cO:∃b o,oa=some ⟨b,o,none⟩/\b<W.heap.size/\W.cell? ⟨b,o+at',none⟩=some (.int .i64 (aQ.aS c.O at')):=by obtain⟨hl,-,h3|⟨b,o,e,hb,hh⟩⟩:=Og;{omega};refine⟨b,o,e,hb,?_⟩;rw[hh at' hat];unfold aQ.aS;rw[ah,ah,ai (by omega)];rfl
 obtain⟨ob,oo,rfl,lO,cO⟩:=cO
 rw[hp]at FP
 obtain⟨q,hq⟩:∃q,Hg.arg c.f.b at'=q:=⟨_,rfl⟩
 obtain⟨u,hu⟩:∃u,c.H.getD at' 0=u:=⟨_,rfl⟩
 rw[hq]at cS2 HST
 rw[hu]at cH htop hr HST
 have d2:=(hbx0.2 2 _ rfl).1
 have d3:=(hbx0.2 3 _ rfl).1
 have d4:=(hbx0.2 4 _ rfl).1
 have d5:=(hbx0.2 5 _ rfl).1
 have Oe:=hbx0.1
 rw[eh]at d3
 rw[ee]at d4
 rw[es]at d5
 have hB1:=aB W (.cells #[.slice fa fl fc, .string d] 26)
 have hA1:dS (W.alloc (.cells #[.slice fa fl fc, .string d] 26)) W.heap.size 26 [.slice fa fl fc, .string d]:=heap_alloc_last W _
 obtain⟨W1,hW1⟩:∃X,W.alloc (.cells #[.slice fa fl fc, .string d] 26)=X:=⟨_,rfl⟩
 rw[hW1]at hB1 hA1
 have hB2:=aB W1 (.cells #[.int .i64 (p), .int .i64 q] 95)
 have hA2:dS (W1.alloc (.cells #[.int .i64 (p), .int .i64 q] 95)) W1.heap.size 95 [.int .i64 (p), .int .i64 q]:=heap_alloc_last W1 _
 obtain⟨W2,hW2⟩:∃X,W1.alloc (.cells #[.int .i64 (p), .int .i64 q] 95)=X:=⟨_,rfl⟩
 rw[hW2]at hB2 hA2
 have hB:=hB1.trans (hB2.mono hB1.size)
 have K2:=K.kept hB
 have kg:=hA1.kept hB2
 have hcon:=kD T K2 (u-1) (by omega) (by omega)
 have Yv:-1<=Lw.bx c.f (u-1)/\Lw.bx c.f (u-1)<=26:=by unfold Lw.bx;omega
 obtain⟨tt,Be⟩:∃tt,Lw.bx c.f (u-1)=tt:=⟨_,rfl⟩
 rw[Be]at hcon Yv HST
 have c3:=bf hB1 d3
 have k3:=bf hB d3
 have k4:=bf hB d4
 have c5:=bf hB1 d5
 have c6:=bf hB1 FP
 have c7:=bf hB1 cS2
 have c8:=bf hB cH
 have uj:=bf hB cE
 have uk:=bf hB cO
 have k2:=bf hB d2
 have s0:=hA2.cell (j:=0) rfl
 have s1:=hA2.cell (j:=1) rfl
 have m0:=kg.cell (j:=0) rfl
 have F0:FX c v vg v vg W W2:=FX.below hB
 have hF2:=hF1.kept hB
 have HQ:=ae (ak hp (ak hq (ak hbl (ak hu hty))))
 clear hH hE hS hO Og hF hF1 d2 d3 d4 d5 FP cS2 cH cE cO hbx0 hA1 hB1 hB2 K hu Be hp hq hbl
 go_enter Tryz.func63,Tryz.ntmps63
 go_wp2_with fail
 refine hcon.mono ?_
 rintro e w3 ⟨rfl,aW⟩
 subst w3
 dsimp only
 clear hcon
 obtain rfl:=hk.out
 have hq0:0<=q:=by have:=Lw.G9 T (at':=at') (by rw[HQ.out.2.2.1];exact hat) HQ.out.1;rw[HQ.out.2.1]at this;exact this
 have hq1:q<c.fs.length:=by have:=HQ.out.2.2.2.2.call HQ.out.1;rw[HQ.out.2.1]at this;exact this
 have hfl:c.fs.length=fl:=hF2.1
 obtain⟨qn,rfl⟩:=Int.eq_ofNat_of_zero_le hq0
 have Tu:qn<fl:=by omega
 have hqZ:(qn:Int)<(fl:Int):=by omega
 obtain⟨fb,fo,rfl,lF,gba,gbl,gbc,y0,y1,y2,y3⟩:=RL hF2 Tu
 have Oh:=Mn.DK T.val (k:=qn) (by omega)
 have ahj:fl<=4:=by have:=T.val.len.2;omega
 unfold Mn.fn at Oh
 obtain⟨G,hG⟩:∃G,c.fs.getD qn .z=G:=⟨_,rfl⟩
 rw[hG]at Oh y0 y1 y2
 replace HST:Hid (Lw.step c.fs c.f c.E c.O c.H at'=[(⟨7,if G.g=1 then tt-G.a+1 else Lw.wd c.f+20,0,0,qn,Lw.args tt G.a⟩,-1)]):=by show _=_;rw[HST.out];show[((⟨7,if(c.fs.getD (qn:Int).toNat .z).g=1 then _ else _,0,0,_,Lw.args tt (c.fs.getD (qn:Int).toNat .z).a⟩:Ln),(-1:Int))]=_;rw[aA,hG]
 obtain⟨ga,hga⟩:∃ga:Nat,G.a=(ga:Int):=Int.eq_ofNat_of_zero_le Oh.1
 have ahk:ga<=3:=by omega
 obtain⟨gg,hgg⟩:∃gg,G.g=gg:=⟨_,rfl⟩
 have Qe:gg=0\/gg=1:=by rw[←hgg];exact Oh.2.2.2.2.1
 obtain⟨gl,hgl⟩:∃gl,G.l=gl:=⟨_,rfl⟩
 have HAR:Hid (Lw.args tt G.a=Lw.jA tt ga ga):=by show _=_;rw[hga];rfl
 rw[hga]at y0 HST HAR
 rw[hgg]at y2 HST
 rw[hgl]at y1
 obtain⟨Tv,Yx⟩:∃Tv,Lw.wd c.f=Tv:=⟨_,rfl⟩
 rw[Yx]at k2 hwd HST
 have hBG:=aB W2 (.cells #[.int .i64 (ga:Int), .int .i64 gl, .int .i64 gg, .slice gba gbl gbc] 93)
 have hAG:dS (W2.alloc (.cells #[.int .i64 (ga:Int), .int .i64 gl, .int .i64 gg, .slice gba gbl gbc] 93)) W2.heap.size 93 [.int .i64 (ga:Int), .int .i64 gl, .int .i64 gg, .slice gba gbl gbc]:=heap_alloc_last W2 _
 obtain⟨W3,hW3⟩:∃X,W2.alloc (.cells #[.int .i64 (ga:Int), .int .i64 gl, .int .i64 gg, .slice gba gbl gbc] 93)=X:=⟨_,rfl⟩
 rw[hW3]at hBG hAG
 have j2:=bf hBG k2
 have t1:=bf hBG s1
 have hlB:c.B<W3.heap.size:=aj K2.sz hBG.size
 have hlS:=(hA2.kept hBG).lt
 have HKK:=ae (ak (K2.kept hBG) (ak (F0.trans (FX.below (c:=c) (v:=v) (vg:=vg) hBG)) hAG))
 clear c3 k3 k4 c5 c6 c7 c8 uj uk kg hW1 hW2 hty hF2 hG hga hgg hgl Yx Oh hfl K2 F0 hB hA2
 go_wp2
 go_region
 all_goals
  clear j2 t1 y0 y1 y2 y3 k2 s0 s1 m0
  have Tw:=aB W3 (.cells #[.int .i64 7, .int .i64 (Tv+20), .int .i64 0, .int .i64 0, .int .i64 qn, .slice none 0 0] 109)
  have hBL:=Tw.trans ((Below.refl _ _).drew.mono Tw.size)
  have hAL:dS (W3.alloc (.cells #[.int .i64 7, .int .i64 (Tv+20), .int .i64 0, .int .i64 0, .int .i64 qn, .slice none 0 0] 109)).drew W3.heap.size 109 [.int .i64 7, .int .i64 (Tv+20), .int .i64 0, .int .i64 0, .int .i64 qn, .slice none 0 0]:=heap_alloc_last W3 _
  obtain⟨i0,hi,hz0,hz1,hz2⟩:=info_parts dD
  have HS:=ae (ak hAL hBL)
  clear Tw hAL hBL hW3
  go_wp2
  go_loopw [20] (fun vi wr=>∃(k:Nat)(lv:Value),vi= .int .i64 k/\k<=ga/\dS wr W3.heap.size 109 [.int .i64 7, .int .i64 (Tv+20), .int .i64 0, .int .i64 0, .int .i64 qn,lv]/\OI wr (W3.heap.size+1) lv (Lw.jA tt ga k)/\Below W3.heap.size W3 wr) (fun i _=>ga-(intOf i).toNat)
  case atStart=>exact⟨0,_,rfl,Nat.zero_le _,HS.out.1,OI.nil _ _,HS.out.2⟩
  case round=>
   obtain⟨k,lv,rfl,hk,hAr,hol,hBr⟩:=hrel
   clear HS
   have hG9:=HKK.out.2.2.kept hBr
   have g0:=hG9.cell (j:=0) rfl
   have g2:=hG9.cell (j:=2) rfl
   have hll:(Lw.jA tt ga k).length=k:=by unfold Lw.jA;simp
   have FQ:wr.ownsRow (W3.heap.size+1) 2 1 lv k ((Lw.jA tt ga k).map iv):=by unfold OI at hol;rwa [hll]at hol
   obtain⟨la,lc,rfl⟩:=bQ FQ
   have FR:∀g,(Value.slice la k lc).ownBlock=some g->W3.heap.size+1<=g:=fun g hg=>(dx FQ hg).1
   have a5:=hAr.cell (j:=5) rfl
   have al:=hAr.lt
   by_cases hlt:k<ga
   · have fI:(k:Int)<(ga:Int):=by{omega};obtain⟨y,hy⟩:∃y,tt-(ga:Int)+1+(k:Int)=y:=⟨_,rfl⟩;have HY:=ae hy;clear hy;have tN:=aB wr (.cells #[.int .i64 (tt-(ga:Int)+1+(k:Int))] 2);have HO:=ae (aO FQ tN);have HA:=ae (hAr.kept tN);have HBr:=ae (hBr.trans (tN.mono hBr.size));have Qf:=hBr.size;clear tN hol FQ hAr hBr hG9 hll;go_wp2_with(at_builtin;refine wpList_append_own _ rfl _ _ 27 rfl (W3.heap.size+1) 2 i0 (.int .i64 0) 1 8 Tryz.underlying27 hi hz0 hz1 hz2 rfl (by decide) (.slice la k lc) k _ rfl HO.out ⟨wr.heap.size,0,none⟩ 1 1 [.int .i64 (tt-(ga:Int)+1+(k:Int))] rfl rfl (cell_one_new _ _ _) (by simp[Value.oneCell']) (by simp only[maxLen];omega) (by omega) (by simp;omega) ?_;intro v2 wB hown2 hgrow2 _;obtain⟨g2',cap2,rfl⟩:=ownsRow_succ hown2;have hA3:=HA.out.dJ hgrow2 (fun e=>by have:=FR W3.heap.size e.symm;omega);have b5:=hA3.cell (j:=5) rfl;have f5:=hA3.frozen 5;have l5:=hA3.lt;have kP:=ae (ak hown2 (ak hgrow2 hA3));clear hown2 hgrow2 hA3);go_roundw;(case rel=>obtain⟨o1,o2,o3⟩:=kP.out;have gs:=aC wB ⟨W3.heap.size,5,none⟩ (.slice (some ⟨g2',0,none⟩) (k+1) cap2);refine⟨k+1,_,by simp,hlt,o3.set 5 _,?_,?_⟩;{show World.ownsRow _ _ _ _ _ _ _;rw[Lw.zT,List.map_append,List.length_append,List.length_singleton,show(Lw.jA tt ga k).length=k by unfold Lw.jA;simp];exact dO o1 gs (fun g e=>by have:=(dx o1 e).1;simp only[ne_eq,af];omega)};exact dZ (dZ HBr.out o2 (fun g e=>by have:=FR g e;omega)) gs (fun g e=>by cases e;exact Nat.le_refl _));case measure=>simp[intOf];omega
   · have hke:k=ga:=by omega
     subst hke
     have fI:¬(k:Int)<(k:Int):=by omega
     have HX:=ae (ak (HKK.out.1.kept hBr) (HKK.out.2.1.trans (FX.below (c:=c) (v:=v) (vg:=vg) hBr)))
     have HBr:=ae hBr
     have HOl:=ae FQ
     have HAr:=ae hAr
     have a0:=hAr.cell (j:=0) rfl
     have a1:=hAr.cell (j:=1) rfl
     have a2:=hAr.cell (j:=2) rfl
     have a3:=hAr.cell (j:=3) rfl
     have a4:=hAr.cell (j:=4) rfl
     have q1:=hAr.frozen 1
     have hKs:=HKK.out.1.Bc
     have Yy:∀g,vg.ownBlock=some g->g<W3.heap.size:=fun g e=>(dx hKs e).2
     have hB3:c.B+1<=W3.heap.size:=HKK.out.1.sz
     have hWW:=HKK.out.2.1.size
     clear hol FQ hAr hBr hG9 hKs
     rcases Qe with rfl|rfl
     · have hadd:=aV c W0 wr v vg out (fun g=>P g\/W.heap.size<=g) hW (HX.out.1.iJ (fun g h=> .inl h)) ⟨7,Tv+20,0,0,qn,Lw.jA tt k k⟩ la k lc (by
        show World.ownsRow _ _ _ _ _ _ _
        rw[hll]
        refine⟨HOl.out.1,?_⟩
        rcases HOl.out.2 with h'|⟨g',cap',cur,h',hb,r⟩
        · exact .inl h'
        · exact .inr ⟨g',cap',cur,h',by omega,r⟩) (fun g e=>⟨fun e2=>by have:=FR g e;have:=Yy g e2;omega, .inr (by have:=FR g e;omega)⟩) (-1) (by omega)
       go_wp2_with fail
       refine hadd.mono ?_
       rintro e X1 ⟨v1,j5,rfl,K1,F1⟩
       dsimp only
       have G1:=HX.out.2.trans F1
       clear hadd a0 a1 a2 a3 a4 a5 g0 g2
       go_wp2
       (try simp only[Exit.inBlock,Exit.then])
       refine bodyPost_end (results_none rfl _ _ _) rfl ⟨v1,j5,rfl,?_,G1⟩
       rw[HST.out,HAR.out]
       exact K1
     · have gs:=aC wr ⟨W3.heap.size,1,none⟩ (.int .i64 (tt-(k:Int)+1))
       have hAs:=HAr.out.set 1 (.int .i64 (tt-(k:Int)+1))
       have hBs:=dZ HBr.out gs (fun g e=>by cases e;exact Nat.le_refl _)
       have hos:=dO HOl.out gs (fun g e=>by have:=(dx HOl.out e).1;simp only[ne_eq,af];omega)
       obtain⟨ws,hws⟩:∃ws,wr.setCell ⟨W3.heap.size,1,none⟩ (.int .i64 (tt-(k:Int)+1))=ws:=⟨_,rfl⟩
       rw[hws]at hAs hBs hos
       have b0:=hAs.cell (j:=0) rfl
       have b1:=hAs.cell (j:=1) rfl
       have b2:=hAs.cell (j:=2) rfl
       have b3:=hAs.cell (j:=3) rfl
       have b4:=hAs.cell (j:=4) rfl
       have b5:=hAs.cell (j:=5) rfl
       have hKx:=HKK.out.1.kept hBs
       have hFx:=HKK.out.2.1.trans (FX.below (c:=c) (v:=v) (vg:=vg) hBs)
       have hadd:=aV c W0 ws v vg out (fun g=>P g\/W.heap.size<=g) hW (hKx.iJ (fun g h=> .inl h)) ⟨7,tt-(k:Int)+1,0,0,qn,Lw.jA tt k k⟩ la k lc (by
        show World.ownsRow _ _ _ _ _ _ _
        rw[hll]
        refine⟨hos.1,?_⟩
        rcases hos.2 with h'|⟨g',cap',cur,h',hb,r⟩
        · exact .inl h'
        · exact .inr ⟨g',cap',cur,h',by omega,r⟩) (fun g e=>⟨fun e2=>by have:=FR g e;have:=Yy g e2;omega, .inr (by have:=FR g e;omega)⟩) (-1) (by omega)
       go_wp2_with fail
       refine hadd.mono ?_
       rintro e X1 ⟨v1,j5,rfl,K1,F1⟩
       dsimp only
       have G1:=hFx.trans F1
       clear hadd a0 a1 a2 a3 a4 a5 g0 g2 b0 b1 b2 b3 b4 b5 hws
       go_wp2
       (try simp only[Exit.inBlock,Exit.then])
       refine bodyPost_end (results_none rfl _ _ _) rfl ⟨v1,j5,rfl,?_,G1⟩
       rw[HST.out,HAR.out]
       exact K1
theorem xI {c:LX}{W0 W:World}{v vg:Value}{out:List (Ln×Int)}{P:Nat->Prop}(T:TX c W0)(K:MK c W0 W v vg out P)(fa:Option Addr)(fl fc:Nat)(d:ByteArray)(oa:Option Addr)(oc:Nat)(hF:FL W0 fa fl c.fs)(hO:IL W0 oa c.f.b.length c.O)(at':Nat)(hat:at'<c.f.b.length)(hr:0<=c.H.getD at' 0)(hlen:out.length<=900):Calls Tryz.prog 63 #[.pointer (some ⟨c.B,0,none⟩), .agg #[.slice fa fl fc, .string d], .slice oa c.f.b.length oc, .int .i64 at'] W fun e w'=>∃v' nL,e= .returned (.tuple #[])/\MK c W0 w' v' nL (out++Lw.step c.fs c.f c.E c.O c.H at') (fun g=>P g\/W.heap.size<=g)/\FX c v vg v' nL W w':=by have hok:St.ok (aQ.op c.f.b at') (Hg.arg c.f.b at')=true:=St.bI T.all hat;simp only[St.ok,au,Wd.bA]at hok;obtain⟨p,hp⟩:∃p,aQ.op c.f.b at'=p:=⟨_,rfl⟩;rw[hp]at hok;have h3:(p=7\/p=8\/p=9\/p=12\/p=20\/p=1\/p=2\/p=3\/p=4\/p=5\/p=6\/p=17\/p=18\/p=19)\/(p=10\/p=11\/p=13\/p=15\/p=14)\/p=16:=by{omega};rcases h3 with h|h|h;{exact Vs T K fa fl fc d oa oc hF hO at' hat hr hlen p hp h};{exact VU T K fa fl fc d oa oc hF hO at' hat hr hlen p hp h};exact Vw T K fa fl fc d oa oc hF hO at' hat hr hlen p hp h
namespace Lw
open Hg (arg)
theorem zI {fs:List Fn}{f:Fn}{E O H:List Int}(hA:Hg.Acc fs f E O H){n:Nat}(hn:n<f.b.length)(dp:Int):0<=(gy f E H n dp).1/\(gy f E H n dp).1<f.b.length:=by by_cases hlt:dp.toNat<(aQ.ed f.b E n n).length;{obtain⟨t,et,htl,hEt,-⟩:=aQ.DZ hA.Yk rfl hlt;rw[xX hlt (t:=t) et];have f3:=hA.Yk.f3 t (by omega) (by omega);split;{exact⟨by simp only;omega,by simp only;omega⟩};split;{exact⟨by simp only;omega,by simp only;omega⟩};exact⟨by simp only;omega,by simp only;omega⟩};rw[Dx hlt];have:=hA.pos;exact⟨by simp only;omega,by simp only;omega⟩
theorem EG {fs:List Fn}{f:Fn}{E O H:List Int}(hA:Hg.Acc fs f E O H){n:Nat}(hn:n<f.b.length)(hr:0<=H.getD n 0):∀x∈step fs f E O H n,-1<=x.2/\x.2<f.b.length:=by have hty:=hA.typ n hn hr;have hpos:=hA.pos;have one:∀(l:Ln)(x:Ln×Int),x∈[(l,(-1:Int))]->-1<=x.2/\x.2<f.b.length:=fun l x hx=>by{rw[List.mem_singleton]at hx;rw[hx];exact⟨Int.le_refl _,by simp only;omega⟩};intro x hx;unfold step vR at hx;obtain⟨p,hp⟩:∃p,aQ.op f.b n=p:=⟨_,rfl⟩;rw[hp]at hx;by_cases h1:p=1;{rw[az h1]at hx;exact one _ x hx};rw[ax h1]at hx;by_cases h2:p=2;{rw[az h2]at hx;exact one _ x hx};rw[ax h2]at hx;by_cases h3:p=3\/p=4;{rw[az h3]at hx;exact one _ x hx};rw[ax h3]at hx;by_cases h5:p=5;{rw[az h5]at hx;exact one _ x hx};rw[ax h5]at hx;by_cases h6:p=6;{rw[az h6]at hx;exact one _ x hx};rw[ax h6]at hx;by_cases h10:p=10;{rw[az h10]at hx;have hi:=hty.iff (by rw[hp];exact h10);rcases List.mem_cons.1 hx with rfl|hx;{exact⟨Int.le_refl _,by simp only;omega⟩};rw[List.mem_singleton]at hx;rw[hx];simp only;split;{rcases hi with⟨-,a,-⟩|⟨a,-⟩;{omega};omega};rcases hi with⟨a,-⟩|⟨-,a,b,-⟩;{omega};omega};rw[ax h10]at hx;by_cases h11:p=11;{rw[az h11]at hx;have hi:=hty.OV (by rw[hp];exact h11);rw[List.mem_singleton]at hx;rw[hx];simp only;omega};rw[ax h11]at hx;by_cases Ee:p=13\/p=15;{rw[az Ee]at hx;have hg:=zI hA hn (if p=15 then 99 else arg f.b n);generalize gy f E H n (if p=15 then 99 else arg f.b n)=L at hx hg;simp only[List.mem_append,List.mem_singleton]at hx;rcases hx with hx|hx;{by_cases hc:L.2.2=1/\L.2.1≠bx f (H.getD n 0-1);{rw[az hc]at hx;exact one _ x hx};rw[ax hc]at hx;cases hx};rw[hx];simp only;omega};rw[ax Ee]at hx;by_cases FE:p=14;{rw[az FE]at hx;have hg:=zI hA hn (arg f.b n);have hnx:=hty.next (by omega) (by omega) (by omega) (by omega) (by omega);generalize gy f E H n (arg f.b n)=L at hx hg;simp only at hx;by_cases hc:L.2.2=1/\L.2.1≠bx f (H.getD n 0-1)-1;{rw[az hc]at hx;rcases List.mem_cons.1 hx with rfl|hx;{exact⟨Int.le_refl _,by simp only;omega⟩};rcases List.mem_cons.1 hx with rfl|hx;{exact⟨by simp only;omega,by simp only;omega⟩};rcases List.mem_cons.1 hx with rfl|hx;{exact⟨Int.le_refl _,by simp only;omega⟩};rw[List.mem_singleton]at hx;rw[hx];simp only;omega};rw[ax hc,List.mem_singleton]at hx;rw[hx];simp only;omega};rw[ax FE]at hx;by_cases h16:p=16;{rw[az h16]at hx;exact one _ x hx};rw[ax h16]at hx;by_cases I4:p=17;{rw[az I4]at hx;exact one _ x hx};rw[ax I4]at hx;by_cases h18:p=18;{rw[az h18]at hx;exact one _ x hx};rw[ax h18]at hx;by_cases h19:p=19;{rw[az h19]at hx;exact one _ x hx};rw[ax h19]at hx;cases hx
theorem vY {fs:List Fn}{f:Fn}{E O H:List Int}(hA:Hg.Acc fs f E O H):∀n,n<=f.b.length->∀x∈(gW fs f E O H n).1,-1<=x.2/\x.2<f.b.length
 | 0,_,x,hx=>by
   unfold gW first at hx
   simp only[List.mem_map]at hx
   obtain⟨i,-,rfl⟩:=hx
   have:=hA.pos
   exact⟨Int.le_refl _,by simp only;omega⟩
 | n +1,hn,x,hx=>by
   unfold gW at hx
   simp only[List.mem_append]at hx
   rcases hx with hx|hx
   · exact vY hA n (by omega) x hx
   · split at hx
     · exact EG hA (by omega) (by assumption) x hx
     · cases hx
theorem Hl {fs:List Fn}{f:Fn}{E O H:List Int}(hA:Hg.Acc fs f E O H):∀x∈raw fs f E O H,-1<=x.2/\x.2<f.b.length:=fun x hx=>by
 unfold raw at hx
 rcases List.mem_append.1 hx with hx|hx
 · exact vY hA _ (Nat.le_refl _) x hx
 · have:=hA.pos
   unfold last at hx
   split at hx
   · rcases List.mem_cons.1 hx with rfl|hx
     · exact⟨Int.le_refl _,by simp only;omega⟩
     · rw[List.mem_singleton]at hx
       rw[hx]
       exact⟨Int.le_refl _,by simp only;omega⟩
   · rw[List.mem_singleton]at hx
     rw[hx]
     exact⟨Int.le_refl _,by simp only;omega⟩
end Lw
theorem rT:∀(xs:List Lv)(k:Nat)(y:Int),k<xs.length->ek (xs.set k ((xs.getD k iA).1,(xs.getD k iA).2.1,(xs.getD k iA).2.2.1,(xs.getD k iA).2.2.2.1,y,(xs.getD k iA).2.2.2.2.2))=(ek xs).set (k*6+4) (.int .i64 y)
 |[],k,y,h=>by simp at h
 |x::xs,0,y,h=>rfl
 | x::xs,k+1,y,h=>by
   have ih:=rT xs k y (by simpa using h)
   have e:(x::xs).getD (k+1) iA=xs.getD k iA:=rfl
   rw[e,List.set_cons_succ,je,ih,je,show(k+1)*6+4=k*6+4+1+1+1+1+1+1 by omega]
   simp only[List.set_cons_succ]
def Z5 (vs:List Lv)(j:Nat):Value:=(vs.getD j iA).2.2.2.2.2
def Ht (W:World)(n₀:Nat)(v:Value)(fs:List Ln)(vs:List Lv):Prop:=
 W.ownsRow n₀ 109 6 v fs.length (ek vs)/\vs.length=fs.length/\jo W n₀ fs.length vs fs/\∀i j,i<j->j<fs.length->∀g,(Z5 vs i).ownBlock=some g->(Z5 vs j).ownBlock≠some g
theorem Ht.kept {W W':World}{n₀:Nat}{v:Value}{fs:List Ln}{vs:List Lv}(h:Ht W n₀ v fs vs)(hB:Below W.heap.size W W'):Ht W' n₀ v fs vs:=⟨aO h.1 hB,h.2.1,h.2.2.1.kept hB,h.2.2.2⟩
theorem Ia {α:Type}{l:List α}{k:Nat}{x d:α}(h:k<l.length):(l.set k x).getD k d=x:=by rw[ah,List.getElem?_set_self h];rfl
theorem R8 {α:Type}{l:List α}{k j:Nat}{x d:α}(h:j≠k):(l.set k x).getD j d=l.getD j d:=by rw[ah,List.getElem?_set_ne (by omega),←ah]
theorem Ht.list {W W':World}{n₀ k:Nat}{v:Value}{fs:List Ln}{vs:List Lv}{ys:List Int}(h:Ht W n₀ v fs vs)(hk:k<fs.length)(hg:W.grownBy W' (Z5 vs k).ownBlock)(hos:OI W' n₀ (Z5 vs k) ys):Ht W' n₀ v (fs.set k ⟨(fs.getD k .z).k,(fs.getD k .z).d,(fs.getD k .z).a,(fs.getD k .z).b,(fs.getD k .z).n,ys⟩) vs:=by obtain⟨hrow,hl,ht,hp⟩:=h;have hint:109≠2:=by{decide};refine⟨?_,by simp[hl],?_,?_⟩;{rw[List.length_set];exact dO hrow hg (fun b e=>eZ hrow (ht k hk).2.2.2.2.2 hint e)};{intro j hj;rw[List.length_set]at hj;obtain⟨t0,t1,t2,t3,t4,t5⟩:=ht j hj;by_cases e:j=k;{subst e;rw[Ia hj];exact⟨t0,t1,t2,t3,t4,hos⟩};rw[R8 e];refine⟨t0,t1,t2,t3,t4,dO t5 hg (fun b e1 e2=>?_)⟩;rcases Nat.lt_or_ge j k with hlt|hge;{exact hp j k hlt hk b e1 e2};exact hp k j (by omega) hj b e2 e1};intro i j hij hj b;rw[List.length_set]at hj;exact hp i j hij hj b
theorem Ht.mono {W:World}{n₀ n₁:Nat}{v:Value}{fs:List Ln}{vs:List Lv}(h:Ht W n₁ v fs vs)(hn:n₀<=n₁):Ht W n₀ v fs vs:=by refine⟨?_,h.2.1,h.2.2.1.mono hn,h.2.2.2⟩;refine⟨h.1.1,?_⟩;rcases h.1.2 with h'|⟨g',cap',cur,h',hb,r⟩;{exact .inl h'};exact .inr ⟨g',cap',cur,h',Nat.le_trans hn hb,r⟩
theorem Ht.ll {W:World}{n₀ g n cap:Nat}{fs:List Ln}{vs:List Lv}(h:Ht W n₀ (.slice (some ⟨g,0,none⟩) n cap) fs vs)(hn:fs.length=n):LL W (some ⟨g,0,none⟩) n fs:=by have h1:=h.1;have h3:=h.2.2.1;rw[hn]at h1 h3;exact vw h1 hn h3
namespace Rl
open Mn (Rs words)
abbrev Sr:Type:=(Nat×List Int×List Int) ⊕ Int ⊕ Int ⊕ (Nat×Nat×List Int)
abbrev Sr.next (at':Nat)(B mem:List Int):Sr:= .inl (at',B,mem)
abbrev Sr.uu (v:Int):Sr:= .inr (.inl v)
abbrev Sr.halt (c:Int):Sr:= .inr (.inr (.inl c))
abbrev Sr.call (d q:Nat)(args:List Int):Sr:= .inr (.inr (.inr (d,q,args)))
def bx (B:List Int)(j:Int):Int:=B.getD j.toNat 0
def step (x:Ln)(at':Nat)(B mem:List Int):Sr:=
 if x.k=1 then .next (at'+1) (B.set x.d.toNat x.n) mem
 else if x.k=2 then .next (at'+1) (B.set x.d.toNat (bx B x.a)) mem
 else if x.k=3 then(if Wd.dc x.n (bx B x.a) (bx B x.b)=0 then .next (at'+1) (B.set x.d.toNat (Wd.dv x.n (bx B x.a) (bx B x.b))) mem else .halt (Wd.dc x.n (bx B x.a) (bx B x.b)))
 else if x.k=4 then .next (at'+1) (B.set x.d.toNat (if bx B x.a=0 then 1 else 0)) mem
 else if x.k=5 then .next x.n.toNat B mem
 else if x.k=6 then .next (if bx B x.a=0 then at'+1 else x.n.toNat) B mem
 else if x.k=7 then .call x.d.toNat x.n.toNat (x.l.map (bx B))
 else if x.k=8 then(if Mm.there (bx B x.a) x.n=true then .next (at'+1) (B.set x.d.toNat (Mm.jq mem (bx B x.a+x.n).toNat 4)) mem else .halt 3)
 else if x.k=9 then(if Mm.there (bx B x.a) x.n=true then .next (at'+1) B (Mm.iq mem (bx B x.a+x.n).toNat (bx B x.b) 4)else .halt 3)
 else if x.k=10 then .uu (bx B x.a)
 else if x.k=11 then .halt 4
 else .next (at'+1) B mem
def line (cs:List (List Ln))(k at':Nat):Ln:=(cs.getD k []).getD at' .z
def bg (cs:List (List Ln))(k at':Nat)(B mem:List Int):Sr:=step (line cs k at') at' B mem
def lQ (args:List Int):List Int:=args++List.replicate (40-args.length) 0
def run (cs:List (List Ln)):Nat->Nat->Nat->Nat->Nat->List Int->List Int->Rs
 |0,aL,_,_,_,_,mem=> .stop 5 mem aL
 |_+1,0,_,_,_,_,mem=> .stop 5 mem 0
 | g +1,n+1,d,k,at',B,mem=>
   match bg cs k at' B mem with
   | .inl (a,b,m)=>run cs g n d k a b m
   | .inr (.inl v)=> .done v mem n
   | .inr (.inr (.inl c))=> .stop c mem n
   | .inr (.inr (.inr (x,q,args)))=>
     if 12<=d+1 then .stop 6 mem n else
     match run cs g n (d+1) q 0 (lQ args) mem with
     | .inr (c,m,l)=> .stop c m l
     | .inl (v,m,l)=>run cs g l d k (at'+1) (B.set x v) m
variable {cs : List (List Ln)} {g n d k at' : Nat} {B mem : List Int}
theorem dG {a:Nat}{b m:List Int}(h:bg cs k at' B mem= .next a b m):run cs (g+1) (n+1) d k at' B mem=run cs g n d k a b m:=by rw[run,h]
theorem iZ {v:Int}(h:bg cs k at' B mem= .uu v):run cs (g+1) (n+1) d k at' B mem= .done v mem n:=by rw[run,h]
theorem run_halt {c:Int}(h:bg cs k at' B mem= .halt c):run cs (g+1) (n+1) d k at' B mem= .stop c mem n:=by rw[run,h]
theorem dQ {x q:Nat}{args:List Int}(h:bg cs k at' B mem= .call x q args)(hd:12<=d+1):run cs (g+1) (n+1) d k at' B mem= .stop 6 mem n:=by rw[run,h];exact az hd
theorem dM {x q l:Nat}{c:Int}{args m:List Int}(h:bg cs k at' B mem= .call x q args)(hd:¬12<=d+1)(hr:run cs g n (d+1) q 0 (lQ args) mem= .stop c m l):run cs (g+1) (n+1) d k at' B mem= .stop c m l:=by rw[run,h];show(if _ then _ else _)=_;rw[ax hd,hr]
theorem dF {x q l:Nat}{v:Int}{args m:List Int}(h:bg cs k at' B mem= .call x q args)(hd:¬12<=d+1)(hr:run cs g n (d+1) q 0 (lQ args) mem= .done v m l):run cs (g+1) (n+1) d k at' B mem=run cs g l d k (at'+1) (B.set x v) m:=by(conv=>lhs;rw[run,h]);show(if _ then _ else _)=_;rw[ax hd,hr]
def nf:Sr->Prop
 | .inr (.inr (.inl c))=>c≠5
 |_=>True
theorem bS {c:Prop}[Decidable c]{x y:Sr}(hx:nf x)(hy:nf y):nf (if c then x else y):=by split<;>assumption
theorem xA:nf (bg cs k at' B mem):=by unfold bg step;exact bS trivial (bS trivial (bS (bS trivial (Mn.Dz _ _ _)) (bS trivial (bS trivial (bS trivial (bS trivial (bS (bS trivial (show(3:Int)≠5 by omega)) (bS (bS trivial (show(3:Int)≠5 by omega)) (bS trivial (bS (show(4:Int)≠5 by omega) trivial))))))))))
theorem pF {c:Int}(h:bg cs k at' B mem= .halt c):c≠5:=by have:=xA (cs:=cs) (k:=k) (at':=at') (B:=B) (mem:=mem);rw[h]at this;exact this
theorem dU:∀(g n d k at':Nat)(B mem:List Int),(run cs g n d k at' B mem).left<=n/\(0<g->0<n->(run cs g n d k at' B mem).left<n)
 |0,n,d,k,at',B,mem=>⟨Nat.le_refl _,fun h=>by omega⟩
 |g+1,0,d,k,at',B,mem=>⟨Nat.le_refl _,fun _ h=>by omega⟩
 | g + 1,n+1,d,k,at',B,mem=>by
   suffices h:(run cs (g+1) (n+1) d k at' B mem).left<=n from⟨by omega,fun _ _=>by omega⟩
   rcases hs:bg cs k at' B mem with⟨a,b,m⟩|p|c|⟨x,q,args⟩
   · rw[dG hs];exact(dU g n d k a b m).1
   · rw[iZ hs];exact Nat.le_refl _
   · rw[run_halt hs];exact Nat.le_refl _
   · by_cases hd:12<=d+1
     · rw[dQ hs hd];exact Nat.le_refl _
     · have h1:=(dU g n (d+1) q 0 (lQ args) mem).1
       rcases hr:run cs g n (d+1) q 0 (lQ args) mem with⟨v,m,l⟩|⟨c,m,l⟩
       · rw[dF hs hd hr]
         rw[hr]at h1
         have h2:=(dU g l d k (at'+1) (B.set x v) m).1
         simp only[Rs.left]at h1
         omega
       · rw[dM hs hd hr]
         rw[hr]at h1
         exact h1
theorem jE:∀(g g' n d k at':Nat)(B mem:List Int),n<g->n<g'->run cs g n d k at' B mem=run cs g' n d k at' B mem
 |0,g',n,d,k,at',B,mem,h,_=>by omega
 |g+1,0,n,d,k,at',B,mem,_,h=>by omega
 |g+1,g'+1,0,d,k,at',B,mem,_,_=>by rw[run,run]
 | g + 1,g'+1,n+1,d,k,at',B,mem,h,h'=>by
   rcases hs:bg cs k at' B mem with⟨a,b,m⟩|p|c|⟨x,q,args⟩
   · rw[dG hs,dG hs];exact jE g g' n d k a b m (by omega) (by omega)
   · rw[iZ hs,iZ hs]
   · rw[run_halt hs,run_halt hs]
   · by_cases hd:12<=d+1
     · rw[dQ hs hd,dQ hs hd]
     · have e:=jE g g' n (d+1) q 0 (lQ args) mem (by omega) (by omega)
       have h1:=(dU (cs:=cs) g n (d+1) q 0 (lQ args) mem).1
       rcases hr:run cs g n (d+1) q 0 (lQ args) mem with⟨v,m,l⟩|⟨c,m,l⟩
       · rw[hr]at h1
         simp only[Rs.left]at h1
         rw[dF hs hd hr,dF hs hd (e▸hr)]
         exact jE g g' l d k (at'+1) _ m (by omega) (by omega)
       · rw[dM hs hd hr,dM hs hd (e▸hr)]
theorem fJ (e:Nat):∀(g n d k at':Nat)(B mem:List Int),n<g->(run cs g n d k at' B mem).ends->run cs (g+e) (n+e) d k at' B mem=(run cs g n d k at' B mem).more e
 |0,n,d,k,at',B,mem,h,_=>by omega
 |g+1,0,d,k,at',B,mem,_,h=>by rw[run]at h;exact absurd rfl h
 | g + 1,n+1,d,k,at',B,mem,h,hE=>by
   rw[show g+1+e=g+e+1 by omega,show n+1+e=n+e+1 by omega]
   rcases hs:bg cs k at' B mem with⟨a,b,m⟩|p|c|⟨x,q,args⟩
   · rw[dG hs]at hE ⊢
     rw[dG hs]
     exact fJ e g n d k a b m (by omega) hE
   · rw[iZ hs,iZ hs];rfl
   · rw[run_halt hs,run_halt hs];rfl
   · by_cases hd:12<=d+1
     · rw[dQ hs hd,dQ hs hd];rfl
     · have h1:=(dU (cs:=cs) g n (d+1) q 0 (lQ args) mem).1
       rcases hr:run cs g n (d+1) q 0 (lQ args) mem with⟨v,m,l⟩|⟨c,m,l⟩
       · have e1:=fJ e g n (d+1) q 0 (lQ args) mem (by omega) (by rw[hr];trivial)
         rw[hr]at e1 h1
         simp only[Rs.left]at h1
         rw[dF hs hd hr]at hE ⊢
         rw[dF hs hd e1]
         exact fJ e g l d k (at'+1) _ m (by omega) hE
       · rw[dM hs hd hr]at hE ⊢
         have e1:=fJ e g n (d+1) q 0 (lQ args) mem (by omega) (by rw[hr];exact hE)
         rw[hr]at e1
         rw[dM hs hd e1]
         rfl
theorem iR:∀(g n d k at':Nat)(B mem:List Int),n<g->¬(run cs g n d k at' B mem).ends->(run cs g n d k at' B mem).left=0
 |0,n,d,k,at',B,mem,h,_=>by omega
 |g+1,0,d,k,at',B,mem,_,h=>by rw[run];rfl
 | g + 1,n+1,d,k,at',B,mem,h,hE=>by
   rcases hs:bg cs k at' B mem with⟨a,b,m⟩|p|c|⟨x,q,args⟩
   · rw[dG hs]at hE ⊢
     exact iR g n d k a b m (by omega) hE
   · rw[iZ hs]at hE;exact absurd trivial hE
   · rw[run_halt hs]at hE;exact absurd (pF hs) hE
   · by_cases hd:12<=d+1
     · rw[dQ hs hd]at hE
       exact absurd (show(6:Int)≠5 by omega) hE
     · have h1:=(dU (cs:=cs) g n (d+1) q 0 (lQ args) mem).1
       rcases hr:run cs g n (d+1) q 0 (lQ args) mem with⟨v,m,l⟩|⟨c,m,l⟩
       · rw[hr]at h1
         simp only[Rs.left]at h1
         rw[dF hs hd hr]at hE ⊢
         exact iR g l d k (at'+1) _ m (by omega) hE
       · rw[dM hs hd hr]at hE ⊢
         have e1:=iR g n (d+1) q 0 (lQ args) mem (by omega) (by rw[hr];exact hE)
         rw[hr]at e1
         exact e1
structure Good (cs:List (List Ln))(k at':Nat)(B mem:List Int):Prop where
 lt:at'<(cs.getD k []).length
 lB:B.length=40
 wB:words B
 mm:Mm.ok mem=true
structure E8 (cs:List (List Ln)):Prop where
 len:1<=cs.length/\cs.length<=4
 ok:∀k,k<cs.length->Ln.isOk (cs.getD k [])=true
 call:∀k,k<cs.length->∀j,j<(cs.getD k []).length->(line cs k j).k=7->(line cs k j).n<cs.length
def uD (cs:List (List Ln))(k at':Nat)(B mem:List Int):Sr->Prop
 | .inl (a,b,m)=>Good cs k a b m
 | .inr (.inl v)=>Wd.ok v=true
 | .inr (.inr (.inl c))=>c=1\/c=2\/c=3\/c=4
 | .inr (.inr (.inr (x,q,args)))=>q<cs.length/\args.length<=3/\words args/\x<40/\∀m,Mm.ok m=true->∀v,Wd.ok v=true->Good cs k (at'+1) (B.set x v) m
theorem bF {ls:List Ln}(h:Ln.isOk ls=true):1<=ls.length/\ls.length<=300:=by unfold Ln.isOk at h;simp only[au,decide_eq_true_eq]at h;exact h.1
theorem mX {ls:List Ln}(h:Ln.isOk ls=true){j:Nat}(hj:j<ls.length):Ln.ok (ls.getD j .z)=true/\((ls.getD j .z).k=5\/(ls.getD j .z).k=6->(ls.getD j .z).n<ls.length)/\(j+1=ls.length->(ls.getD j .z).k=5\/(ls.getD j .z).k=10\/(ls.getD j .z).k=11):=by unfold Ln.isOk at h;simp only[au,decide_eq_true_eq,List.all_eq_true]at h;obtain⟨-,h2,h3⟩:=h;have hm:ls.getD j .z∈ls:=by{rw[ah,ai hj];exact List.getElem_mem hj};have h4:=h2 _ hm;unfold Ln.jC at h4;rw[au]at h4;refine⟨h4.1,fun hk=>?_,fun he=>?_⟩;{have h5:=h4.2;rw[Bool.not_eq_true',Bool.and_eq_false_iff]at h5;rcases h5 with h5|h5;{rw[Bool.or_eq_false_iff,decide_eq_false_iff_not,decide_eq_false_iff_not]at h5;rcases hk with hk|hk;{exact absurd hk h5.1};exact absurd hk h5.2};rw[decide_eq_false_iff_not]at h5;omega};unfold Ln.lJ at h3;rw[show ls.length-1=j by omega]at h3;simp only[Bool.or_eq_true,decide_eq_true_eq]at h3;omega
theorem Pp {a x y:Int}(ha:1<=a/\a<=12)(hx:Wd.ok x=true)(hy:Wd.ok y=true)(h:Wd.dc a x y≠0):Wd.dc a x y=1\/Wd.dc a x y=2\/Wd.dc a x y=3\/Wd.dc a x y=4:=by rcases Wd.rV a x y with⟨q,-,-⟩|⟨q,-⟩|⟨q,-,-⟩;{exact absurd q h};{exfalso;unfold Wd.dc at q;rw[az ⟨hx,hy⟩,ax (by omega)]at q;split at q;{split at q;{cases q};split at q<;>cases q};cases q};omega
theorem fP (V:E8 cs)(hk:k<cs.length)(G:Good cs k at' B mem):uD cs k at' B mem (bg cs k at' B mem):=by have lg:=V.ok k hk;obtain⟨hok,Oj,hlast⟩:=mX lg G.lt;have hcall:=V.call k hk at' G.lt;have hlt:=G.lt;change Ln.ok (line cs k at')=true at hok;change(line cs k at').k=5\/(line cs k at').k=6->(line cs k at').n<_ at Oj;change at'+1=_->(line cs k at').k=5\/(line cs k at').k=10\/(line cs k at').k=11 at hlast;unfold bg;obtain⟨x,hx⟩:∃x,line cs k at'=x:=⟨_,rfl⟩;rw[hx]at hok Oj hlast hcall ⊢;clear hx;have hkk:=Ln.eP hok;have hs3:=Ln.H9 hok;have hq:∀j,Wd.ok (bx B j)=true:=fun j=>Mn.bK G.wB _;obtain⟨p,dd,a,b,nn,l⟩:=x;simp only at hok Oj hlast hcall hkk hs3;have nx:p≠5->p≠10->p≠11->at'+1<(cs.getD k []).length:=fun h1 h2 h3=>by{rcases Nat.lt_or_ge (at'+1) (cs.getD k []).length with h|h;{exact h};have:=hlast (by omega);omega};have hset:p≠5->p≠10->p≠11->∀v,Wd.ok v=true->∀m,Mm.ok m=true->Good cs k (at'+1) (B.set dd.toNat v) m:=fun h1 h2 h3 v hv m hm=>⟨nx h1 h2 h3,by rw[List.length_set];exact G.lB,Mn.qi G.wB hv _,hm⟩;unfold Ln.ok at hok;rw[au]at hok;have has:=hok.2;unfold step;simp only;have hc:p=1\/p=2\/p=3\/p=4\/p=5\/p=6\/p=7\/p=8\/p=9\/p=10\/p=11:=by{omega};rcases hc with rfl|rfl|rfl|rfl|rfl|rfl|rfl|rfl|rfl|rfl|rfl;{simp[Ln.asks]at has;exact hset (by omega) (by omega) (by omega) _ has.2.1 _ G.mm};{exact hset (by omega) (by omega) (by omega) _ (hq _) _ G.mm};{simp[Ln.asks,Wd.bA]at has;show uD cs k at' B mem (if _ then _ else _);by_cases h:Wd.dc nn (bx B a) (bx B b)=0;{rw[az h];exact hset (by omega) (by omega) (by omega) _ (Wd.Rc _ _ _) _ G.mm};rw[ax h];exact Pp (by omega) (hq _) (hq _) h};{exact hset (by omega) (by omega) (by omega) _ (by split<;>rfl) _ G.mm};{simp[Ln.asks,Wd.bA]at has;exact⟨by have:=Oj (.inl rfl);omega,G.lB,G.wB,G.mm⟩};{simp[Ln.asks,Wd.bA]at has;refine⟨?_,G.lB,G.wB,G.mm⟩;have h1:=Oj (.inr rfl);have h2:=nx (by omega) (by omega) (by omega);split<;>omega};{simp[Ln.asks,Wd.bA,Ln.dX]at has;refine⟨by have:=hcall rfl;omega,by rw[List.length_map];exact hs3,fun y hy=>?_,by omega,fun m hm v hv=>hset (by omega) (by omega) (by omega) v hv m hm⟩;obtain⟨j,-,rfl⟩:=List.mem_map.1 hy;exact hq j};{simp[Ln.asks,Wd.bA]at has;show uD cs k at' B mem (if _ then _ else _);by_cases h:Mm.there (bx B a) nn=true;{rw[az h];have hb:=Mm.rq (Mm.j3 G.mm) (bx B a+nn).toNat 4;rw[show(256:Int) ^ 4=4294967296 from rfl]at hb;exact hset (by omega) (by omega) (by omega) _ (Wd.aU.2 (by omega)) _ G.mm};rw[ax h];exact .inr (.inr (.inl rfl))};{show uD cs k at' B mem (if Mm.there (bx B a) nn=true then Sr.next (at'+1) B (Mm.iq mem (bx B a+nn).toNat (bx B b) 4)else Sr.halt 3);by_cases h:Mm.there (bx B a) nn=true;{rw[az h];obtain⟨q,q1,q2,q3⟩:=Mm.place h;exact⟨nx (by omega) (by omega) (by omega),G.lB,G.wB,by rw[q2];exact Mm.Gv _ G.mm q3⟩};rw[ax h];exact .inr (.inr (.inl rfl))};{exact hq _};exact .inr (.inr (.inr rfl))
theorem eX (V:E8 cs)(hk:k<cs.length){args:List Int}(hl:args.length<=3)(hw:words args)(hm:Mm.ok mem=true):Good cs k 0 (lQ args) mem:=by refine⟨by have:=bF (V.ok k hk);omega,?_,Mn.gM hw (fun x hx=>?_),hm⟩;{unfold lQ;rw[List.length_append,List.length_replicate];omega};rw[List.eq_of_mem_replicate hx];rfl
theorem fK (V:E8 cs):∀(g n d k at':Nat)(B mem:List Int),k<cs.length->Good cs k at' B mem->(run cs g n d k at' B mem).Hf
 |0,n,d,k,at',B,mem,hk,G=>⟨G.mm,by omega,by omega⟩
 |g+1,0,d,k,at',B,mem,hk,G=>⟨G.mm,by omega,by omega⟩
 | g + 1,n+1,d,k,at',B,mem,hk,G=>by
   have F:=fP V hk G
   rcases hs:bg cs k at' B mem with⟨a,b,m⟩|v|c|⟨x,q,args⟩
   · rw[dG hs]
     rw[hs]at F
     exact fK V g n d k a b m hk F
   · rw[iZ hs]
     rw[hs]at F
     exact⟨F,G.mm⟩
   · rw[run_halt hs]
     rw[hs]at F
     have F':c=1\/c=2\/c=3\/c=4:=F
     exact⟨G.mm,by omega,by omega⟩
   · by_cases hd:12<=d+1
     · rw[dQ hs hd]
       exact⟨G.mm,by omega,by omega⟩
     · rw[hs]at F
       obtain⟨f1,f2,f3,f4,f5⟩:=F
       have I:=fK V g n (d+1) q 0 (lQ args) mem f1 (eX V f1 f2 f3 G.mm)
       rcases hr:run cs g n (d+1) q 0 (lQ args) mem with⟨v,m,l⟩|⟨c,m,l⟩
       · rw[hr]at I
         rw[dF hs hd hr]
         exact fK V g l d k (at'+1) _ m hk (f5 m I.2 v I.1)
       · rw[hr]at I
         rw[dM hs hd hr]
         exact I
def fV (cs:List (List Ln))(ls:List Ln):Bool:=ls.all fun x=> !(decide (x.k=7)&&decide ((cs.length:Int)<=x.n))
def valid (cs:List (List Ln)):Bool:=decide (1<=cs.length/\cs.length<=4)&&cs.all fun ls=>Ln.isOk ls&&fV cs ls
def isOk (cs:List (List Ln))(k:Int)(args mem:List Int)(aL:Int):Bool:=
 valid cs&&(decide (0<=k/\k<cs.length)&&(decide (args.length<=3)&&(args.all Wd.ok&&(Mm.ok mem&&decide (0<=aL/\aL<=200000)))))
theorem iW {k aL:Int}{args:List Int}:isOk cs k args mem aL=true↔valid cs=true/\(0<=k/\k<cs.length)/\args.length<=3/\words args/\Mm.ok mem=true/\0<=aL/\aL<=200000:=by simp only[isOk,au,decide_eq_true_eq,List.all_eq_true,words]
theorem mI (h:valid cs=true):E8 cs:=by unfold valid at h;simp only[au,decide_eq_true_eq,List.all_eq_true]at h;obtain⟨h1,h2⟩:=h;have hm:∀k,k<cs.length->cs.getD k []∈cs:=fun k hk=>by{rw[ah,ai hk];exact List.getElem_mem hk};refine⟨h1,fun k hk=>(h2 _ (hm k hk)).1,fun k hk j hj h7=>?_⟩;have:=(h2 _ (hm k hk)).2;unfold fV at this;rw[List.all_eq_true]at this;have hj':line cs k j∈cs.getD k []:=by{unfold line;rw[ah (l:=cs.getD k []),ai hj];exact List.getElem_mem hj};have h3:=this _ hj';rw[Bool.not_eq_true',Bool.and_eq_false_iff,decide_eq_false_iff_not,decide_eq_false_iff_not]at h3;rcases h3 with h3|h3;{exact absurd h7 h3};omega
def out (cs:List (List Ln))(k:Int)(args mem:List Int)(n:Nat):Rs:=run cs (n+1) n 0 k.toNat 0 (lQ args) mem
def code (cs:List (List Ln))(k:Int)(args mem:List Int)(aL:Int):Int:=if isOk cs k args mem aL=true then(out cs k args mem aL.toNat).code else 7
def value (cs:List (List Ln))(k:Int)(args mem:List Int)(aL:Int):Int:=if isOk cs k args mem aL=true then(out cs k args mem aL.toNat).value else 0
def kL (cs:List (List Ln))(k:Int)(args mem:List Int)(aL:Int):List Int:=if isOk cs k args mem aL=true then(out cs k args mem aL.toNat).mem else[]
def BI (cs:List (List Ln))(k:Int)(args mem:List Int)(aL:Int):Int:=if isOk cs k args mem aL=true then aL-(out cs k args mem aL.toNat).left else -1
theorem oK {k aL:Int}{args:List Int}(h:isOk cs k args mem aL=true)(n:Nat):(out cs k args mem n).Hf:=by obtain⟨h1,⟨h2,h3⟩,h4,h5,h6,h7⟩:=iW.1 h;have V:=mI h1;exact fK V _ _ _ _ _ _ _ (by omega) (eX V (by omega) h4 h5 h6)
theorem zf {k:Int}{args:List Int}{n:Nat}(h:(out cs k args mem n).ends)(e:Nat):out cs k args mem (n+e)=(out cs k args mem n).more e:=by unfold out at h ⊢;rw[show n+e+1=n+1+e by omega];exact fJ e _ _ _ _ _ _ _ (by omega) h
theorem Ab {k:Int}{args:List Int}{n:Nat}(h:¬(out cs k args mem n).ends):(out cs k args mem n).left=0:=iR _ _ _ _ _ _ _ (by omega) h
theorem zQ (cs:List (List Ln))(k:Int)(args mem:List Int)(n:Nat):(out cs k args mem n).left<=n:=(dU _ _ _ _ _ _ _).1
end Rl
theorem Qd:Tryz.prog.built 115 []=some ((List.replicate 64 0).map bv).toArray:=by kernel_rfl
theorem nD {ops:Array Oper}{rest:List Oper}{o:Oper}{a:Act}{w:World}{Q:Exit->Act->World->Prop}(hgd:o.guard=none)(ho:o.op= .build 115 #[])(zs:List Value)(hz:(List.replicate 64 0).map bv=zs)(h:wpList Tryz.prog ops Q rest (a.put o.dst (.agg zs.toArray)) w):wpList Tryz.prog ops Q (o::rest) a w:=by refine wpList_plain hgd fun K hK=>?_;have hrun:=run_build (P:=Tryz.prog) w 115 #[] _ Qd;rw[hz]at hrun;unfold Oper.wp execOp;simp only[ho,Sem.run_bind];rw[show(Array.map (fun x:Nat×Operand=>(x.fst,a.eval x.snd)) #[])=#[]from by simp,hrun];simp only[Result.andThen_ok];exact hK _ _ h
theorem Da (a:Option Addr)(len cap:Nat)(xs:List Int)(w:World)(hs:IL w a len xs):Calls Tryz.prog 65 #[.slice a len cap] w fun e w'=>e= .returned (.tuple #[.agg ((Mm.cells xs).map bv).toArray, .bool (Mm.ok xs)])/\Below w.heap.size w w':=by have HS:=ae hs;have hl:=hs.1;have hmx:=hs.2.1;unfold maxLen at hmx;clear hs;obtain⟨zs,hzs⟩:∃zs,(List.replicate 64 (0:Int)).map iv=zs:=⟨_,rfl⟩;obtain⟨zb,hzb⟩:∃zb,(List.replicate 64 (0:Int)).map bv=zb:=⟨_,rfl⟩;have HZ:=Cw;have HC:=BR;rw[hzs]at HZ;rw[hzb]at HC;by_cases h64:len=64;{subst h64;have hlz:zb.length=64:=by{rw[←hzb];simp};have Yz:zs.length=64:=by{rw[←hzs];simp};have HL:=ae (ak hl (ak hlz Yz));clear hmx hl hlz Yz;go_enter Tryz.func65,Tryz.ntmps65;go_wp2_with(refine fG 115 rfl ?_);refine⟨?_⟩;refine dP rfl _ rfl zb 64 HC ?_;intro g1 w1 hg1 hA1 hB1;go_wp2_with(refine fG 168 rfl ?_);refine⟨?_⟩;refine dP rfl _ rfl zs 64 HZ ?_;intro g2 w2 hg2 hA2 hB2;go_wp2_with(refine EF _ _ _ _ rfl ?_);refine⟨?_⟩;obtain⟨cs,hcs⟩:∃cs,xs.map iv=cs:=⟨_,rfl⟩;have hsp:splice zs 0 cs=cs:=by{have e1:=HL.out.1;have e2:=HL.out.2.2;unfold splice;rw[List.take_zero,List.nil_append,List.drop_eq_nil_of_le (by rw[e2,←hcs,List.length_map];omega),List.append_nil]};have hBa:=hB1.trans (hB2.mono hB1.size);refine wpList_copy_splice rfl _ _ _ _ rfl 2 Tryz.underlying27 (by kernel_rfl) _ _ _ _ _ _ rfl rfl g2 0 zs 168 hA2 cs (by rw[←hcs,List.length_map,HL.out.1];rfl) (fun _=>⟨rfl,?_⟩) (by rw[←hcs,List.length_map,HL.out.1,HL.out.2.2];omega) (by rw[←hcs];exact sV) g2 w2 (Below.refl _ _) (Nat.le_refl _) ?_;{obtain⟨-,-,h3|⟨b,off,rfl,hb,hx⟩⟩:=HS.out;{omega};refine⟨_,rfl,fun j v hv=>?_⟩;rw[←hcs]at hv;have hj:j<64:=by{have:=(List.getElem?_eq_some_iff.1 hv).1;rwa [List.length_map,HL.out.1]at this};rw[gK (by rw[HL.out.1];exact hj)]at hv;cases hv;(have hadd:(⟨b,off,none⟩:Addr).add j=⟨b,off+j,none⟩:=by unfold Addr.add;split<;>simp_all);rw[hadd];exact(hBa.cell (p:=⟨b,off+j,none⟩) hb).trans (hx j hj)};intro w3 Tx hB3;rw[hsp]at Tx;have hA3:dS w3 g2 168 cs:=Tx.out;have yJ:dS w3 g1 115 zb:=(hB3.block g1 (by have:=hA1.lt;have:=hg2.out;omega)).trans (hA1.kept hB2);have dK:Below w.heap.size w w3:=hBa.trans (hB3.mono (by have:=hg2.out;have:=hB1.size;omega));go_wp2_with(refine fG 115 rfl ?_);refine⟨?_⟩;refine dP rfl _ rfl zb 64 HC ?_;intro g3 w4 hg3 YA hB4;have qY:=hA3.kept hB4;have Ro:=yJ.kept hB4;have hBd:=dK.trans (hB4.mono dK.size);go_wp2_with(refine iI 168 _ rfl ?_);refine⟨?_⟩;refine fF rfl _ _ rfl g2 rfl _ cs qY 64 2 Tryz.underlying168 (by rw[←hcs,List.length_map,HL.out.1];exact pJ) ?_;have HG:Hid (w.heap.size<=g1/\w.heap.size<=g2/\w.heap.size<=g3/\g1≠g2/\g2≠g3/\g1≠g3):=by{have e1:=hg1.out;have e2:=hg2.out;have e3:=hg3.out;have s1:=hB1.size;have s2:=hB2.size;have s3:=hA1.lt;have s4:=yJ.lt;have s5:=hA3.lt;exact⟨by omega,by omega,by omega,by omega,by omega,by omega⟩};have HW:=ae (ak hBd (ak Ro qY));clear hA1 yJ Ro hA2 qY hA3 Tx hB1 hB2 hB3 hB4 hBa dK hBd hg1 hg2 hg3 hsp HC HZ HS;go_wp2;go_loopw [6,7,16,17,18,19,20,21,22,23,24] (fun _ _ i _ _ _ _ _ _ _ _ wr=>∃(k:Nat)(ys:List Int),i= .int .i64 k/\k<=64/\ys.length=64/\(∀j,j<k->ys.getD j 0=(Mm.low xs).getD j 0)/\dS wr g3 115 (ys.map bv)/\dS wr g1 115 zb/\dS wr g2 168 cs/\Below w.heap.size w wr) (fun _ _ i _ _ _ _ _ _ _ _ _=>64-(intOf i).toNat);(case atStart=>exact⟨0,List.replicate 64 0,rfl,by omega,by simp,by simp,by rw[hzb];exact YA,HW.out.2.1,HW.out.2.2,HW.out.1⟩);case round=>obtain⟨k,ys,rfl,hk,hyl,hys,qy,yJ,qY,hB⟩:=hrel;have HY:=ae (ak hyl hys);have HA:=ae (ak yJ qY);clear YA qY yJ;by_cases hlt:k<64;{have hget:cs[k]?=some (.int .i64 (xs.getD k 0)):=by{rw[←hcs];exact gK (by rw[HL.out.1];exact hlt)};have fI:(k:Int)<64:=by{omega};have hc:=qy.cell (gK (f:=bv) (k:=k) (by omega));have hf:=qy.frozen k;have hset:=qy.set k (bv ((Mm.low xs).getD k 0));rw[←List.map_set]at hset;obtain⟨p,hp⟩:∃p,xs.getD k 0=p:=⟨_,rfl⟩;obtain⟨q,hq⟩:∃q,ys.getD k 0=q:=⟨_,rfl⟩;rw[hp]at hget;rw[hq]at hc;have hp2:(Mm.low xs).getD k 0=p%256:=by{rw[Mm.Eb,hp]};rw[hp2]at hset;have HP:=ae hp2;have HS:=ae hset;have HB:=ae hB;clear hyl hys hp hp2 hq hset qy hB;unfold bv at hc;go_wp2_with(refine rJ 168 _ _ rfl ?_);refine⟨?_⟩;refine nI rfl _ _ _ rfl cs k rfl rfl 64 2 Tryz.underlying168 hlt (fun _=>Tryz.sizeOf2 _) (fun _=>Tryz.isAgg2 _) _ hget ?_;go_wp2;go_roundw;(case rel=>obtain⟨y1,y2⟩:=z8 (f:=fun j=>(Mm.low xs).getD j 0) HY.out hlt HP.out;obtain⟨-,-,o3,-,o5,o6⟩:=HG.out;exact⟨k+1,ys.set k (p%256),by simp,by omega,y1,y2,HS.out,HA.out.1.dJ (aC _ ⟨g3,k,none⟩ _) (by simpa using o6),HA.out.2.dJ (aC _ ⟨g3,k,none⟩ _) (by simpa using o5),HB.out.setCell (p:=⟨g3,k,none⟩) o3 _⟩);case measure=>simp[intOf];omega};obtain rfl:k=64:=by{omega};have hlo:(Mm.low xs).length=64:=by{rw[Mm.Dy];exact HL.out.1};have e:ys=Mm.low xs:=zC HY.out hlo;have hbd:=Mm.G5 xs;have heq:=Mm.GK HL.out.1;have hce:Mm.ok xs=true->Mm.cells xs=Mm.low xs:=fun h=>by{rw[Mm.cells,az h,Mm.RD h]};have hcn:Mm.ok xs=false->Mm.cells xs=List.replicate 64 0:=fun h=>by{rw[Mm.cells,ax (by rw[h];simp)]};subst e;obtain⟨ls,hls⟩:∃ls,Mm.low xs=ls:=⟨_,rfl⟩;rw[hls]at qy hlo hbd heq hce;have HB:=ae hB;have Tx:=ae qy;have HE:=ae (ak hlo hbd);have hne:=bP.any wr;clear hyl hys HY hls hB hlo hbd;go_wp2;refine bY (by kernel_rfl) (by kernel_rfl) ?_;refine BigFrame.wpQuiet_want rfl fun K hK=>qH _ _ rfl g3 rfl _ (ls.map bv) (fun _ ⟨px,hpx⟩=>by rw[hpx];exact Tx.out.kept px.h) 64 5 Tryz.underlying115 (by rw[List.length_map,HE.out.1];exact iw) (hK _ ?_);clear hK K;refine BigFrame.wpQuiet_want rfl fun K hK=>zA 100 _ _ rfl _ (.agg (ls.map iv).toArray) rfl (fun w=>by simp) (fun _ ⟨px,hpx⟩=>by rw[hpx];exact bW (zJ ls HE.out.1 HE.out.2 px.to)) (hK _ ?_);clear hK K;refine BigFrame.wpQuiet_want rfl fun K hK=>qH _ _ rfl g2 rfl _ cs (fun _ ⟨px,hpx⟩=>by rw[hpx];exact HA.out.2.kept px.h) 64 2 Tryz.underlying168 (by rw[←hcs,List.length_map,HL.out.1];exact pJ) (hK _ ?_);clear hK K;refine BigFrame.wpQuiet_want rfl fun K hK=>Ca _ _ _ _ rfl ls xs rfl (by rw[hcs];rfl) 64 2 Tryz.underlying168 Tryz.underlying2 (fun _=>Tryz.sizeOf2 _) HE.out.1 HL.out.1 (by simp) (hK _ ?_);clear hK K;refine wpQuiet_nil ?_;rintro _ ⟨pw,rfl⟩;have cZ:=HB.out.trans (pw.h.mono HB.out.size);have YB:=ak (HA.out.1.kept pw.h) (Tx.out.kept pw.h);generalize pw.to=w7 at*;rw[heq];clear qy hne heq;have HA7:=ae YB;have HB7:=ae cZ;clear YB cZ Tx;rcases hok:Mm.ok xs;{have HR:Hid ((Mm.cells xs).map bv=zb/\Mm.ok xs=false):=⟨by rw[hcn hok,hzb],hok⟩;have hlz:zb.length=64:=HL.out.2.1;clear hcn hce hok;go_wp2_with(refine lC 115 _ rfl ?_);refine⟨?_⟩;refine nD rfl rfl zb hzb ?_;go_wp2_with(refine iy 115 _ _ rfl ?_);refine⟨?_⟩;refine eU rfl _ _ _ rfl g1 zb rfl rfl _ _ HA7.out.1 (by rw[hlz];exact iw) rfl (by rw[←hzb];exact qw) ?_;intro w8 UI UJ;have HA8:=ae UI;go_wp2;refine bodyPost_ret (v:= .tuple #[.agg zb.toArray, .bool false]) ?_ rfl ⟨by rw[HR.out.1,HR.out.2],aI HB7.out UJ HG.out.1⟩;exact kK rfl _ _ g1 _ zb _ 64 5 rfl rfl HA8.out Tryz.underlying115 (by rw[hlz];exact iw)};have HR:Hid ((Mm.cells xs).map bv=ls.map bv/\Mm.ok xs=true):=⟨by rw[hce hok],hok⟩;have hlz:zb.length=64:=HL.out.2.1;have hll:(ls.map bv).length=64:=by{rw[List.length_map];exact HE.out.1};clear hcn hce hok;go_wp2_with(refine iI 115 _ rfl ?_);refine⟨?_⟩;refine fF rfl _ _ rfl g3 rfl _ _ HA7.out.2 64 5 Tryz.underlying115 (by rw[hll];exact iw) ?_;go_wp2_with(refine iy 115 _ _ rfl ?_);refine⟨?_⟩;refine eU rfl _ _ _ rfl g1 (ls.map bv) rfl rfl _ _ HA7.out.1 (by rw[hll];exact iw) (by rw[hlz,hll]) qw ?_;intro w8 UI UJ;have HA8:=ae UI;go_wp2;refine bodyPost_ret (v:= .tuple #[.agg (ls.map bv).toArray, .bool true]) ?_ rfl ⟨by rw[HR.out.1,HR.out.2],aI HB7.out UJ HG.out.1⟩;exact kK rfl _ _ g1 _ (ls.map bv) _ 64 5 rfl rfl HA8.out Tryz.underlying115 (by rw[hll];exact iw)};have hno:Mm.ok xs=false:=by{rw[Bool.eq_false_iff];intro h;exact h64 (hl.symm.trans (Mm.iC h))};have hce:(Mm.cells xs).map bv=zb:=by{rw[←hzb,Mm.cells,ax (by rw[hno];simp)]};rw[hce,hno];have acM:¬(len:Int)=64:=by{omega};clear hl hce hno;go_enter Tryz.func65,Tryz.ntmps65;go_wp2_with(refine fG 115 rfl ?_);refine⟨?_⟩;refine dP rfl _ rfl zb 64 HC ?_;intro g1 w1 hg1 hA1 hB1;go_wp2_with(refine lC 115 _ rfl ?_);refine⟨?_⟩;refine nD rfl rfl zb hzb ?_;go_wp2_with(refine iy 115 _ _ rfl ?_);refine⟨?_⟩;have hlz:zb.length=64:=by{rw[←hzb];simp};refine eU rfl _ _ _ rfl g1 zb rfl rfl _ _ hA1 (by rw[hlz];exact iw) rfl (by rw[←hzb];exact qw) ?_;intro w5 OW hg5;have Tp:=ae OW;go_wp2;have o2:w.heap.size<=g1:=by{have:=hg1.out;omega};refine bodyPost_ret (v:= .tuple #[.agg zb.toArray, .bool false]) ?_ rfl ⟨rfl,aI hB1 hg5 o2⟩;exact kK rfl _ _ g1 _ zb _ 64 5 rfl rfl Tp.out Tryz.underlying115 (by rw[hlz];exact iw)
theorem sj (a o:Int)(w:World):Calls Tryz.prog 146 #[.int .i64 a, .int .i64 o] w fun e w'=>e= .returned (.tuple #[.int .i64 (if Mm.there a o=true then a+o else 0), .bool (Mm.there a o)])/\w'=w:=by rcases hok:Wd.ok a;{have hth:Mm.there a o=false:=by{simp[Mm.there,hok]};rw[hth];go_enter Tryz.func146,Tryz.ntmps146;go_wp2_with(go_at_call 101;refine(aX _ _).mono ?_;rintro e w' ⟨rfl,aW⟩;subst w';rw[hok]);go_ret2;exact⟨rfl,rfl⟩};have h0:=Wd.aU.1 hok;have ha0:=h0.1;have ha1:=h0.2;clear h0;rcases hin:Wd.dH o 0 255;{have hth:Mm.there a o=false:=by{simp[Mm.there,hin]};rw[hth];go_enter Tryz.func146,Tryz.ntmps146;go_wp2_with(first|(go_at_call 101;refine(aX _ _).mono ?_;rintro e w' ⟨rfl,aW⟩;subst w';rw[hok])|(go_at_call 66;refine(aZ _ _ _ _).mono ?_;rintro e w' ⟨rfl,aW⟩;subst w';rw[hin]));go_ret2;exact⟨rfl,rfl⟩};have h1:=Wd.bA.1 hin;have ho0:=h1.1;have ho1:=h1.2;clear h1;by_cases hle:a+o<=60;{have hth:Mm.there a o=true:=Mm.jd.2 ⟨ha0,ho0,ho1,hle⟩;rw[hth,az rfl];go_enter Tryz.func146,Tryz.ntmps146;go_wp2_with(first|(go_at_call 101;refine(aX _ _).mono ?_;rintro e w' ⟨rfl,aW⟩;subst w';rw[hok])|(go_at_call 66;refine(aZ _ _ _ _).mono ?_;rintro e w' ⟨rfl,aW⟩;subst w';rw[hin]));go_ret2;exact⟨rfl,rfl⟩};have hth:Mm.there a o=false:=by{rw[Bool.eq_false_iff];intro h;exact hle (Mm.jd.1 h).2.2.2};rw[hth];go_enter Tryz.func146,Tryz.ntmps146;go_wp2_with(first|(go_at_call 101;refine(aX _ _).mono ?_;rintro e w' ⟨rfl,aW⟩;subst w';rw[hok])|(go_at_call 66;refine(aZ _ _ _ _).mono ?_;rintro e w' ⟨rfl,aW⟩;subst w';rw[hin]));go_ret2;exact⟨rfl,rfl⟩
theorem Fh (bs:List Int)(hl:bs.length=64)(hb:∀j,0<=bs.getD j 0/\bs.getD j 0<=255)(k:Nat)(hk:k+4<=64)(v:Int)(h0:0<=v)(h1:v<=4294967295)(w:World):Calls Tryz.prog 140 #[.agg (bs.map bv).toArray, .int .i64 k, .int .u32 v] w fun e w'=>e= .returned (.agg ((Mm.iq bs k v 4).map bv).toArray)/\Below w.heap.size w w':=by have HL:=ae hl;obtain⟨cs,hcs⟩:∃cs,bs.map bv=cs:=⟨_,rfl⟩;obtain⟨zb,hzb⟩:∃zb,(List.replicate 64 (0:Int)).map bv=zb:=⟨_,rfl⟩;have HC:=BR;rw[hzb]at HC;rw[hcs];clear hl;go_enter Tryz.func140,Tryz.ntmps140;go_wp2_with(refine mH 115 _ rfl ?_);refine⟨?_⟩;refine jl rfl _ _ rfl cs rfl ?_;intro g1 w1 hg1 hA1 hB1;go_wp2_with(refine fG 115 rfl ?_);refine⟨?_⟩;refine dP rfl _ rfl zb 64 HC ?_;intro g2 w2 hg2 hA2 hB2;have hBw:=hB1.trans (hB2.mono hB1.size);have HW:=ae (ak hBw (ak (hA1.kept hB2) hA2));have HG:Hid (w.heap.size<=g1/\w.heap.size<=g2/\g1≠g2):=by{have e1:=hg1.out;have e2:=hg2.out;have s1:=hB1.size;have s3:=hA1.lt;exact⟨by omega,by omega,by omega⟩};clear hA1 hA2 hB1 hB2 hBw hg1 hg2 HC;go_wp2;go_loopw [7,8,9,10,11,12,13,14,15,16,17,18,19,20] (fun _ i _ _ _ _ _ _ _ _ _ _ _ _ wr=>∃(j:Nat),i= .int .i64 j/\j<=4/\dS wr g1 115 ((Mm.iq bs k v j).map bv)/\dS wr g2 115 zb/\Below w.heap.size w wr) (fun _ i _ _ _ _ _ _ _ _ _ _ _ _ _=>4-(intOf i).toNat);(case atStart=>exact⟨0,rfl,by omega,by rw[Mm.iq,hcs];exact HW.out.2.1,HW.out.2.2,HW.out.1⟩);case round=>obtain⟨j,rfl,hj,hA1,hA2,hB⟩:=hrel;have HA:=ae (ak hA2 hB);by_cases hlt:j<4;{have fI:(j:Int)<4:=by{omega};have hkj:k+j<64:=by{omega};have hc:=hA1.cell (gK (f:=bv) (k:=k+j) (by rw[Mm.jN,HL.out];exact hkj));have hf:=hA1.frozen (k+j);have hset:=hA1.set (k+j) (bv (v / 256 ^ j%256));rw[←List.map_set,←Mm.iq]at hset;obtain⟨q,hq⟩:∃q,(Mm.iq bs k v j).getD (k+j) 0=q:=⟨_,rfl⟩;rw[hq]at hc;have HS:=ae hset;clear hq hset hA1 hA2 hB hb;unfold bv at hc;obtain rfl|rfl|rfl|rfl:j=0\/j=1\/j=2\/j=3:=by{omega};{rw[Nat.add_zero]at hc hf;go_wp2;have e:=HS.out;rw[Nat.add_zero,show v / 256 ^ 0%256=v%256 by simp]at e;exact⟨⟨1,rfl,by omega,e,HA.out.1.dJ (aC _ ⟨g1,k,none⟩ _) (by simpa using Ne.symm HG.out.2.2),HA.out.2.setCell (p:=⟨g1,k,none⟩) HG.out.1 _⟩,by simp[intOf]⟩};{go_wp2;have e:=HS.out;rw[show(256:Int) ^ 1=256 from rfl]at e;exact⟨⟨2,rfl,by omega,e,HA.out.1.dJ (aC _ ⟨g1,k+1,none⟩ _) (by simpa using Ne.symm HG.out.2.2),HA.out.2.setCell (p:=⟨g1,k+1,none⟩) HG.out.1 _⟩,by simp[intOf]⟩};{go_wp2;have e:=HS.out;rw[show(256:Int) ^ 2=65536 from rfl]at e;exact⟨⟨3,rfl,by omega,e,HA.out.1.dJ (aC _ ⟨g1,k+2,none⟩ _) (by simpa using Ne.symm HG.out.2.2),HA.out.2.setCell (p:=⟨g1,k+2,none⟩) HG.out.1 _⟩,by simp[intOf]⟩};go_wp2;have e:=HS.out;rw[show(256:Int) ^ 3=16777216 from rfl,show v / 16777216%256=v / 16777216 by omega]at e;exact⟨⟨4,rfl,by omega,e,HA.out.1.dJ (aC _ ⟨g1,k+3,none⟩ _) (by simpa using Ne.symm HG.out.2.2),HA.out.2.setCell (p:=⟨g1,k+3,none⟩) HG.out.1 _⟩,by simp[intOf]⟩};obtain rfl:j=4:=by{omega};have hll:((Mm.iq bs k v 4).map bv).length=64:=by{rw[List.length_map,Mm.jN];exact HL.out};have hlz:zb.length=64:=by{rw[←hzb];simp};obtain⟨ys,hys⟩:∃ys,(Mm.iq bs k v 4).map bv=ys:=⟨_,rfl⟩;have HY:=ae hys;have hone:∀x∈ys,x.oneCell'=true:=by{rw[←hys];exact qw};rw[hys]at hll hA1;clear hys hb hB;go_wp2_with(refine iI 115 _ rfl ?_);refine⟨?_⟩;refine fF rfl _ _ rfl g1 rfl _ _ hA1 64 5 Tryz.underlying115 (by rw[hll];exact iw) ?_;go_wp2_with(refine iy 115 _ _ rfl ?_);refine⟨?_⟩;refine eU rfl _ _ _ rfl g2 ys rfl rfl _ _ hA2 (by rw[hll];exact iw) (by rw[hll,hlz]) hone ?_;intro w5 OW hg5;have Tp:=ae OW;go_wp2;refine bodyPost_ret (v:= .agg ys.toArray) ?_ rfl ⟨by rw[HY.out],aI HA.out.2 hg5 HG.out.2.1⟩;exact results_cell_row rfl _ _ g2 _ _ _ _ rfl Tp.out Tryz.underlying115 rfl (by rw[List.size_toArray,hll];exact iw)
theorem xZ {x q:Int}(i:Nat)(hi:i<=24)(h0:0<=x)(h1:x<2 ^ i)(h2:0<=q)(h3:q<=255):bits .or .u32 x (q*2 ^ i)=x+q*2 ^ i:=by obtain⟨n,rfl⟩:=Int.eq_ofNat_of_zero_le h0;obtain⟨m,rfl⟩:=Int.eq_ofNat_of_zero_le h2;have hn:n<2 ^ i:=by{have:((n:Int))<((2 ^ i:Nat):Int):=by{push_cast;exact h1};exact_mod_cast this};have hm:m<=255:=by{omega};have hp:2 ^ i<=2 ^ 24:=Nat.pow_le_pow_right (by omega) hi;have hmi:m*2 ^ i<=255*2 ^ 24:=Nat.mul_le_mul hm hp;have h:=(bits_nat .u32 32 (by decide) Wd.rf n (m*2 ^ i) (by omega) (by omega)).2;have e:((m*2 ^ i:Nat):Int)=(m:Int)*2 ^ i:=by{push_cast;rfl};rw[e]at h;rw[h,Nat.mul_comm,Nat.or_comm,←Nat.two_pow_add_eq_or_of_lt hn m];push_cast;rw[Int.mul_comm,Int.add_comm]
theorem Fg (bs:List Int)(hl:bs.length=64)(hb:∀j,0<=bs.getD j 0/\bs.getD j 0<=255)(k:Nat)(hk:k+4<=64)(w:World):Calls Tryz.prog 138 #[.agg (bs.map bv).toArray, .int .i64 k] w fun e w'=>e= .returned (.int .u32 (Mm.jq bs k 4))/\Below w.heap.size w w':=by have HL:=ae hl;obtain⟨cs,hcs⟩:∃cs,bs.map bv=cs:=⟨_,rfl⟩;have hbd:=Mm.rq hb k;rw[hcs];clear hl;go_enter Tryz.func138,Tryz.ntmps138;go_wp2_with(refine mH 115 _ rfl ?_);refine⟨?_⟩;refine jl rfl _ _ rfl cs rfl ?_;intro g1 w1 hg1 hA1 hB1;have HW:=ae (ak hB1 hA1);clear hA1 hB1 hg1;go_wp2;go_loop [5,6,7,8,9,10,11,12,13,14,15,16,17,18,19,20,21] (fun x _ i _ _ _ _ _ _ _ _ _ _ _ _ _ _=>∃(j:Nat),i= .int .i64 j/\j<=4/\x= .int .u32 (Mm.jq bs k j)) (fun _ _ i _ _ _ _ _ _ _ _ _ _ _ _ _ _=>4-(intOf i).toNat);(case atStart=>exact⟨0,rfl,by omega,rfl⟩);case round=>obtain⟨j,rfl,hj,rfl⟩:=hrel;by_cases hlt:j<4;{have fI:(j:Int)<4:=by{omega};have hkj:k+j<64:=by{omega};have hc:=HW.out.2.cell (hcs▸gK (f:=bv) (bs:=bs) (k:=k+j) (by rw[HL.out];exact hkj));have hp0:=(hb (k+j)).1;have hp1:=(hb (k+j)).2;have hx0:=(hbd j).1;have hx1:=(hbd j).2;have hN:Mm.jq bs k (j+1)=Mm.jq bs k j+bs.getD (k+j) 0*256 ^ j:=rfl;obtain⟨q,hq⟩:∃q,bs.getD (k+j) 0=q:=⟨_,rfl⟩;obtain⟨x,hx⟩:∃x,Mm.jq bs k j=x:=⟨_,rfl⟩;rw[hq]at hc hp0 hp1 hN;rw[hx]at hx0 hx1 hN ⊢;have HN:=ae hN;clear hq hx hN hb hbd;unfold bv at hc;obtain rfl|rfl|rfl|rfl:j=0\/j=1\/j=2\/j=3:=by{omega};{rw[Nat.add_zero]at hc;rw[show(256:Int) ^ 0=1 from rfl]at hx1;go_wp2;have e:=xZ 0 (by omega) hx0 hx1 hp0 hp1;have e2:=HN.out;rw[show(2:Int) ^ 0=1 from rfl,Int.mul_one]at e;rw[show(256:Int) ^ 0=1 from rfl,Int.mul_one]at e2;exact⟨⟨1,rfl,by omega,by rw[e];exact congrArg _ e2.symm⟩,by simp[intOf]⟩};{rw[show(256:Int) ^ 1=256 from rfl]at hx1;go_wp2;have e:=xZ 8 (by omega) hx0 hx1 hp0 hp1;have e2:=HN.out;rw[show(2:Int) ^ 8=256 from rfl]at e;rw[show(256:Int) ^ 1=256 from rfl]at e2;exact⟨⟨2,rfl,by omega,by rw[e];exact congrArg _ e2.symm⟩,by simp[intOf]⟩};{rw[show(256:Int) ^ 2=65536 from rfl]at hx1;go_wp2;have e:=xZ 16 (by omega) hx0 hx1 hp0 hp1;have e2:=HN.out;rw[show(2:Int) ^ 16=65536 from rfl]at e;rw[show(256:Int) ^ 2=65536 from rfl]at e2;exact⟨⟨3,rfl,by omega,by rw[e];exact congrArg _ e2.symm⟩,by simp[intOf]⟩};rw[show(256:Int) ^ 3=16777216 from rfl]at hx1;go_wp2;have e:=xZ 24 (by omega) hx0 hx1 hp0 hp1;have e2:=HN.out;rw[show(2:Int) ^ 24=16777216 from rfl]at e;rw[show(256:Int) ^ 3=16777216 from rfl]at e2;exact⟨⟨4,rfl,by omega,by rw[e];exact congrArg _ e2.symm⟩,by simp[intOf]⟩};obtain rfl:j=4:=by{omega};clear hb hbd;go_wp2;go_ret;exact⟨rfl,HW.out.1⟩
def OT (W:World)(n₀:Nat)(v:Value)(xs:List Int):Prop:=∃t,W.ownsRow n₀ t 1 v xs.length (xs.map iv)
theorem OI.ot {W:World}{n₀:Nat}{v:Value}{xs:List Int}(h:OI W n₀ v xs):OT W n₀ v xs:=⟨_,h⟩
theorem OT.slice {W:World}{n₀:Nat}{v:Value}{xs:List Int}(h:OT W n₀ v xs):∃a cap,v= .slice a xs.length cap/\IL W a xs.length xs:=by obtain⟨t,h⟩:=h;rcases h.2 with⟨rfl,h0⟩|⟨g,cap,cur,rfl,hb,hc,hn,hm,hs,ht⟩;{exact⟨none,0,by rw[h0],rfl,by rw[h0];exact Nat.zero_le _, .inl h0⟩};refine⟨_,cap,rfl,rfl,Nat.le_trans hn hm, .inr ⟨g,0,rfl,(h.lt g rfl).2,fun j hj=>?_⟩⟩;have:=h.cellAt j (by omega);rw[Nat.zero_add,this,List.getElem?_map,ai hj,ah,ai hj];rfl
theorem OT.il {W:World}{n₀:Nat}{a:Option Addr}{n c:Nat}{xs:List Int}(h:OT W n₀ (.slice a n c) xs):n=xs.length/\IL W a n xs:=by obtain⟨a',c',e,hil⟩:=h.slice;simp only[Value.slice.injEq]at e;obtain⟨rfl,rfl,rfl⟩:=e;exact⟨rfl,hil⟩
theorem OT.kept {W W':World}{n₀:Nat}{v:Value}{xs:List Int}(h:OT W n₀ v xs)(hB:Below W.heap.size W W'):OT W' n₀ v xs:=by obtain⟨t,h⟩:=h;refine⟨t,World.ownsRow.kept (row:=none) h ⟨hB.os,hB.tape,hB.output,hB.size,fun k hk _=>hB.block k hk⟩ ?_⟩;rcases hv:v.ownBlock with _|b;{exact .inl rfl};exact .inr (by simp)
theorem OT.dJ {W W':World}{n₀ b:Nat}{v:Value}{xs:List Int}(h:OT W n₀ v xs)(hg:W.grownBy W' (some b))(hne:∀g,v.ownBlock=some g->g≠b):OT W' n₀ v xs:=by obtain⟨t,h⟩:=h;refine⟨t,World.ownsRow.kept h hg ?_⟩;rcases hv:v.ownBlock with _|b';{exact .inl rfl};refine .inr ?_;have:=hne b' hv;simp only[ne_eq,af];omega
theorem OT.mono {W:World}{n₀ n₁:Nat}{v:Value}{xs:List Int}(h:OT W n₁ v xs)(hn:n₀<=n₁):OT W n₀ v xs:=by obtain⟨t,h⟩:=h;refine⟨t,h.1,?_⟩;rcases h.2 with h'|⟨g',cap',cur,h',hb,r⟩;{exact .inl h'};exact .inr ⟨g',cap',cur,h',Nat.le_trans hn hb,r⟩
theorem OT.lt {W:World}{n₀:Nat}{v:Value}{xs:List Int}(h:OT W n₀ v xs)(g:Nat)(hg:v.ownBlock=some g):n₀<=g/\g<W.heap.size:=by obtain⟨t,h⟩:=h;exact World.ownsRow.lt h g hg
theorem dS.ot {W:World}{n₀ g:Nat}{t:TypeId}{xs:List Int}(h:dS W g t (xs.map iv))(hg:n₀<=g)(hm:xs.length<=maxLen):OT W n₀ (.slice (some ⟨g,0,none⟩) xs.length xs.length) xs:=
 ⟨t,by simp, .inr ⟨g,xs.length,(xs.map iv).toArray,rfl,hg,h,Nat.le_refl _,hm,by simp,by rw[Nat.mul_one];exact List.take_of_length_le (by simp)⟩⟩
theorem DX (bs:List Int)(hl:bs.length=64)(hb:∀j,0<=bs.getD j 0/\bs.getD j 0<=255)(w:World):Calls Tryz.prog 103 #[.agg (bs.map bv).toArray] w fun e w'=>∃v,e= .returned v/\OT w' w.heap.size v bs/\Below w.heap.size w w':=by have HL:=ae (ak hl hb);obtain⟨cs,hcs⟩:∃cs,bs.map bv=cs:=⟨_,rfl⟩;obtain⟨zs,hzs⟩:∃zs,(List.replicate 64 (0:Int)).map iv=zs:=⟨_,rfl⟩;have HZ:=Cw;rw[hcs];rw[hzs]at HZ;have hlc:cs.length=64:=by{rw[←hcs,List.length_map];exact hl};have hlz:zs.length=64:=by{rw[←hzs];simp};clear hl hb;go_enter Tryz.func103,Tryz.ntmps103;go_wp2_with(refine mH 115 _ rfl ?_);refine⟨?_⟩;refine jl rfl _ _ rfl cs rfl ?_;intro g1 w1 hg1 hA1 hB1;go_wp2_with(refine iI 115 _ rfl ?_);refine⟨?_⟩;refine fF rfl _ _ rfl g1 rfl _ _ hA1 64 5 Tryz.underlying115 (by rw[hlc];exact iw) ?_;go_wp2_with fail;rw[←hcs];refine(zJ bs HL.out.1 HL.out.2 _).mono ?_;rintro e w2 ⟨rfl,hB2⟩;obtain⟨is,his⟩:∃is,bs.map iv=is:=⟨_,rfl⟩;have OX:is.length=64:=by{rw[←his,List.length_map];exact HL.out.1};have hone:∀x∈is,x.oneCell'=true:=by{rw[←his];exact sV};have HIn:=ae his;rw[his];have hBa:=hB1.trans (hB2.mono hB1.size);dsimp only;go_wp2_with(refine fG 168 rfl ?_);refine⟨?_⟩;refine dP rfl _ rfl zs 64 HZ ?_;intro g3 w3 hg3 hA3 hB3;have hBb:=hBa.trans (hB3.mono hBa.size);go_wp2_with(refine iy 168 _ _ rfl ?_);refine⟨?_⟩;refine eU rfl _ _ _ rfl g3 is rfl rfl _ _ hA3 (by rw[OX];exact pJ) (by rw[OX,hlz]) hone ?_;intro w5 OW hg5;have Tp:=ae OW;have ho:w.heap.size<=g3:=by{have:=hg3.out;have:=hBa.size;omega};have HB5:=ae (aI hBb hg5 ho);clear hBa hBb hB1 hB2 hB3 hA1 hA3 hg5 OW his;go_wp2;go_ret;have h:=Tp.out;rw[←HIn.out]at h;have h2:=h.ot ho (by rw[HL.out.1];simp[maxLen]);rw[HL.out.1]at h2;exact⟨_,rfl,h2,HB5.out⟩
end Go.Proofs.YthkjdjmjdlimnaaGreat
