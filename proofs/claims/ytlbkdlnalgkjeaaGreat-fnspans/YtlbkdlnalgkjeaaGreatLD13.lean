/-
  Own texts for a law: Low4 Low5 Low6 Low7 Fi0 HasL
-/
import Derived.Test.YtlbkdlnalgkjeaaGreatLD12
namespace Go.Proofs.YtlbkdlnalgkjeaaGreat
open Go.RowKit Go.Shelf
set_option linter.all false
set_option maxRecDepth 100000
set_option maxHeartbeats 16000000
theorem I1 {c:LX}{W0 W:World}{v vg:Value}{out:List (Ln×Int)}{P:Nat->Prop}(T:TX c W0)(K:MK c W0 W v vg out P)(fa:Option Addr)(fl fc:Nat)(d:ByteArray)(oa:Option Addr)(oc:Nat)(hF:FL W0 fa fl c.fs)(hO:IL W0 oa c.f.b.length c.O)(at':Nat)(hat:at'<c.f.b.length)(hr:0<=c.H.getD at' 0)(hlen:out.length<=900)(p:Int)(hp:aG.op c.f.b at'=p)(hk:p=7\/p=8\/p=9\/p=12\/p=20\/p=1\/p=2\/p=3\/p=4\/p=5\/p=6\/p=17\/p=18\/p=19):Calls Tryz.prog 83 #[.pointer (some ⟨c.B,0,none⟩), .agg #[.slice fa fl fc, .string d], .slice oa c.f.b.length oc, .int .i64 at'] W fun e w'=>∃v' ky,e= .returned (.tuple #[])/\MK c W0 w' v' ky (out++Lw.step c.fs c.f c.E c.O c.H at') (fun g=>P g\/W.heap.size<=g)/\FX c v vg v' ky W w':=by have hty:=T.acc.typ at' hat hr;obtain⟨hH,hE,hS⟩:=T.il K;have Cz:=hO.kept K.dS;have hF1:=hF.kept K.dS;have hLen:=T.ok.2.2.2.2.2;have htop:=T.acc.qC at' hat;have hW:=T.lt;have hwd:0<=Lw.wd c.f/\Lw.wd c.f<=6:=by{have:=T.ok;unfold Lw.wd;omega};have HST:Hid (Lw.step c.fs c.f c.E c.O c.H at'=Lw.gD c.fs c.f c.E c.O c.H at' p (Hg.arg c.f.b at') (Lw.bx c.f (c.H.getD at' 0-1))):=by{show _=_;unfold Lw.step;rw[hp]};have hbx0:=K.box;unfold LX.dV at hbx0;obtain⟨bl,hbl⟩:∃n,c.f.b.length=n:=⟨_,rfl⟩;rw[hbl]at hH hE hS Cz hLen hat hbx0 ⊢;have NT:(at':Int)<(bl:Int):=by{omega};have cS:∃b o,c.ba=some ⟨b,o,none⟩/\b<W.heap.size/\W.cell? ⟨b,o+at'*2,none⟩=some (.int .i64 (aG.op c.f.b at'))/\W.cell? ⟨b,o+at'*2+1,none⟩=some (.int .i64 (Hg.arg c.f.b at')):=by{obtain⟨hl,-,h3|⟨b,o,e,hb,hh⟩⟩:=hS;{omega};exact⟨b,o,e,hb,(hh at' hat).1,(hh at' hat).2⟩};obtain⟨sb,so,es,lS,Ag,cS2⟩:=cS;have cH:∃b o,c.ha=some ⟨b,o,none⟩/\b<W.heap.size/\W.cell? ⟨b,o+at',none⟩=some (.int .i64 (c.H.getD at' 0)):=by{obtain⟨hl,-,h3|⟨b,o,e,hb,hh⟩⟩:=hH;{omega};exact⟨b,o,e,hb,hh at' hat⟩};obtain⟨hb',ho',eh,lH,cH⟩:=cH;have cE:∃b o,c.ea=some ⟨b,o,none⟩/\b<W.heap.size/\W.cell? ⟨b,o+at',none⟩=some (.int .i64 (aG.aT c.E at')):=by{obtain⟨hl,-,h3|⟨b,o,e,hb,hh⟩⟩:=hE;{omega};refine⟨b,o,e,hb,?_⟩;rw[hh at' hat];unfold aG.aT;rw[ah,ah,ai (by omega)];rfl};obtain⟨eb,eo,ee,lE,cE⟩:=cE;have cO:∃b o,oa=some ⟨b,o,none⟩/\b<W.heap.size/\W.cell? ⟨b,o+at',none⟩=some (.int .i64 (aG.aT c.O at')):=by{obtain⟨hl,-,h3|⟨b,o,e,hb,hh⟩⟩:=Cz;{omega};refine⟨b,o,e,hb,?_⟩;rw[hh at' hat];unfold aG.aT;rw[ah,ah,ai (by omega)];rfl};obtain⟨ob,oo,rfl,lO,cO⟩:=cO;rw[hp]at Ag;obtain⟨q,hq⟩:∃q,Hg.arg c.f.b at'=q:=⟨_,rfl⟩;obtain⟨u,hu⟩:∃u,c.H.getD at' 0=u:=⟨_,rfl⟩;rw[hq]at cS2 HST;rw[hu]at cH htop hr HST;have d2:=(hbx0.2 2 _ rfl).1;have d3:=(hbx0.2 3 _ rfl).1;have d4:=(hbx0.2 4 _ rfl).1;have d5:=(hbx0.2 5 _ rfl).1;have Cy:=hbx0.1;rw[eh]at d3;rw[ee]at d4;rw[es]at d5;have hB1:=aA W (.cells #[.slice fa fl fc, .string d] 87);have hA1:iX (W.alloc (.cells #[.slice fa fl fc, .string d] 87)) W.heap.size 87 [.slice fa fl fc, .string d]:=heap_alloc_last W _;obtain⟨W1,hW1⟩:∃X,W.alloc (.cells #[.slice fa fl fc, .string d] 87)=X:=⟨_,rfl⟩;rw[hW1]at hB1 hA1;have hB2:=aA W1 (.cells #[.int .i64 (p), .int .i64 q] 111);have hA2:iX (W1.alloc (.cells #[.int .i64 (p), .int .i64 q] 111)) W1.heap.size 111 [.int .i64 (p), .int .i64 q]:=heap_alloc_last W1 _;obtain⟨W2,hW2⟩:∃X,W1.alloc (.cells #[.int .i64 (p), .int .i64 q] 111)=X:=⟨_,rfl⟩;rw[hW2]at hB2 hA2;have hB:=hB1.trans (hB2.mono hB1.size);have K2:=K.kept hB;have mZ:=hA1.kept hB2;have hcon:=gZ T K2 (u-1) (by omega) (by omega);have NU:-1<=Lw.bx c.f (u-1)/\Lw.bx c.f (u-1)<=26:=by{unfold Lw.bx;omega};obtain⟨tt,wI⟩:∃tt,Lw.bx c.f (u-1)=tt:=⟨_,rfl⟩;rw[wI]at hcon NU HST;have c3:=aO hB1 d3;have k3:=aO hB d3;have k4:=aO hB d4;have c5:=aO hB1 d5;have c6:=aO hB1 Ag;have c7:=aO hB1 cS2;have c8:=aO hB cH;have qf:=aO hB cE;have qg:=aO hB cO;have k2:=aO hB d2;have s0:=hA2.cell (j:=0) rfl;have s1:=hA2.cell (j:=1) rfl;have m0:=mZ.cell (j:=0) rfl;have F0:FX c v vg v vg W W2:=FX.below hB;have hF2:=hF1.kept hB;have HQ:=ae (ak hp (ak hq (ak hbl (ak hu hty))));clear hH hE hS hO Cz hF hF1 d2 d3 d4 d5 Ag cS2 cH cE cO hbx0 hA1 hB1 hB2 K hu wI hp hq hbl;go_enter Tryz.func83,Tryz.ntmps83;go_wp2_with fail;refine hcon.mono ?_;rintro e w3 ⟨rfl,bD⟩;subst w3;dsimp only;clear hcon;rcases hk with rfl|rfl|rfl|rfl|rfl|rfl|rfl|rfl|rfl|rfl|rfl|rfl|rfl|rfl;{replace HST:Hid (Lw.step c.fs c.f c.E c.O c.H at'=[]):=HST;clear c3 k3 k4 c5 c6 c7 c8 qf qg k2 m0 mZ hA2 hW1 hW2 hty hF2;go_wp2;(try simp only[Exit.inBlock,Exit.then]);refine bodyPost_end (results_none rfl _ _ _) rfl ⟨v,vg,rfl,?_,F0⟩;rw[HST.out];refine MK.eu ?_ (fun g h=> .inl h);simpa[List.append_assoc]using K2};{replace HST:Hid (Lw.step c.fs c.f c.E c.O c.H at'=[]):=HST;clear c3 k3 k4 c5 c6 c7 c8 qf qg k2 m0 mZ hA2 hW1 hW2 hty hF2;go_wp2;(try simp only[Exit.inBlock,Exit.then]);refine bodyPost_end (results_none rfl _ _ _) rfl ⟨v,vg,rfl,?_,F0⟩;rw[HST.out];refine MK.eu ?_ (fun g h=> .inl h);simpa[List.append_assoc]using K2};{replace HST:Hid (Lw.step c.fs c.f c.E c.O c.H at'=[]):=HST;clear c3 k3 k4 c5 c6 c7 c8 qf qg k2 m0 mZ hA2 hW1 hW2 hty hF2;go_wp2;(try simp only[Exit.inBlock,Exit.then]);refine bodyPost_end (results_none rfl _ _ _) rfl ⟨v,vg,rfl,?_,F0⟩;rw[HST.out];refine MK.eu ?_ (fun g h=> .inl h);simpa[List.append_assoc]using K2};{replace HST:Hid (Lw.step c.fs c.f c.E c.O c.H at'=[]):=HST;clear c3 k3 k4 c5 c6 c7 c8 qf qg k2 m0 mZ hA2 hW1 hW2 hty hF2;go_wp2;(try simp only[Exit.inBlock,Exit.then]);refine bodyPost_end (results_none rfl _ _ _) rfl ⟨v,vg,rfl,?_,F0⟩;rw[HST.out];refine MK.eu ?_ (fun g h=> .inl h);simpa[List.append_assoc]using K2};{replace HST:Hid (Lw.step c.fs c.f c.E c.O c.H at'=[]):=HST;clear c3 k3 k4 c5 c6 c7 c8 qf qg k2 m0 mZ hA2 hW1 hW2 hty hF2;go_wp2;(try simp only[Exit.inBlock,Exit.then]);refine bodyPost_end (results_none rfl _ _ _) rfl ⟨v,vg,rfl,?_,F0⟩;rw[HST.out];refine MK.eu ?_ (fun g h=> .inl h);simpa[List.append_assoc]using K2};{replace HST:Hid (Lw.step c.fs c.f c.E c.O c.H at'=[(⟨1,tt+1,0,0,q,[]⟩,-1)]):=HST;clear c3 k3 k4 c5 c6 c7 c8 qf qg k2 m0 mZ hA2 hW1 hW2 hty hF2;go_wp2_with fail;refine(aM c W0 W2 v vg (out) P hW K2 ⟨1,tt+1,0,0,q,[]⟩ none 0 0 (OI.nil _ _) (fun g e=>by cases e) (-1) (by omega)).mono ?_;rintro e X1 ⟨v1,gP,rfl,K1,F1⟩;dsimp only;clear s0 s1;have G1:=F0.trans F1;clear K2 F1 F0;go_wp2;(try simp only[Exit.inBlock,Exit.then]);refine bodyPost_end (results_none rfl _ _ _) rfl ⟨v1,gP,rfl,?_,G1⟩;rw[HST.out];refine MK.eu ?_ (fun g h=> .inl h);simpa[List.append_assoc]using K1};{replace HST:Hid (Lw.step c.fs c.f c.E c.O c.H at'=[(⟨2,tt+1,q,0,0,[]⟩,-1)]):=HST;clear c3 k3 k4 c5 c6 c7 c8 qf qg k2 m0 mZ hA2 hW1 hW2 hty hF2;go_wp2_with fail;refine(aM c W0 W2 v vg (out) P hW K2 ⟨2,tt+1,q,0,0,[]⟩ none 0 0 (OI.nil _ _) (fun g e=>by cases e) (-1) (by omega)).mono ?_;rintro e X1 ⟨v1,gP,rfl,K1,F1⟩;dsimp only;clear s0 s1;have G1:=F0.trans F1;clear K2 F1 F0;go_wp2;(try simp only[Exit.inBlock,Exit.then]);refine bodyPost_end (results_none rfl _ _ _) rfl ⟨v1,gP,rfl,?_,G1⟩;rw[HST.out];refine MK.eu ?_ (fun g h=> .inl h);simpa[List.append_assoc]using K1};{replace HST:Hid (Lw.step c.fs c.f c.E c.O c.H at'=[(⟨2,q,tt,0,0,[]⟩,-1)]):=HST;clear c3 k3 k4 c5 c6 c7 c8 qf qg k2 m0 mZ hA2 hW1 hW2 hty hF2;go_wp2_with fail;refine(aM c W0 W2 v vg (out) P hW K2 ⟨2,q,tt,0,0,[]⟩ none 0 0 (OI.nil _ _) (fun g e=>by cases e) (-1) (by omega)).mono ?_;rintro e X1 ⟨v1,gP,rfl,K1,F1⟩;dsimp only;clear s0 s1;have G1:=F0.trans F1;clear K2 F1 F0;go_wp2;(try simp only[Exit.inBlock,Exit.then]);refine bodyPost_end (results_none rfl _ _ _) rfl ⟨v1,gP,rfl,?_,G1⟩;rw[HST.out];refine MK.eu ?_ (fun g h=> .inl h);simpa[List.append_assoc]using K1};{replace HST:Hid (Lw.step c.fs c.f c.E c.O c.H at'=[(⟨2,q,tt,0,0,[]⟩,-1)]):=HST;clear c3 k3 k4 c5 c6 c7 c8 qf qg k2 m0 mZ hA2 hW1 hW2 hty hF2;go_wp2_with fail;refine(aM c W0 W2 v vg (out) P hW K2 ⟨2,q,tt,0,0,[]⟩ none 0 0 (OI.nil _ _) (fun g e=>by cases e) (-1) (by omega)).mono ?_;rintro e X1 ⟨v1,gP,rfl,K1,F1⟩;dsimp only;clear s0 s1;have G1:=F0.trans F1;clear K2 F1 F0;go_wp2;(try simp only[Exit.inBlock,Exit.then]);refine bodyPost_end (results_none rfl _ _ _) rfl ⟨v1,gP,rfl,?_,G1⟩;rw[HST.out];refine MK.eu ?_ (fun g h=> .inl h);simpa[List.append_assoc]using K1};{replace HST:Hid (Lw.step c.fs c.f c.E c.O c.H at'=[(⟨3,tt-1,tt-1,tt,q,[]⟩,-1)]):=HST;clear c3 k3 k4 c5 c6 c7 c8 qf qg k2 m0 mZ hA2 hW1 hW2 hty hF2;go_wp2_with fail;refine(aM c W0 W2 v vg (out) P hW K2 ⟨3,tt-1,tt-1,tt,q,[]⟩ none 0 0 (OI.nil _ _) (fun g e=>by cases e) (-1) (by omega)).mono ?_;rintro e X1 ⟨v1,gP,rfl,K1,F1⟩;dsimp only;clear s0 s1;have G1:=F0.trans F1;clear K2 F1 F0;go_wp2;(try simp only[Exit.inBlock,Exit.then]);refine bodyPost_end (results_none rfl _ _ _) rfl ⟨v1,gP,rfl,?_,G1⟩;rw[HST.out];refine MK.eu ?_ (fun g h=> .inl h);simpa[List.append_assoc]using K1};{replace HST:Hid (Lw.step c.fs c.f c.E c.O c.H at'=[(⟨4,tt,tt,0,0,[]⟩,-1)]):=HST;clear c3 k3 k4 c5 c6 c7 c8 qf qg k2 m0 mZ hA2 hW1 hW2 hty hF2;go_wp2_with fail;refine(aM c W0 W2 v vg (out) P hW K2 ⟨4,tt,tt,0,0,[]⟩ none 0 0 (OI.nil _ _) (fun g e=>by cases e) (-1) (by omega)).mono ?_;rintro e X1 ⟨v1,gP,rfl,K1,F1⟩;dsimp only;clear s0 s1;have G1:=F0.trans F1;clear K2 F1 F0;go_wp2;(try simp only[Exit.inBlock,Exit.then]);refine bodyPost_end (results_none rfl _ _ _) rfl ⟨v1,gP,rfl,?_,G1⟩;rw[HST.out];refine MK.eu ?_ (fun g h=> .inl h);simpa[List.append_assoc]using K1};{replace HST:Hid (Lw.step c.fs c.f c.E c.O c.H at'=[(⟨8,tt,tt,0,q,[]⟩,-1)]):=HST;clear c3 k3 k4 c5 c6 c7 c8 qf qg k2 m0 mZ hA2 hW1 hW2 hty hF2;go_wp2_with fail;refine(aM c W0 W2 v vg (out) P hW K2 ⟨8,tt,tt,0,q,[]⟩ none 0 0 (OI.nil _ _) (fun g e=>by cases e) (-1) (by omega)).mono ?_;rintro e X1 ⟨v1,gP,rfl,K1,F1⟩;dsimp only;clear s0 s1;have G1:=F0.trans F1;clear K2 F1 F0;go_wp2;(try simp only[Exit.inBlock,Exit.then]);refine bodyPost_end (results_none rfl _ _ _) rfl ⟨v1,gP,rfl,?_,G1⟩;rw[HST.out];refine MK.eu ?_ (fun g h=> .inl h);simpa[List.append_assoc]using K1};{replace HST:Hid (Lw.step c.fs c.f c.E c.O c.H at'=[(⟨9,0,tt-1,tt,q,[]⟩,-1)]):=HST;clear c3 k3 k4 c5 c6 c7 c8 qf qg k2 m0 mZ hA2 hW1 hW2 hty hF2;go_wp2_with fail;refine(aM c W0 W2 v vg (out) P hW K2 ⟨9,0,tt-1,tt,q,[]⟩ none 0 0 (OI.nil _ _) (fun g e=>by cases e) (-1) (by omega)).mono ?_;rintro e X1 ⟨v1,gP,rfl,K1,F1⟩;dsimp only;clear s0 s1;have G1:=F0.trans F1;clear K2 F1 F0;go_wp2;(try simp only[Exit.inBlock,Exit.then]);refine bodyPost_end (results_none rfl _ _ _) rfl ⟨v1,gP,rfl,?_,G1⟩;rw[HST.out];refine MK.eu ?_ (fun g h=> .inl h);simpa[List.append_assoc]using K1};replace HST:Hid (Lw.step c.fs c.f c.E c.O c.H at'=[(⟨11,0,0,0,0,[]⟩,-1)]):=HST;clear c3 k3 k4 c5 c6 c7 c8 qf qg k2 m0 mZ hA2 hW1 hW2 hty hF2;go_wp2_with fail;refine(aM c W0 W2 v vg (out) P hW K2 ⟨11,0,0,0,0,[]⟩ none 0 0 (OI.nil _ _) (fun g e=>by cases e) (-1) (by omega)).mono ?_;rintro e X1 ⟨v1,gP,rfl,K1,F1⟩;dsimp only;clear s0 s1;have G1:=F0.trans F1;clear K2 F1 F0;go_wp2;(try simp only[Exit.inBlock,Exit.then]);refine bodyPost_end (results_none rfl _ _ _) rfl ⟨v1,gP,rfl,?_,G1⟩;rw[HST.out];refine MK.eu ?_ (fun g h=> .inl h);simpa[List.append_assoc]using K1
theorem Lw.AU {c:LX}{W0:World}(T:TX c W0){at':Nat}(hat:at'<c.f.b.length)(h:aG.op c.f.b at'=13\/aG.op c.f.b at'=14):0<=Hg.arg c.f.b at'/\Hg.arg c.f.b at'<=9:=by have hok:St.ok (aG.op c.f.b at') (Hg.arg c.f.b at')=true:=St.bf T.all hat;simp only[St.ok,au,Wd.bT]at hok;(have h1:St.least (aG.op c.f.b at')=0:=by rcases h with h|h<;>rw[h]<;>rfl);(have h2:St.bW (aG.op c.f.b at')=9:=by rcases h with h|h<;>rw[h]<;>rfl);omega
theorem Lw.low {f:Fn}{E H:List Int}{j:Nat}{a hh:Int}(hJ:Hg.nM f E H j hh a):∀t:Nat,a.toNat<(aG.bQ f.b E j j).length->(aG.bQ f.b E j j).getD a.toNat (-1)=(t:Int)->0<=H.getD t 0:=fun t hlt ht=>by
 obtain⟨t',e',-,-,h0,-⟩:=hJ.1 hlt
 rw[ht]at e'
 have:t=t':=by omega
 rw[this]
 exact h0
theorem Jq {c:LX}{W0 W:World}{v vg:Value}{out:List (Ln×Int)}{P:Nat->Prop}(T:TX c W0)(K:MK c W0 W v vg out P)(fa:Option Addr)(fl fc:Nat)(d:ByteArray)(oa:Option Addr)(oc:Nat)(hF:FL W0 fa fl c.fs)(hO:IL W0 oa c.f.b.length c.O)(at':Nat)(hat:at'<c.f.b.length)(hr:0<=c.H.getD at' 0)(hlen:out.length<=900)(p:Int)(hp:aG.op c.f.b at'=p)(hk:p=10\/p=11\/p=13\/p=15\/p=14):Calls Tryz.prog 83 #[.pointer (some ⟨c.B,0,none⟩), .agg #[.slice fa fl fc, .string d], .slice oa c.f.b.length oc, .int .i64 at'] W fun e w'=>∃v' ky,e= .returned (.tuple #[])/\MK c W0 w' v' ky (out++Lw.step c.fs c.f c.E c.O c.H at') (fun g=>P g\/W.heap.size<=g)/\FX c v vg v' ky W w':=by have hty:=T.acc.typ at' hat hr;obtain⟨hH,hE,hS⟩:=T.il K;have Cz:=hO.kept K.dS;have hF1:=hF.kept K.dS;have hLen:=T.ok.2.2.2.2.2;have htop:=T.acc.qC at' hat;have hW:=T.lt;have hwd:0<=Lw.wd c.f/\Lw.wd c.f<=6:=by{have:=T.ok;unfold Lw.wd;omega};have HST:Hid (Lw.step c.fs c.f c.E c.O c.H at'=Lw.gD c.fs c.f c.E c.O c.H at' p (Hg.arg c.f.b at') (Lw.bx c.f (c.H.getD at' 0-1))):=by{show _=_;unfold Lw.step;rw[hp]};have hbx0:=K.box;unfold LX.dV at hbx0;obtain⟨bl,hbl⟩:∃n,c.f.b.length=n:=⟨_,rfl⟩;rw[hbl]at hH hE hS Cz hLen hat hbx0 ⊢;have NT:(at':Int)<(bl:Int):=by{omega};have cS:∃b o,c.ba=some ⟨b,o,none⟩/\b<W.heap.size/\W.cell? ⟨b,o+at'*2,none⟩=some (.int .i64 (aG.op c.f.b at'))/\W.cell? ⟨b,o+at'*2+1,none⟩=some (.int .i64 (Hg.arg c.f.b at')):=by{obtain⟨hl,-,h3|⟨b,o,e,hb,hh⟩⟩:=hS;{omega};exact⟨b,o,e,hb,(hh at' hat).1,(hh at' hat).2⟩};obtain⟨sb,so,es,lS,Ag,cS2⟩:=cS;have cH:∃b o,c.ha=some ⟨b,o,none⟩/\b<W.heap.size/\W.cell? ⟨b,o+at',none⟩=some (.int .i64 (c.H.getD at' 0)):=by{obtain⟨hl,-,h3|⟨b,o,e,hb,hh⟩⟩:=hH;{omega};exact⟨b,o,e,hb,hh at' hat⟩};obtain⟨hb',ho',eh,lH,cH⟩:=cH;have cE:∃b o,c.ea=some ⟨b,o,none⟩/\b<W.heap.size/\W.cell? ⟨b,o+at',none⟩=some (.int .i64 (aG.aT c.E at')):=by{obtain⟨hl,-,h3|⟨b,o,e,hb,hh⟩⟩:=hE;{omega};refine⟨b,o,e,hb,?_⟩;rw[hh at' hat];unfold aG.aT;rw[ah,ah,ai (by omega)];rfl};obtain⟨eb,eo,ee,lE,cE⟩:=cE;have cO:∃b o,oa=some ⟨b,o,none⟩/\b<W.heap.size/\W.cell? ⟨b,o+at',none⟩=some (.int .i64 (aG.aT c.O at')):=by{obtain⟨hl,-,h3|⟨b,o,e,hb,hh⟩⟩:=Cz;{omega};refine⟨b,o,e,hb,?_⟩;rw[hh at' hat];unfold aG.aT;rw[ah,ah,ai (by omega)];rfl};obtain⟨ob,oo,rfl,lO,cO⟩:=cO;rw[hp]at Ag;obtain⟨q,hq⟩:∃q,Hg.arg c.f.b at'=q:=⟨_,rfl⟩;obtain⟨u,hu⟩:∃u,c.H.getD at' 0=u:=⟨_,rfl⟩;rw[hq]at cS2 HST;rw[hu]at cH htop hr HST;have d2:=(hbx0.2 2 _ rfl).1;have d3:=(hbx0.2 3 _ rfl).1;have d4:=(hbx0.2 4 _ rfl).1;have d5:=(hbx0.2 5 _ rfl).1;have Cy:=hbx0.1;rw[eh]at d3;rw[ee]at d4;rw[es]at d5;have hB1:=aA W (.cells #[.slice fa fl fc, .string d] 87);have hA1:iX (W.alloc (.cells #[.slice fa fl fc, .string d] 87)) W.heap.size 87 [.slice fa fl fc, .string d]:=heap_alloc_last W _;obtain⟨W1,hW1⟩:∃X,W.alloc (.cells #[.slice fa fl fc, .string d] 87)=X:=⟨_,rfl⟩;rw[hW1]at hB1 hA1;have hB2:=aA W1 (.cells #[.int .i64 (p), .int .i64 q] 111);have hA2:iX (W1.alloc (.cells #[.int .i64 (p), .int .i64 q] 111)) W1.heap.size 111 [.int .i64 (p), .int .i64 q]:=heap_alloc_last W1 _;obtain⟨W2,hW2⟩:∃X,W1.alloc (.cells #[.int .i64 (p), .int .i64 q] 111)=X:=⟨_,rfl⟩;rw[hW2]at hB2 hA2;have hB:=hB1.trans (hB2.mono hB1.size);have K2:=K.kept hB;have mZ:=hA1.kept hB2;have hcon:=gZ T K2 (u-1) (by omega) (by omega);have NU:-1<=Lw.bx c.f (u-1)/\Lw.bx c.f (u-1)<=26:=by{unfold Lw.bx;omega};obtain⟨tt,wI⟩:∃tt,Lw.bx c.f (u-1)=tt:=⟨_,rfl⟩;rw[wI]at hcon NU HST;have c3:=aO hB1 d3;have k3:=aO hB d3;have k4:=aO hB d4;have c5:=aO hB1 d5;have c6:=aO hB1 Ag;have c7:=aO hB1 cS2;have c8:=aO hB cH;have qf:=aO hB cE;have qg:=aO hB cO;have k2:=aO hB d2;have s0:=hA2.cell (j:=0) rfl;have s1:=hA2.cell (j:=1) rfl;have m0:=mZ.cell (j:=0) rfl;have F0:FX c v vg v vg W W2:=FX.below hB;have hF2:=hF1.kept hB;have HQ:=ae (ak hp (ak hq (ak hbl (ak hu hty))));clear hH hE hS hO Cz hF hF1 d2 d3 d4 d5 Ag cS2 cH cE cO hbx0 hA1 hB1 hB2 K hu wI hp hq hbl;go_enter Tryz.func83,Tryz.ntmps83;go_wp2_with fail;refine hcon.mono ?_;rintro e w3 ⟨rfl,bD⟩;subst w3;dsimp only;clear hcon;rcases hk with rfl|rfl|rfl|rfl|rfl;{obtain⟨z,hz⟩:∃z,aG.aT c.E at'=z:=⟨_,rfl⟩;obtain⟨y,hy⟩:∃y,aG.aT c.O at'=y:=⟨_,rfl⟩;have G6:0<=y->y<=80:=fun h0=>by{have f2:=T.acc.NN.f2 at' (by rw[HQ.out.2.2.1];exact hat) (by rw[hy];exact h0);have f3:=T.acc.NN.f3 at' (by rw[HQ.out.2.2.1];exact hat) (by omega);rw[HQ.out.2.2.1]at f3;omega};rw[hz]at qf;rw[hy]at qg;by_cases hy0:0<=y;{have hyb:=G6 hy0;replace HST:Hid (Lw.step c.fs c.f c.E c.O c.H at'=[(⟨4,tt,tt,0,0,[]⟩,-1),(⟨6,0,tt,0,0,[]⟩,y+1)]):=by{show _=_;rw[HST.out,←hy];show[_,(_,if 0<=aG.aT c.O at' then _ else _)]=_;rw[ay (by rw[hy];exact hy0)]};clear G6 hz hy;clear c3 k3 c5 c6 c7 c8 k2 m0 mZ hA2 hW1 hW2 hty hF2;go_wp2_with fail;refine(aM c W0 W2 v vg (out) P hW K2 ⟨4,tt,tt,0,0,[]⟩ none 0 0 (OI.nil _ _) (fun g e=>by cases e) (-1) (by omega)).mono ?_;rintro e X1 ⟨v1,gP,rfl,K1,F1⟩;dsimp only;clear s0 s1;have G1:=F0.trans F1;clear K2 F1 F0;go_wp2_with fail;refine(aM c W0 X1 v1 gP (out++[(⟨4,tt,tt,0,0,[]⟩,(-1))]) P hW K1 ⟨6,0,tt,0,0,[]⟩ none 0 0 (OI.nil _ _) (fun g e=>by cases e) (y+1) (by simp only[List.length_append,List.length_singleton];omega)).mono ?_;rintro e X2 ⟨v2,rT,rfl,K2,F2⟩;dsimp only;have G2:=G1.trans F2;clear K1 F2 G1;go_wp2;(try simp only[Exit.inBlock,Exit.then]);refine bodyPost_end (results_none rfl _ _ _) rfl ⟨v2,rT,rfl,?_,G2⟩;rw[HST.out];refine MK.eu ?_ (fun g h=> .inl h);simpa[List.append_assoc]using K2};replace HST:Hid (Lw.step c.fs c.f c.E c.O c.H at'=[(⟨4,tt,tt,0,0,[]⟩,-1),(⟨6,0,tt,0,0,[]⟩,z)]):=by{show _=_;rw[HST.out,←hz];show[_,(_,if 0<=aG.aT c.O at' then _ else _)]=_;rw[ax (by rw[hy];exact hy0)]};clear G6 hz hy;clear c3 k3 c5 c6 c7 c8 k2 m0 mZ hA2 hW1 hW2 hty hF2;go_wp2_with fail;refine(aM c W0 W2 v vg (out) P hW K2 ⟨4,tt,tt,0,0,[]⟩ none 0 0 (OI.nil _ _) (fun g e=>by cases e) (-1) (by omega)).mono ?_;rintro e X1 ⟨v1,gP,rfl,K1,F1⟩;dsimp only;clear s0 s1;have G1:=F0.trans F1;clear K2 F1 F0;go_wp2_with fail;refine(aM c W0 X1 v1 gP (out++[(⟨4,tt,tt,0,0,[]⟩,(-1))]) P hW K1 ⟨6,0,tt,0,0,[]⟩ none 0 0 (OI.nil _ _) (fun g e=>by cases e) (z) (by simp only[List.length_append,List.length_singleton];omega)).mono ?_;rintro e X2 ⟨v2,rT,rfl,K2,F2⟩;dsimp only;have G2:=G1.trans F2;clear K1 F2 G1;go_wp2;(try simp only[Exit.inBlock,Exit.then]);refine bodyPost_end (results_none rfl _ _ _) rfl ⟨v2,rT,rfl,?_,G2⟩;rw[HST.out];refine MK.eu ?_ (fun g h=> .inl h);simpa[List.append_assoc]using K2};{obtain⟨z,hz⟩:∃z,aG.aT c.E at'=z:=⟨_,rfl⟩;rw[hz]at qf;replace HST:Hid (Lw.step c.fs c.f c.E c.O c.H at'=[(⟨5,0,0,0,0,[]⟩,z)]):=by{show _=_;rw[HST.out,←hz];rfl};clear hz;clear c3 k3 c5 c6 c7 c8 qg k2 m0 mZ hA2 hW1 hW2 hty hF2;go_wp2_with fail;refine(aM c W0 W2 v vg (out) P hW K2 ⟨5,0,0,0,0,[]⟩ none 0 0 (OI.nil _ _) (fun g e=>by cases e) (z) (by omega)).mono ?_;rintro e X1 ⟨v1,gP,rfl,K1,F1⟩;dsimp only;clear s0 s1;have G1:=F0.trans F1;clear K2 F1 F0;go_wp2;(try simp only[Exit.inBlock,Exit.then]);refine bodyPost_end (results_none rfl _ _ _) rfl ⟨v1,gP,rfl,?_,G1⟩;rw[HST.out];refine MK.eu ?_ (fun g h=> .inl h);simpa[List.append_assoc]using K1};{have hq9:0<=q/\q<=9:=by{have:=Lw.AU T (at':=at') (by rw[HQ.out.2.2.1];exact hat) (by rw[HQ.out.1];omega);rw[HQ.out.2.1]at this;exact this};have hlow:=Lw.low (HQ.out.2.2.2.2.jump HQ.out.1);rw[HQ.out.2.1]at hlow;have hL:=ic T K2 at' (by rw[HQ.out.2.2.1];exact hat) q (by omega) (by omega) hlow;obtain⟨⟨l1,l2,l3⟩,hl⟩:∃l,Lw.dN c.f c.E c.H at' q=l:=⟨_,rfl⟩;rw[hl]at hL;replace HST:Hid (Lw.step c.fs c.f c.E c.O c.H at'=(if l3=1/\l2≠tt then[(⟨2,l2,tt,0,0,[]⟩,-1)]else[])++[(⟨5,0,0,0,0,[]⟩,l1)]):=by{show _=_;rw[HST.out];show(((if(Lw.dN c.f c.E c.H at' q).2.2=1/\(Lw.dN c.f c.E c.H at' q).2.1≠tt then[(⟨2,(Lw.dN c.f c.E c.H at' q).2.1,tt,0,0,[]⟩,-1)]else[])++[(⟨5,0,0,0,0,[]⟩,(Lw.dN c.f c.E c.H at' q).1)]):List (Ln×Int))=_;rw[hl]};clear c3 k3 k4 c5 c6 c7 c8 qf qg k2 m0 mZ hA2 hW1 hW2 hty hF2;clear hl hlow;go_wp2_with fail;refine hL.mono ?_;rintro e X0 ⟨rfl,hBL⟩;dsimp only;have K0:=K2.kept hBL;have rU:=F0.trans (FX.below (c:=c) (v:=v) (vg:=vg) hBL);clear hL K2 F0 hBL s0 s1;by_cases h3:l3=1;{subst h3;by_cases h2:l2=tt;{replace HST:Hid (Lw.step c.fs c.f c.E c.O c.H at'=[(⟨5,0,0,0,0,[]⟩,l1)]):=by{show _=_;rw[HST.out,ax (fun h=>h.2 h2)];rfl};subst h2;go_wp2_with fail;refine(aM c W0 X0 v vg (out) P hW K0 ⟨5,0,0,0,0,[]⟩ none 0 0 (OI.nil _ _) (fun g e=>by cases e) (l1) (by omega)).mono ?_;rintro e X1 ⟨v1,gP,rfl,K1,F1⟩;dsimp only;have G1:=rU.trans F1;clear K0 F1 rU;go_wp2;(try simp only[Exit.inBlock,Exit.then]);refine bodyPost_end (results_none rfl _ _ _) rfl ⟨v1,gP,rfl,?_,G1⟩;rw[HST.out];refine MK.eu ?_ (fun g h=> .inl h);simpa[List.append_assoc]using K1};replace HST:Hid (Lw.step c.fs c.f c.E c.O c.H at'=[(⟨2,l2,tt,0,0,[]⟩,-1),(⟨5,0,0,0,0,[]⟩,l1)]):=by{show _=_;rw[HST.out,ay ⟨rfl,h2⟩];rfl};go_wp2_with fail;refine(aM c W0 X0 v vg (out) P hW K0 ⟨2,l2,tt,0,0,[]⟩ none 0 0 (OI.nil _ _) (fun g e=>by cases e) (-1) (by omega)).mono ?_;rintro e X1 ⟨v1,gP,rfl,K1,F1⟩;dsimp only;have G1:=rU.trans F1;clear K0 F1 rU;go_wp2_with fail;refine(aM c W0 X1 v1 gP (out++[(⟨2,l2,tt,0,0,[]⟩,(-1))]) P hW K1 ⟨5,0,0,0,0,[]⟩ none 0 0 (OI.nil _ _) (fun g e=>by cases e) (l1) (by simp only[List.length_append,List.length_singleton];omega)).mono ?_;rintro e X2 ⟨v2,rT,rfl,K2,F2⟩;dsimp only;have G2:=G1.trans F2;clear K1 F2 G1;go_wp2;(try simp only[Exit.inBlock,Exit.then]);refine bodyPost_end (results_none rfl _ _ _) rfl ⟨v2,rT,rfl,?_,G2⟩;rw[HST.out];refine MK.eu ?_ (fun g h=> .inl h);simpa[List.append_assoc]using K2};replace HST:Hid (Lw.step c.fs c.f c.E c.O c.H at'=[(⟨5,0,0,0,0,[]⟩,l1)]):=by{show _=_;rw[HST.out,ax (fun h=>h3 h.1)];rfl};have XP:(l3==1)=false:=by{simpa using h3};go_wp2_with fail;refine(aM c W0 X0 v vg (out) P hW K0 ⟨5,0,0,0,0,[]⟩ none 0 0 (OI.nil _ _) (fun g e=>by cases e) (l1) (by omega)).mono ?_;rintro e X1 ⟨v1,gP,rfl,K1,F1⟩;dsimp only;have G1:=rU.trans F1;clear K0 F1 rU;go_wp2;(try simp only[Exit.inBlock,Exit.then]);refine bodyPost_end (results_none rfl _ _ _) rfl ⟨v1,gP,rfl,?_,G1⟩;rw[HST.out];refine MK.eu ?_ (fun g h=> .inl h);simpa[List.append_assoc]using K1};{have hlow:∀t:Nat,(99:Int).toNat<(aG.bQ c.f.b c.E at' at').length->(aG.bQ c.f.b c.E at' at').getD (99:Int).toNat (-1)=(t:Int)->0<=c.H.getD t 0:=fun t h=>by{have:=aG.nZ c.f.b c.E at' at';have e:(99:Int).toNat=99:=rfl;omega};have hL:=ic T K2 at' (by rw[HQ.out.2.2.1];exact hat) 99 (by omega) (by omega) hlow;obtain⟨⟨l1,l2,l3⟩,hl⟩:∃l,Lw.dN c.f c.E c.H at' 99=l:=⟨_,rfl⟩;rw[hl]at hL;replace HST:Hid (Lw.step c.fs c.f c.E c.O c.H at'=(if l3=1/\l2≠tt then[(⟨2,l2,tt,0,0,[]⟩,-1)]else[])++[(⟨5,0,0,0,0,[]⟩,l1)]):=by{show _=_;rw[HST.out];show(((if(Lw.dN c.f c.E c.H at' 99).2.2=1/\(Lw.dN c.f c.E c.H at' 99).2.1≠tt then[(⟨2,(Lw.dN c.f c.E c.H at' 99).2.1,tt,0,0,[]⟩,-1)]else[])++[(⟨5,0,0,0,0,[]⟩,(Lw.dN c.f c.E c.H at' 99).1)]):List (Ln×Int))=_;rw[hl]};clear c3 k3 k4 c5 c6 c7 c8 qf qg k2 m0 mZ hA2 hW1 hW2 hty hF2;clear hl hlow;go_wp2_with fail;refine hL.mono ?_;rintro e X0 ⟨rfl,hBL⟩;dsimp only;have K0:=K2.kept hBL;have rU:=F0.trans (FX.below (c:=c) (v:=v) (vg:=vg) hBL);clear hL K2 F0 hBL s0 s1;by_cases h3:l3=1;{subst h3;by_cases h2:l2=tt;{replace HST:Hid (Lw.step c.fs c.f c.E c.O c.H at'=[(⟨5,0,0,0,0,[]⟩,l1)]):=by{show _=_;rw[HST.out,ax (fun h=>h.2 h2)];rfl};subst h2;go_wp2_with fail;refine(aM c W0 X0 v vg (out) P hW K0 ⟨5,0,0,0,0,[]⟩ none 0 0 (OI.nil _ _) (fun g e=>by cases e) (l1) (by omega)).mono ?_;rintro e X1 ⟨v1,gP,rfl,K1,F1⟩;dsimp only;have G1:=rU.trans F1;clear K0 F1 rU;go_wp2;(try simp only[Exit.inBlock,Exit.then]);refine bodyPost_end (results_none rfl _ _ _) rfl ⟨v1,gP,rfl,?_,G1⟩;rw[HST.out];refine MK.eu ?_ (fun g h=> .inl h);simpa[List.append_assoc]using K1};replace HST:Hid (Lw.step c.fs c.f c.E c.O c.H at'=[(⟨2,l2,tt,0,0,[]⟩,-1),(⟨5,0,0,0,0,[]⟩,l1)]):=by{show _=_;rw[HST.out,ay ⟨rfl,h2⟩];rfl};go_wp2_with fail;refine(aM c W0 X0 v vg (out) P hW K0 ⟨2,l2,tt,0,0,[]⟩ none 0 0 (OI.nil _ _) (fun g e=>by cases e) (-1) (by omega)).mono ?_;rintro e X1 ⟨v1,gP,rfl,K1,F1⟩;dsimp only;have G1:=rU.trans F1;clear K0 F1 rU;go_wp2_with fail;refine(aM c W0 X1 v1 gP (out++[(⟨2,l2,tt,0,0,[]⟩,(-1))]) P hW K1 ⟨5,0,0,0,0,[]⟩ none 0 0 (OI.nil _ _) (fun g e=>by cases e) (l1) (by simp only[List.length_append,List.length_singleton];omega)).mono ?_;rintro e X2 ⟨v2,rT,rfl,K2,F2⟩;dsimp only;have G2:=G1.trans F2;clear K1 F2 G1;go_wp2;(try simp only[Exit.inBlock,Exit.then]);refine bodyPost_end (results_none rfl _ _ _) rfl ⟨v2,rT,rfl,?_,G2⟩;rw[HST.out];refine MK.eu ?_ (fun g h=> .inl h);simpa[List.append_assoc]using K2};replace HST:Hid (Lw.step c.fs c.f c.E c.O c.H at'=[(⟨5,0,0,0,0,[]⟩,l1)]):=by{show _=_;rw[HST.out,ax (fun h=>h3 h.1)];rfl};have XP:(l3==1)=false:=by{simpa using h3};go_wp2_with fail;refine(aM c W0 X0 v vg (out) P hW K0 ⟨5,0,0,0,0,[]⟩ none 0 0 (OI.nil _ _) (fun g e=>by cases e) (l1) (by omega)).mono ?_;rintro e X1 ⟨v1,gP,rfl,K1,F1⟩;dsimp only;have G1:=rU.trans F1;clear K0 F1 rU;go_wp2;(try simp only[Exit.inBlock,Exit.then]);refine bodyPost_end (results_none rfl _ _ _) rfl ⟨v1,gP,rfl,?_,G1⟩;rw[HST.out];refine MK.eu ?_ (fun g h=> .inl h);simpa[List.append_assoc]using K1};have hq9:0<=q/\q<=9:=by{have:=Lw.AU T (at':=at') (by rw[HQ.out.2.2.1];exact hat) (by rw[HQ.out.1];omega);rw[HQ.out.2.1]at this;exact this};have hlow:=Lw.low (HQ.out.2.2.2.2.jif HQ.out.1);rw[HQ.out.2.1]at hlow;have hL:=ic T K2 at' (by rw[HQ.out.2.2.1];exact hat) q (by omega) (by omega) hlow;obtain⟨⟨l1,l2,l3⟩,hl⟩:∃l,Lw.dN c.f c.E c.H at' q=l:=⟨_,rfl⟩;rw[hl]at hL;replace HST:Hid (Lw.step c.fs c.f c.E c.O c.H at'=if l3=1/\l2≠tt-1 then[(⟨4,tt,tt,0,0,[]⟩,-1),(⟨6,0,tt,0,0,[]⟩,(at':Int)+1),(⟨2,l2,tt-1,0,0,[]⟩,-1),(⟨5,0,0,0,0,[]⟩,l1)]else[(⟨6,0,tt,0,0,[]⟩,l1)]):=by{show _=_;rw[HST.out];show((if(Lw.dN c.f c.E c.H at' q).2.2=1/\(Lw.dN c.f c.E c.H at' q).2.1≠tt-1 then[(⟨4,tt,tt,0,0,[]⟩,-1),(⟨6,0,tt,0,0,[]⟩,(at':Int)+1),(⟨2,(Lw.dN c.f c.E c.H at' q).2.1,tt-1,0,0,[]⟩,-1),(⟨5,0,0,0,0,[]⟩,(Lw.dN c.f c.E c.H at' q).1)]else[(⟨6,0,tt,0,0,[]⟩,(Lw.dN c.f c.E c.H at' q).1)]):List (Ln×Int))=_;rw[hl]};clear c3 k3 k4 c5 c6 c7 c8 qf qg k2 m0 mZ hA2 hW1 hW2 hty hF2;clear hl hlow;go_wp2_with fail;refine hL.mono ?_;rintro e X0 ⟨rfl,hBL⟩;dsimp only;have K0:=K2.kept hBL;have rU:=F0.trans (FX.below (c:=c) (v:=v) (vg:=vg) hBL);clear hL K2 F0 hBL s0 s1;by_cases h3:l3=1;{subst h3;by_cases h2:l2=tt-1;{replace HST:Hid (Lw.step c.fs c.f c.E c.O c.H at'=[(⟨6,0,tt,0,0,[]⟩,l1)]):=by{show _=_;rw[HST.out,ax (fun h=>h.2 h2)]};subst h2;go_wp2_with fail;refine(aM c W0 X0 v vg (out) P hW K0 ⟨6,0,tt,0,0,[]⟩ none 0 0 (OI.nil _ _) (fun g e=>by cases e) (l1) (by omega)).mono ?_;rintro e X1 ⟨v1,gP,rfl,K1,F1⟩;dsimp only;have G1:=rU.trans F1;clear K0 F1 rU;go_wp2;(try simp only[Exit.inBlock,Exit.then]);refine bodyPost_end (results_none rfl _ _ _) rfl ⟨v1,gP,rfl,?_,G1⟩;rw[HST.out];refine MK.eu ?_ (fun g h=> .inl h);simpa[List.append_assoc]using K1};replace HST:Hid (Lw.step c.fs c.f c.E c.O c.H at'=[(⟨4,tt,tt,0,0,[]⟩,-1),(⟨6,0,tt,0,0,[]⟩,(at':Int)+1),(⟨2,l2,tt-1,0,0,[]⟩,-1),(⟨5,0,0,0,0,[]⟩,l1)]):=by{show _=_;rw[HST.out,ay ⟨rfl,h2⟩]};go_wp2_with fail;refine(aM c W0 X0 v vg (out) P hW K0 ⟨4,tt,tt,0,0,[]⟩ none 0 0 (OI.nil _ _) (fun g e=>by cases e) (-1) (by omega)).mono ?_;rintro e X1 ⟨v1,gP,rfl,K1,F1⟩;dsimp only;have G1:=rU.trans F1;clear K0 F1 rU;go_wp2_with fail;refine(aM c W0 X1 v1 gP (out++[(⟨4,tt,tt,0,0,[]⟩,(-1))]) P hW K1 ⟨6,0,tt,0,0,[]⟩ none 0 0 (OI.nil _ _) (fun g e=>by cases e) ((at':Int)+1) (by simp only[List.length_append,List.length_singleton];omega)).mono ?_;rintro e X2 ⟨v2,rT,rfl,K2,F2⟩;dsimp only;have G2:=G1.trans F2;clear K1 F2 G1;go_wp2_with fail;refine(aM c W0 X2 v2 rT (out++[(⟨4,tt,tt,0,0,[]⟩,(-1))]++[(⟨6,0,tt,0,0,[]⟩,((at':Int)+1))]) P hW K2 ⟨2,l2,tt-1,0,0,[]⟩ none 0 0 (OI.nil _ _) (fun g e=>by cases e) (-1) (by simp only[List.length_append,List.length_singleton];omega)).mono ?_;rintro e X3 ⟨v3,NV,rfl,K3,F3⟩;dsimp only;have G3:=G2.trans F3;clear K2 F3 G2;go_wp2_with fail;refine(aM c W0 X3 v3 NV (out++[(⟨4,tt,tt,0,0,[]⟩,(-1))]++[(⟨6,0,tt,0,0,[]⟩,((at':Int)+1))]++[(⟨2,l2,tt-1,0,0,[]⟩,(-1))]) P hW K3 ⟨5,0,0,0,0,[]⟩ none 0 0 (OI.nil _ _) (fun g e=>by cases e) (l1) (by simp only[List.length_append,List.length_singleton];omega)).mono ?_;rintro e X4 ⟨v4,vg4,rfl,K4,F4⟩;dsimp only;have G4:=G3.trans F4;clear K3 F4 G3;go_wp2;(try simp only[Exit.inBlock,Exit.then]);refine bodyPost_ret (results_none rfl _ _ _) rfl ⟨v4,vg4,rfl,?_,G4⟩;rw[HST.out];refine MK.eu ?_ (fun g h=> .inl h);simpa[List.append_assoc]using K4};replace HST:Hid (Lw.step c.fs c.f c.E c.O c.H at'=[(⟨6,0,tt,0,0,[]⟩,l1)]):=by{show _=_;rw[HST.out,ax (fun h=>h3 h.1)]};have XP:(l3==1)=false:=by{simpa using h3};go_wp2_with fail;refine(aM c W0 X0 v vg (out) P hW K0 ⟨6,0,tt,0,0,[]⟩ none 0 0 (OI.nil _ _) (fun g e=>by cases e) (l1) (by omega)).mono ?_;rintro e X1 ⟨v1,gP,rfl,K1,F1⟩;dsimp only;have G1:=rU.trans F1;clear K0 F1 rU;go_wp2;(try simp only[Exit.inBlock,Exit.then]);refine bodyPost_end (results_none rfl _ _ _) rfl ⟨v1,gP,rfl,?_,G1⟩;rw[HST.out];refine MK.eu ?_ (fun g h=> .inl h);simpa[List.append_assoc]using K1
theorem Lw.AJ {c:LX}{W0:World}(T:TX c W0){at':Nat}(hat:at'<c.f.b.length)(h:aG.op c.f.b at'=16):0<=Hg.arg c.f.b at':=by have hok:St.ok (aG.op c.f.b at') (Hg.arg c.f.b at')=true:=St.bf T.all hat;simp only[St.ok,au,Wd.bT]at hok;have h1:St.least (aG.op c.f.b at')=0:=by{rw[h];rfl};omega
def Lw.fJ (t n:Int)(k:Nat):List Int:=(List.range k).map fun(i:Nat)=>t-n+1+(i:Int)
theorem Lw.vU (t n:Int)(k:Nat):Lw.fJ t n (k+1)=Lw.fJ t n k++[t-n+1+(k:Int)]:=by unfold Lw.fJ;rw[List.range_succ,List.map_append];rfl
theorem Gn {W:World}{a:Option Addr}{n k:Nat}{fs:List Fn}(h:FL W a n fs)(hk:k<n):∃b off,a=some ⟨b,off,none⟩/\b<W.heap.size/\∃ba bl bc,W.cell? ⟨b,off+k*4,none⟩=some (.int .i64 (fs.getD k .z).a)/\W.cell? ⟨b,off+k*4+1,none⟩=some (.int .i64 (fs.getD k .z).l)/\W.cell? ⟨b,off+k*4+2,none⟩=some (.int .i64 (fs.getD k .z).g)/\W.cell? ⟨b,off+k*4+3,none⟩=some (.slice ba bl bc):=by obtain⟨hl,hm,h0|⟨b,off,e,hb,hx⟩⟩:=h;{omega};obtain⟨x0,x1,x2,ba,bl,bc,x3,-⟩:=hx k hk;exact⟨b,off,e,hb,ba,bl,bc,x0,x1,x2,x3⟩
theorem Jj {c:LX} {W0 W:World} {v vg:Value} {out:List (Ln×Int)} {P:Nat->Prop} (T:TX c W0) (K:MK c W0 W v vg out P) (fa:Option Addr) (fl fc:Nat) (d:ByteArray) (oa:Option Addr) (oc:Nat) (hF:FL W0 fa fl c.fs) (hO:IL W0 oa c.f.b.length c.O) (at':Nat) (hat:at'<c.f.b.length) (hr:0<=c.H.getD at' 0) (hlen:out.length<=900) (p:Int) (hp:aG.op c.f.b at'=p) (hk:Hid (p=16)):Calls Tryz.prog 83 #[.pointer (some ⟨c.B,0,none⟩), .agg #[.slice fa fl fc, .string d], .slice oa c.f.b.length oc, .int .i64 at'] W fun e w'=>∃v' ky,e= .returned (.tuple #[])/\MK c W0 w' v' ky (out++Lw.step c.fs c.f c.E c.O c.H at') (fun g=>P g\/W.heap.size<=g)/\FX c v vg v' ky W w':=by
 have hty:=T.acc.typ at' hat hr
 obtain⟨hH,hE,hS⟩:=T.il K
 have Cz:=hO.kept K.dS
 have hF1:=hF.kept K.dS
 have hLen:=T.ok.2.2.2.2.2
 have htop:=T.acc.qC at' hat
 have hW:=T.lt
 have hwd:0<=Lw.wd c.f/\Lw.wd c.f<=6:=by have:=T.ok;unfold Lw.wd;omega
 have HST:Hid (Lw.step c.fs c.f c.E c.O c.H at'=Lw.gD c.fs c.f c.E c.O c.H at' p (Hg.arg c.f.b at') (Lw.bx c.f (c.H.getD at' 0-1))):=by show _=_;unfold Lw.step;rw[hp]
 have hbx0:=K.box
 unfold LX.dV at hbx0
 obtain⟨bl,hbl⟩:∃n,c.f.b.length=n:=⟨_,rfl⟩
 rw[hbl]at hH hE hS Cz hLen hat hbx0 ⊢
 have NT:(at':Int)<(bl:Int):=by omega
 have cS:∃b o,c.ba=some ⟨b,o,none⟩/\b<W.heap.size/\W.cell? ⟨b,o+at'*2,none⟩=some (.int .i64 (aG.op c.f.b at'))/\W.cell? ⟨b,o+at'*2+1,none⟩=some (.int .i64 (Hg.arg c.f.b at')):=by obtain⟨hl,-,h3|⟨b,o,e,hb,hh⟩⟩:=hS;{omega};exact⟨b,o,e,hb,(hh at' hat).1,(hh at' hat).2⟩
 obtain⟨sb,so,es,lS,Ag,cS2⟩:=cS
 have cH:∃b o,c.ha=some ⟨b,o,none⟩/\b<W.heap.size/\W.cell? ⟨b,o+at',none⟩=some (.int .i64 (c.H.getD at' 0)):=by obtain⟨hl,-,h3|⟨b,o,e,hb,hh⟩⟩:=hH;{omega};exact⟨b,o,e,hb,hh at' hat⟩
 obtain⟨hb',ho',eh,lH,cH⟩:=cH
 have cE:∃b o,c.ea=some ⟨b,o,none⟩/\b<W.heap.size/\W.cell? ⟨b,o+at',none⟩=some (.int .i64 (aG.aT c.E at')):=by obtain⟨hl,-,h3|⟨b,o,e,hb,hh⟩⟩:=hE;{omega};refine⟨b,o,e,hb,?_⟩;rw[hh at' hat];unfold aG.aT;rw[ah,ah,ai (by omega)];rfl
 obtain⟨eb,eo,ee,lE,cE⟩:=cE
 have cO:∃b o,oa=some ⟨b,o,none⟩/\b<W.heap.size/\W.cell? ⟨b,o+at',none⟩=some (.int .i64 (aG.aT c.O at')):=by obtain⟨hl,-,h3|⟨b,o,e,hb,hh⟩⟩:=Cz;{omega};refine⟨b,o,e,hb,?_⟩;rw[hh at' hat];unfold aG.aT;rw[ah,ah,ai (by omega)];rfl
 obtain⟨ob,oo,rfl,lO,cO⟩:=cO
 rw[hp]at Ag
 obtain⟨q,hq⟩:∃q,Hg.arg c.f.b at'=q:=⟨_,rfl⟩
 obtain⟨u,hu⟩:∃u,c.H.getD at' 0=u:=⟨_,rfl⟩
 rw[hq]at cS2 HST
 rw[hu]at cH htop hr HST
 have d2:=(hbx0.2 2 _ rfl).1
 have d3:=(hbx0.2 3 _ rfl).1
 have d4:=(hbx0.2 4 _ rfl).1
 have d5:=(hbx0.2 5 _ rfl).1
 have Cy:=hbx0.1
 rw[eh]at d3
 rw[ee]at d4
 rw[es]at d5
 have hB1:=aA W (.cells #[.slice fa fl fc, .string d] 87)
 have hA1:iX (W.alloc (.cells #[.slice fa fl fc, .string d] 87)) W.heap.size 87 [.slice fa fl fc, .string d]:=heap_alloc_last W _
 obtain⟨W1,hW1⟩:∃X,W.alloc (.cells #[.slice fa fl fc, .string d] 87)=X:=⟨_,rfl⟩
 rw[hW1]at hB1 hA1
 have hB2:=aA W1 (.cells #[.int .i64 (p), .int .i64 q] 111)
 have hA2:iX (W1.alloc (.cells #[.int .i64 (p), .int .i64 q] 111)) W1.heap.size 111 [.int .i64 (p), .int .i64 q]:=heap_alloc_last W1 _
 obtain⟨W2,hW2⟩:∃X,W1.alloc (.cells #[.int .i64 (p), .int .i64 q] 111)=X:=⟨_,rfl⟩
 rw[hW2]at hB2 hA2
 have hB:=hB1.trans (hB2.mono hB1.size)
 have K2:=K.kept hB
 have mZ:=hA1.kept hB2
 have hcon:=gZ T K2 (u-1) (by omega) (by omega)
 have NU:-1<=Lw.bx c.f (u-1)/\Lw.bx c.f (u-1)<=26:=by unfold Lw.bx;omega
 obtain⟨tt,wI⟩:∃tt,Lw.bx c.f (u-1)=tt:=⟨_,rfl⟩
 rw[wI]at hcon NU HST
 have c3:=aO hB1 d3
 have k3:=aO hB d3
 have k4:=aO hB d4
 have c5:=aO hB1 d5
 have c6:=aO hB1 Ag
 have c7:=aO hB1 cS2
 have c8:=aO hB cH
 have qf:=aO hB cE
 have qg:=aO hB cO
 have k2:=aO hB d2
 have s0:=hA2.cell (j:=0) rfl
 have s1:=hA2.cell (j:=1) rfl
 have m0:=mZ.cell (j:=0) rfl
 have F0:FX c v vg v vg W W2:=FX.below hB
 have hF2:=hF1.kept hB
 have HQ:=ae (ak hp (ak hq (ak hbl (ak hu hty))))
 clear hH hE hS hO Cz hF hF1 d2 d3 d4 d5 Ag cS2 cH cE cO hbx0 hA1 hB1 hB2 K hu wI hp hq hbl
 go_enter Tryz.func83,Tryz.ntmps83
 go_wp2_with fail
 refine hcon.mono ?_
 rintro e w3 ⟨rfl,bD⟩
 subst w3
 dsimp only
 clear hcon
 obtain rfl:=hk.out
 have hq0:0<=q:=by have:=Lw.AJ T (at':=at') (by rw[HQ.out.2.2.1];exact hat) HQ.out.1;rw[HQ.out.2.1]at this;exact this
 have hq1:q<c.fs.length:=by have:=HQ.out.2.2.2.2.call HQ.out.1;rw[HQ.out.2.1]at this;exact this
 have hfl:c.fs.length=fl:=hF2.1
 obtain⟨qn,rfl⟩:=Int.eq_ofNat_of_zero_le hq0
 have Xc:qn<fl:=by omega
 have XQ:(qn:Int)<(fl:Int):=by omega
 obtain⟨fb,fo,rfl,lF,PT,PU,PV,y0,y1,y2,y3⟩:=Gn hF2 Xc
 have CB:=Mn.EO T.val (k:=qn) (by omega)
 have aar:fl<=4:=by have:=T.val.len.2;omega
 unfold Mn.fn at CB
 obtain⟨G,hG⟩:∃G,c.fs.getD qn .z=G:=⟨_,rfl⟩
 rw[hG]at CB y0 y1 y2
 replace HST:Hid (Lw.step c.fs c.f c.E c.O c.H at'=[(⟨7,if G.g=1 then tt-G.a+1 else Lw.wd c.f+20,0,0,qn,Lw.args tt G.a⟩,-1)]):=by show _=_;rw[HST.out];show[((⟨7,if(c.fs.getD (qn:Int).toNat .z).g=1 then _ else _,0,0,_,Lw.args tt (c.fs.getD (qn:Int).toNat .z).a⟩:Ln),(-1:Int))]=_;rw[az,hG]
 obtain⟨ga,hga⟩:∃ga:Nat,G.a=(ga:Int):=Int.eq_ofNat_of_zero_le CB.1
 have aas:ga<=3:=by omega
 obtain⟨gg,hgg⟩:∃gg,G.g=gg:=⟨_,rfl⟩
 have Ee:gg=0\/gg=1:=by rw[←hgg];exact CB.2.2.2.2.1
 obtain⟨gl,hgl⟩:∃gl,G.l=gl:=⟨_,rfl⟩
 have Vn:Hid (Lw.args tt G.a=Lw.fJ tt ga ga):=by show _=_;rw[hga];rfl
 rw[hga]at y0 HST Vn
 rw[hgg]at y2 HST
 rw[hgl]at y1
 obtain⟨G7,NW⟩:∃G7,Lw.wd c.f=G7:=⟨_,rfl⟩
 rw[NW]at k2 hwd HST
 have hBG:=aA W2 (.cells #[.int .i64 (ga:Int), .int .i64 gl, .int .i64 gg, .slice PT PU PV] 104)
 have XR:iX (W2.alloc (.cells #[.int .i64 (ga:Int), .int .i64 gl, .int .i64 gg, .slice PT PU PV] 104)) W2.heap.size 104 [.int .i64 (ga:Int), .int .i64 gl, .int .i64 gg, .slice PT PU PV]:=heap_alloc_last W2 _
 obtain⟨W3,hW3⟩:∃X,W2.alloc (.cells #[.int .i64 (ga:Int), .int .i64 gl, .int .i64 gg, .slice PT PU PV] 104)=X:=⟨_,rfl⟩
 rw[hW3]at hBG XR
 have j2:=aO hBG k2
 have t1:=aO hBG s1
 have hlB:c.B<W3.heap.size:=aj K2.sz hBG.size
 have hlS:=(hA2.kept hBG).lt
 have HKK:=ae (ak (K2.kept hBG) (ak (F0.trans (FX.below (c:=c) (v:=v) (vg:=vg) hBG)) XR))
 clear c3 k3 k4 c5 c6 c7 c8 qf qg mZ hW1 hW2 hty hF2 hG hga hgg hgl NW CB hfl K2 F0 hB hA2
 go_wp2
 go_region
 all_goals
  clear j2 t1 y0 y1 y2 y3 k2 s0 s1 m0
  have G8:=aA W3 (.cells #[.int .i64 7, .int .i64 (G7+20), .int .i64 0, .int .i64 0, .int .i64 qn, .slice none 0 0] 40)
  have hBL:=G8.trans ((Below.refl _ _).drew.mono G8.size)
  have XT:iX (W3.alloc (.cells #[.int .i64 7, .int .i64 (G7+20), .int .i64 0, .int .i64 0, .int .i64 qn, .slice none 0 0] 40)).drew W3.heap.size 40 [.int .i64 7, .int .i64 (G7+20), .int .i64 0, .int .i64 0, .int .i64 qn, .slice none 0 0]:=heap_alloc_last W3 _
  obtain⟨i0,hi,hz0,hz1,hz2⟩:=info_parts bN
  have HS:=ae (ak XT hBL)
  clear G8 XT hBL hW3
  go_wp2
  go_loopw [20] (fun vi wr=>∃(k:Nat)(lv:Value),vi= .int .i64 k/\k<=ga/\iX wr W3.heap.size 40 [.int .i64 7, .int .i64 (G7+20), .int .i64 0, .int .i64 0, .int .i64 qn,lv]/\OI wr (W3.heap.size+1) lv (Lw.fJ tt ga k)/\Below W3.heap.size W3 wr) (fun i _=>ga-(intOf i).toNat)
  case atStart=>exact⟨0,_,rfl,Nat.zero_le _,HS.out.1,OI.nil _ _,HS.out.2⟩
  case round=>
   obtain⟨k,lv,rfl,hk,hAr,hol,hBr⟩:=hrel
   clear HS
   have PW:=HKK.out.2.2.kept hBr
   have g0:=PW.cell (j:=0) rfl
   have g2:=PW.cell (j:=2) rfl
   have hll:(Lw.fJ tt ga k).length=k:=by unfold Lw.fJ;simp
   have Ah:wr.ownsRow (W3.heap.size+1) 2 1 lv k ((Lw.fJ tt ga k).map iv):=by unfold OI at hol;rwa [hll]at hol
   obtain⟨la,lc,rfl⟩:=cz Ah
   have Ai:∀g,(Value.slice la k lc).ownBlock=some g->W3.heap.size+1<=g:=fun g hg=>(bE Ah hg).1
   have a5:=hAr.cell (j:=5) rfl
   have al:=hAr.lt
   by_cases hlt:k<ga
   · have bJ:(k:Int)<(ga:Int):=by{omega};obtain⟨y,hy⟩:∃y,tt-(ga:Int)+1+(k:Int)=y:=⟨_,rfl⟩;have HY:=ae hy;clear hy;have lM:=aA wr (.cells #[.int .i64 (tt-(ga:Int)+1+(k:Int))] 2);have HO:=ae (aH Ah lM);have HA:=ae (hAr.kept lM);have Vo:=ae (hBr.trans (lM.mono hBr.size));have Vp:=hBr.size;clear lM hol Ah hAr hBr PW hll;go_wp2_with(at_builtin;refine wpList_append_own _ rfl _ _ 35 rfl (W3.heap.size+1) 2 i0 (.int .i64 0) 1 8 Tryz.underlying35 hi hz0 hz1 hz2 rfl (by decide) (.slice la k lc) k _ rfl HO.out ⟨wr.heap.size,0,none⟩ 1 1 [.int .i64 (tt-(ga:Int)+1+(k:Int))] rfl rfl (cell_one_new _ _ _) (by simp[Value.oneCell']) (by simp only[maxLen];omega) (by omega) (by simp;omega) ?_;intro v2 wB hown2 hgrow2 _;obtain⟨g2',cap2,rfl⟩:=ownsRow_succ hown2;have hA3:=HA.out.dB hgrow2 (fun e=>by have:=Ai W3.heap.size e.symm;omega);have b5:=hA3.cell (j:=5) rfl;have f5:=hA3.frozen 5;have l5:=hA3.lt;have ja:=ae (ak hown2 (ak hgrow2 hA3));clear hown2 hgrow2 hA3);go_roundw;(case rel=>obtain⟨o1,o2,o3⟩:=ja.out;have gs:=aL wB ⟨W3.heap.size,5,none⟩ (.slice (some ⟨g2',0,none⟩) (k+1) cap2);refine⟨k+1,_,by simp,hlt,o3.set 5 _,?_,?_⟩;{show World.ownsRow _ _ _ _ _ _ _;rw[Lw.vU,List.map_append,List.length_append,List.length_singleton,show(Lw.fJ tt ga k).length=k by unfold Lw.fJ;simp];exact bX o1 gs (fun g e=>by have:=(bE o1 e).1;simp only[ne_eq,af];omega)};exact bZ (bZ Vo.out o2 (fun g e=>by have:=Ai g e;omega)) gs (fun g e=>by cases e;exact Nat.le_refl _));case measure=>simp[intOf];omega
   · have hke:k=ga:=by omega
     subst hke
     have bJ:¬(k:Int)<(k:Int):=by omega
     have HX:=ae (ak (HKK.out.1.kept hBr) (HKK.out.2.1.trans (FX.below (c:=c) (v:=v) (vg:=vg) hBr)))
     have Vo:=ae hBr
     have PX:=ae Ah
     have HAr:=ae hAr
     have a0:=hAr.cell (j:=0) rfl
     have a1:=hAr.cell (j:=1) rfl
     have a2:=hAr.cell (j:=2) rfl
     have a3:=hAr.cell (j:=3) rfl
     have a4:=hAr.cell (j:=4) rfl
     have q1:=hAr.frozen 1
     have hKs:=HKK.out.1.wH
     have NY:∀g,vg.ownBlock=some g->g<W3.heap.size:=fun g e=>(bE hKs e).2
     have hB3:c.B+1<=W3.heap.size:=HKK.out.1.sz
     have hWW:=HKK.out.2.1.size
     clear hol Ah hAr hBr PW hKs
     rcases Ee with rfl|rfl
     · have hadd:=aM c W0 wr v vg out (fun g=>P g\/W.heap.size<=g) hW (HX.out.1.eu (fun g h=> .inl h)) ⟨7,G7+20,0,0,qn,Lw.fJ tt k k⟩ la k lc (by
        show World.ownsRow _ _ _ _ _ _ _
        rw[hll]
        refine⟨PX.out.1,?_⟩
        rcases PX.out.2 with h'|⟨g',cap',cur,h',hb,r⟩
        · exact .inl h'
        · exact .inr ⟨g',cap',cur,h',by omega,r⟩) (fun g e=>⟨fun e2=>by have:=Ai g e;have:=NY g e2;omega, .inr (by have:=Ai g e;omega)⟩) (-1) (by omega)
       go_wp2_with fail
       refine hadd.mono ?_
       rintro e X1 ⟨v1,gP,rfl,K1,F1⟩
       dsimp only
       have G1:=HX.out.2.trans F1
       clear hadd a0 a1 a2 a3 a4 a5 g0 g2
       go_wp2
       (try simp only[Exit.inBlock,Exit.then])
       refine bodyPost_end (results_none rfl _ _ _) rfl ⟨v1,gP,rfl,?_,G1⟩
       rw[HST.out,Vn.out]
       exact K1
     · have gs:=aL wr ⟨W3.heap.size,1,none⟩ (.int .i64 (tt-(k:Int)+1))
       have hAs:=HAr.out.set 1 (.int .i64 (tt-(k:Int)+1))
       have Vq:=bZ Vo.out gs (fun g e=>by cases e;exact Nat.le_refl _)
       have hos:=bX PX.out gs (fun g e=>by have:=(bE PX.out e).1;simp only[ne_eq,af];omega)
       obtain⟨ws,hws⟩:∃ws,wr.setCell ⟨W3.heap.size,1,none⟩ (.int .i64 (tt-(k:Int)+1))=ws:=⟨_,rfl⟩
       rw[hws]at hAs Vq hos
       have b0:=hAs.cell (j:=0) rfl
       have b1:=hAs.cell (j:=1) rfl
       have b2:=hAs.cell (j:=2) rfl
       have b3:=hAs.cell (j:=3) rfl
       have b4:=hAs.cell (j:=4) rfl
       have b5:=hAs.cell (j:=5) rfl
       have hKx:=HKK.out.1.kept Vq
       have Rq:=HKK.out.2.1.trans (FX.below (c:=c) (v:=v) (vg:=vg) Vq)
       have hadd:=aM c W0 ws v vg out (fun g=>P g\/W.heap.size<=g) hW (hKx.eu (fun g h=> .inl h)) ⟨7,tt-(k:Int)+1,0,0,qn,Lw.fJ tt k k⟩ la k lc (by
        show World.ownsRow _ _ _ _ _ _ _
        rw[hll]
        refine⟨hos.1,?_⟩
        rcases hos.2 with h'|⟨g',cap',cur,h',hb,r⟩
        · exact .inl h'
        · exact .inr ⟨g',cap',cur,h',by omega,r⟩) (fun g e=>⟨fun e2=>by have:=Ai g e;have:=NY g e2;omega, .inr (by have:=Ai g e;omega)⟩) (-1) (by omega)
       go_wp2_with fail
       refine hadd.mono ?_
       rintro e X1 ⟨v1,gP,rfl,K1,F1⟩
       dsimp only
       have G1:=Rq.trans F1
       clear hadd a0 a1 a2 a3 a4 a5 g0 g2 b0 b1 b2 b3 b4 b5 hws
       go_wp2
       (try simp only[Exit.inBlock,Exit.then])
       refine bodyPost_end (results_none rfl _ _ _) rfl ⟨v1,gP,rfl,?_,G1⟩
       rw[HST.out,Vn.out]
       exact K1
theorem r9 {c:LX}{W0 W:World}{v vg:Value}{out:List (Ln×Int)}{P:Nat->Prop}(T:TX c W0)(K:MK c W0 W v vg out P)(fa:Option Addr)(fl fc:Nat)(d:ByteArray)(oa:Option Addr)(oc:Nat)(hF:FL W0 fa fl c.fs)(hO:IL W0 oa c.f.b.length c.O)(at':Nat)(hat:at'<c.f.b.length)(hr:0<=c.H.getD at' 0)(hlen:out.length<=900):Calls Tryz.prog 83 #[.pointer (some ⟨c.B,0,none⟩), .agg #[.slice fa fl fc, .string d], .slice oa c.f.b.length oc, .int .i64 at'] W fun e w'=>∃v' ky,e= .returned (.tuple #[])/\MK c W0 w' v' ky (out++Lw.step c.fs c.f c.E c.O c.H at') (fun g=>P g\/W.heap.size<=g)/\FX c v vg v' ky W w':=by have hok:St.ok (aG.op c.f.b at') (Hg.arg c.f.b at')=true:=St.bf T.all hat;simp only[St.ok,au,Wd.bT]at hok;obtain⟨p,hp⟩:∃p,aG.op c.f.b at'=p:=⟨_,rfl⟩;rw[hp]at hok;have h3:(p=7\/p=8\/p=9\/p=12\/p=20\/p=1\/p=2\/p=3\/p=4\/p=5\/p=6\/p=17\/p=18\/p=19)\/(p=10\/p=11\/p=13\/p=15\/p=14)\/p=16:=by{omega};rcases h3 with h|h|h;{exact I1 T K fa fl fc d oa oc hF hO at' hat hr hlen p hp h};{exact Jq T K fa fl fc d oa oc hF hO at' hat hr hlen p hp h};exact Jj T K fa fl fc d oa oc hF hO at' hat hr hlen p hp h
namespace Lw
open Hg (arg)
theorem vE {fs:List Fn}{f:Fn}{E O H:List Int}(hA:Hg.Acc fs f E O H){n:Nat}(hn:n<f.b.length)(dp:Int):0<=(dN f E H n dp).1/\(dN f E H n dp).1<f.b.length:=by by_cases hlt:dp.toNat<(aG.bQ f.b E n n).length;{obtain⟨t,et,htl,PM,-⟩:=aG.yI hA.NN rfl hlt;rw[sU hlt (t:=t) et];have f3:=hA.NN.f3 t (by omega) (by omega);split;{exact⟨by simp only;omega,by simp only;omega⟩};split;{exact⟨by simp only;omega,by simp only;omega⟩};exact⟨by simp only;omega,by simp only;omega⟩};rw[yE hlt];have:=hA.pos;exact⟨by simp only;omega,by simp only;omega⟩
theorem zQ {fs:List Fn}{f:Fn}{E O H:List Int}(hA:Hg.Acc fs f E O H){n:Nat}(hn:n<f.b.length)(hr:0<=H.getD n 0):∀x∈step fs f E O H n,-1<=x.2/\x.2<f.b.length:=by have hty:=hA.typ n hn hr;have hpos:=hA.pos;have one:∀(l:Ln)(x:Ln×Int),x∈[(l,(-1:Int))]->-1<=x.2/\x.2<f.b.length:=fun l x hx=>by{rw[List.mem_singleton]at hx;rw[hx];exact⟨Int.le_refl _,by simp only;omega⟩};intro x hx;unfold step gD at hx;obtain⟨p,hp⟩:∃p,aG.op f.b n=p:=⟨_,rfl⟩;rw[hp]at hx;by_cases h1:p=1;{rw[ay h1]at hx;exact one _ x hx};rw[ax h1]at hx;by_cases h2:p=2;{rw[ay h2]at hx;exact one _ x hx};rw[ax h2]at hx;by_cases h3:p=3\/p=4;{rw[ay h3]at hx;exact one _ x hx};rw[ax h3]at hx;by_cases h5:p=5;{rw[ay h5]at hx;exact one _ x hx};rw[ax h5]at hx;by_cases h6:p=6;{rw[ay h6]at hx;exact one _ x hx};rw[ax h6]at hx;by_cases h10:p=10;{rw[ay h10]at hx;have hi:=hty.iff (by rw[hp];exact h10);rcases List.mem_cons.1 hx with rfl|hx;{exact⟨Int.le_refl _,by simp only;omega⟩};rw[List.mem_singleton]at hx;rw[hx];simp only;split;{rcases hi with⟨-,a,-⟩|⟨a,-⟩;{omega};omega};rcases hi with⟨a,-⟩|⟨-,a,b,-⟩;{omega};omega};rw[ax h10]at hx;by_cases h11:p=11;{rw[ay h11]at hx;have hi:=hty.F5 (by rw[hp];exact h11);rw[List.mem_singleton]at hx;rw[hx];simp only;omega};rw[ax h11]at hx;by_cases GL:p=13\/p=15;{rw[ay GL]at hx;have hg:=vE hA hn (if p=15 then 99 else arg f.b n);generalize dN f E H n (if p=15 then 99 else arg f.b n)=L at hx hg;simp only[List.mem_append,List.mem_singleton]at hx;rcases hx with hx|hx;{by_cases hc:L.2.2=1/\L.2.1≠bx f (H.getD n 0-1);{rw[ay hc]at hx;exact one _ x hx};rw[ax hc]at hx;cases hx};rw[hx];simp only;omega};rw[ax GL]at hx;by_cases PD:p=14;{rw[ay PD]at hx;have hg:=vE hA hn (arg f.b n);have hnx:=hty.next (by omega) (by omega) (by omega) (by omega) (by omega);generalize dN f E H n (arg f.b n)=L at hx hg;simp only at hx;by_cases hc:L.2.2=1/\L.2.1≠bx f (H.getD n 0-1)-1;{rw[ay hc]at hx;rcases List.mem_cons.1 hx with rfl|hx;{exact⟨Int.le_refl _,by simp only;omega⟩};rcases List.mem_cons.1 hx with rfl|hx;{exact⟨by simp only;omega,by simp only;omega⟩};rcases List.mem_cons.1 hx with rfl|hx;{exact⟨Int.le_refl _,by simp only;omega⟩};rw[List.mem_singleton]at hx;rw[hx];simp only;omega};rw[ax hc,List.mem_singleton]at hx;rw[hx];simp only;omega};rw[ax PD]at hx;by_cases h16:p=16;{rw[ay h16]at hx;exact one _ x hx};rw[ax h16]at hx;by_cases QQ:p=17;{rw[ay QQ]at hx;exact one _ x hx};rw[ax QQ]at hx;by_cases h18:p=18;{rw[ay h18]at hx;exact one _ x hx};rw[ax h18]at hx;by_cases h19:p=19;{rw[ay h19]at hx;exact one _ x hx};rw[ax h19]at hx;cases hx
theorem qM {fs:List Fn}{f:Fn}{E O H:List Int}(hA:Hg.Acc fs f E O H):∀n,n<=f.b.length->∀x∈(dR fs f E O H n).1,-1<=x.2/\x.2<f.b.length
 | 0,_,x,hx=>by
   unfold dR first at hx
   simp only[List.mem_map]at hx
   obtain⟨i,-,rfl⟩:=hx
   have:=hA.pos
   exact⟨Int.le_refl _,by simp only;omega⟩
 | n +1,hn,x,hx=>by
   unfold dR at hx
   simp only[List.mem_append]at hx
   rcases hx with hx|hx
   · exact qM hA n (by omega) x hx
   · split at hx
     · exact zQ hA (by omega) (by assumption) x hx
     · cases hx
theorem Ch {fs:List Fn}{f:Fn}{E O H:List Int}(hA:Hg.Acc fs f E O H):∀x∈raw fs f E O H,-1<=x.2/\x.2<f.b.length:=fun x hx=>by
 unfold raw at hx
 rcases List.mem_append.1 hx with hx|hx
 · exact qM hA _ (Nat.le_refl _) x hx
 · have:=hA.pos
   unfold last at hx
   split at hx
   · rcases List.mem_cons.1 hx with rfl|hx
     · exact⟨Int.le_refl _,by simp only;omega⟩
     · rw[List.mem_singleton]at hx
       rw[hx]
       exact⟨Int.le_refl _,by simp only;omega⟩
   · rw[List.mem_singleton]at hx
     rw[hx]
     exact⟨Int.le_refl _,by simp only;omega⟩
end Lw
theorem nP:∀(xs:List Lv)(k:Nat)(y:Int),k<xs.length->bS (xs.set k ((xs.getD k ek).1,(xs.getD k ek).2.1,(xs.getD k ek).2.2.1,(xs.getD k ek).2.2.2.1,y,(xs.getD k ek).2.2.2.2.2))=(bS xs).set (k*6+4) (.int .i64 y)
 |[],k,y,h=>by simp at h
 |x::xs,0,y,h=>rfl
 | x::xs,k+1,y,h=>by
   have ih:=nP xs k y (by simpa using h)
   have e:(x::xs).getD (k+1) ek=xs.getD k ek:=rfl
   rw[e,List.set_cons_succ,fq,ih,fq,show(k+1)*6+4=k*6+4+1+1+1+1+1+1 by omega]
   simp only[List.set_cons_succ]
theorem Pz (n:Int)(h0:0<=n)(h1:n<2 ^ 40):IntKind.u64.wrap n=n:=by rw[IntKind.wrap_u64];omega
theorem uU {n m:Nat}(hn:n<2 ^ 40)(hm:m<2 ^ 40):bits .or .u64 n m=((n|||m:Nat):Int):=(bits_nat .u64 40 (by decide) Pz n m hn hm).2
theorem Gw {n m:Nat}(hn:n<2 ^ 40)(hm:m<2 ^ 40):bits .and .u64 n m=((n&&& m:Nat):Int):=(bits_nat .u64 40 (by decide) Pz n m hn hm).1
theorem ES {n m:Nat}(hn:n<2 ^ 40)(hm:m<2 ^ 40):bits .andNot .u64 n m=((Fl.an n m:Nat):Int):=by have hx:Fl.an n m<2 ^ 40:=Fl.rJ hn;have e:(BitVec.ofInt 64 (n:Int)&&& ~~~BitVec.ofInt 64 (m:Int)).toNat=Fl.an n m:=by{rw[BitVec.toNat_and,BitVec.toNat_not,BitVec.ofInt_natCast,BitVec.ofInt_natCast,BitVec.toNat_ofNat,BitVec.toNat_ofNat,Nat.mod_eq_of_lt (by omega),Nat.mod_eq_of_lt (by omega)];refine Nat.eq_of_testBit_eq fun k=>?_;rw[Nat.testBit_and,Fl.mh,Nat.sub_sub,Nat.add_comm,Nat.testBit_two_pow_sub_succ (by omega)];by_cases h:k<64;{simp[h]};rw[Nat.testBit_lt_two_pow (aj hn (Nat.pow_le_pow_right (by decide) (by omega)))];rfl};show IntKind.u64.wrap ((BitVec.ofInt 64 (n:Int)&&& ~~~BitVec.ofInt 64 (m:Int)).toNat:Int)=_;rw[e];exact Pz _ (by omega) (by omega)
theorem EQ {j:Nat}(hj:j<=39):IntKind.u64.wrap ((2:Int) ^ j)=((2 ^ j:Nat):Int)/\(2:Nat) ^ j<2 ^ 40:=by have h:(2:Nat) ^ j<2 ^ 40:=Nat.pow_lt_pow_right (by decide) (by omega);refine⟨?_,h⟩;have e:(2:Int) ^ j=((2 ^ j:Nat):Int):=by{simp};rw[e];generalize(2:Nat) ^ j=m at h ⊢;exact Pz _ (by omega) (by omega)
theorem Gp {n j:Nat}(hn:n<2 ^ 40)(hj:j<=39):bits .or .u64 (n:Int) (IntKind.u64.wrap (2 ^ j))=((n|||2 ^ j:Nat):Int):=by rw[(EQ hj).1,uU hn (EQ hj).2]
theorem ib (la:Option Addr)(ln lc:Nat)(xs:List Int)(hx:∀y∈xs,0<=y/\y<=39)(hlen:ln<=1000000)(w:World)(hs:IL w la ln xs):Calls Tryz.prog 60 #[.slice la ln lc] w fun e w'=>e= .returned (.int .u64 ((Fl.mk xs:Nat):Int))/\w'=w:=by have HL:=ae hs.1;have HX:=ae hx;have wW:(ln:Int)<=1000000:=by{omega};go_enter Tryz.func60,Tryz.ntmps60;go_wp2;go_loopg [3,8] ln (fun gk vx vi wr=>∃(k q:Nat),gk=ln-k/\k<=ln/\vx= .int .u64 (q:Int)/\vi= .int .i64 (k:Int)/\Hid (q=Fl.mk (xs.take k))/\w=wr);(case atStart=>exact⟨0,0,rfl,by omega,rfl,rfl,(by show _=_;simp[Fl.mk]),rfl⟩);case round=>obtain⟨k,q,uy,hk,rfl,rfl,HQ,bD⟩:=hrel;subst bD;by_cases hlt:k<ln;{have bJ:(k:Int)<(ln:Int):=by{omega};have hkl:k<xs.length:=by{rw[HL.out];exact hlt};obtain⟨-,-,h0|⟨lb,lo,rfl,hlb,hcc⟩⟩:=hs;{omega};have hc:=hcc k hlt;have hy:=HX.out (xs.getD k 0) (by rw[ah,ai hkl];exact List.getElem_mem hkl);have HS:=ae (Fl.sj hkl);rw[←HQ.out]at HS;have Eg:Hid (q<2 ^ 40):=by{show _<_;rw[HQ.out];exact Fl.uO fun y hy=>HX.out y (List.mem_of_mem_take hy)};obtain⟨y,Cq⟩:∃y,xs.getD k 0=y:=⟨_,rfl⟩;rw[Cq]at hc hy HS;clear Cq hkl hx hcc;obtain⟨j,rfl⟩:=Int.eq_ofNat_of_zero_le hy.1;rw[az]at HS;have hj:(j:Int)<=39:=hy.2;have hor:bits .or .u64 (q:Int) (IntKind.u64.wrap (2 ^ j))=((q|||2 ^ j:Nat):Int):=Gp Eg.out (by omega);clear hy;go_wp2;go_roundg (ln-(k+1));(case measure=>omega);case rel=>exact⟨k+1,q|||2 ^ j,rfl,hlt,rfl,by simp,(by show _=_;rw[HS.out]),rfl⟩};have hke:k=ln:=by{omega};have HE:Hid (q=Fl.mk xs):=by{show _=_;rw[HQ.out,hke,←HL.out,List.take_length]};have bJ:¬(k:Int)<(ln:Int):=by{omega};clear HQ hke;go_wp2;go_ret;exact⟨by rw[←HE.out]<;>rfl,rfl⟩
theorem DD (m k:Nat):(m&&& Fl.mk [(k:Int)]=0↔m.testBit k=false):=by have e:Fl.mk [(k:Int)]=2 ^ k:=by{simp[Fl.mk]};rw[e];constructor;{intro h;have h2:=congrArg (fun n=>n.testBit k) h;simp only[Nat.testBit_and,Nat.testBit_two_pow_self,Nat.zero_testBit,Bool.and_true]at h2;exact h2};intro h;refine Nat.eq_of_testBit_eq fun j=>?_;rw[Nat.testBit_and,Nat.testBit_two_pow,Nat.zero_testBit];by_cases hj:k=j;{subst hj;rw[h];rfl};simp[hj]
theorem oL (m:Nat) (hm:m<2 ^ 40) (w:World):Calls Tryz.prog 42 #[.int .u64 (m:Int)] w fun e w'=>∃g n c,e= .returned (.slice (some ⟨g,0,none⟩) n c)/\OG w' w.heap.size g n c (Fl.jd m)/\Below w.heap.size w w':=by
 have ho:=OG.empty w w.heap.size (Nat.le_refl _)
 have hB:=aA w (.cells #[] 2)
 go_enter Tryz.func42,Tryz.ntmps42
 go_wp2
 go_loopg [3,6] 40 (fun gk vo vi wr=>∃(k g n c:Nat),gk=40-k/\k<=40/\vo= .slice (some ⟨g,0,none⟩) n c/\vi= .int .i64 (k:Int)/\OG wr w.heap.size g n c (Fl.mU m k)/\Below w.heap.size w wr)
 case atStart=>exact⟨0,_,0,0,rfl,by omega,rfl,rfl,ho,hB⟩
 case round=>
  obtain⟨k,g,n,c,uy,hk,rfl,rfl,hor,hBr⟩:=hrel
  clear ho hB
  have bD:=hBr.size
  have HO:=ae (ak hor hBr)
  clear hor hBr
  by_cases hlt:k<40
  · have bJ:(k:Int)<40:=by omega
    have hlen:=Fl.kT m k
    have hnk:n<=k:=by rw[HO.out.1.1]at hlen;exact hlen
    have hal:=aA wr (.cells #[.int .i64 (k:Int)] 2)
    have hcon:=ib (some ⟨wr.heap.size,0,none⟩) 1 1 [(k:Int)] (fun y hy=>by rw[List.mem_singleton]at hy;omega) (by omega) (wr.alloc (.cells #[.int .i64 (k:Int)] 2)) (OI.il (OG.one wr wr.heap.size (Nat.le_refl _) (k:Int)).oi).2
    have hp:Fl.mk [(k:Int)]<2 ^ 40:=Fl.uO fun y hy=>by rw[List.mem_singleton]at hy;omega
    have hAnd:=Gw hm hp
    have hbit:=DD m k
    generalize Fl.mk [(k:Int)]=P at hcon hAnd hbit
    generalize m&&& P=z at hAnd hbit
    have HR:=ae (HO.out.1.kept hal)
    have HB:=ae (HO.out.2.trans (hal.mono bD))
    have hg:=HO.out.1.lt
    clear hlen hp
    rcases hb:m.testBit k with _|_
    · have hz:=hbit.2 hb;subst hz;have XU:bits .and .u64 (m:Int) (P:Int)=0:=hAnd;have HE:Hid (Fl.mU m (k+1)=Fl.mU m k):=by{show _=_;rw[Fl.mU,ax (by rw[hb];decide)]};clear hb hbit hAnd hal;go_wp2_with(go_at_call 60;refine hcon.mono ?_;rintro e w4 ⟨rfl,hw4⟩;subst w4;dsimp only);go_roundg (40-(k+1));(case measure=>omega);case rel=>exact⟨k+1,g,n,c,rfl,hlt,rfl,by simp,by rw[HE.out];exact HR.out,HB.out⟩
    · have hz:¬(z:Int)=0:=by intro h;have:=hbit.1 (by omega);rw[hb]at this;cases this
      have HE:Hid (Fl.mU m (k+1)=Fl.mU m k++[(k:Int)]):=by show _=_;rw[Fl.mU,ay hb]
      clear hb hbit hal
      have pF:=aA (wr.alloc (.cells #[.int .i64 (k:Int)] 2)) (.cells #[.int .i64 (k:Int)] 2)
      have HR2:=ae (HR.out.kept pF)
      have HB2:=ae (HB.out.trans (pF.mono HB.out.size))
      have HC:Hid (∀j,j<1->((wr.alloc (.cells #[.int .i64 (k:Int)] 2)).alloc (.cells #[.int .i64 (k:Int)] 2)).cell? ⟨wr.heap.size+1,0+j,none⟩=some (.int .i64 (([(k:Int)]:List Int).getD j 0))):=fun j hj=>by obtain rfl:j=0:=by{omega};simp
      clear pF
      go_wp2_with(first
        |(go_at_call 60;refine hcon.mono ?_;rintro e w4 ⟨rfl,hw4⟩;subst w4;dsimp only)
        |(at_builtin;refine dw _ rfl _ _ rfl w.heap.size _ _ _ _ rfl HR2.out (wr.heap.size+1) 0 1 1 [(k:Int)] (by simp[Act.eval]) rfl HC.out (by omega) (by simp;omega) ?_;intro g4 c4 N4 w4 Rx yP gN;have HF:=ae (ak yP (aI HB2.out gN (by omega)));clear yP gN))
      go_roundg (40-(k+1))
      case measure=>omega
      case rel=>exact⟨k+1,g4,N4,c4,rfl,hlt,rfl,by simp,by rw[HE.out];exact HF.out.1,HF.out.2⟩
  · have hke:k=40:=by{omega};subst hke;go_wp2;go_ret;exact⟨g,n,c,rfl,HO.out.1,HO.out.2⟩
namespace Fl
theorem JL {l:List Int}{n:Int}:hs l n=false↔∀j,j<l.length->l.getD j 0≠n:=by rw[Bool.eq_false_iff,ne_eq,uk];constructor;{intro h j hj e;exact h (e▸oZ hj)};intro h hm;obtain⟨j,hj,e⟩:=List.getElem_of_mem hm;refine h j hj ?_;rw[ah,ai hj];exact e
end Fl
theorem l7 (a:Option Addr)(len cap:Nat)(xs:List Int)(n:Int)(w:World)(hs:IL w a len xs):Calls Tryz.prog 15 #[.slice a len cap, .int .i64 n] w fun e w'=>e= .returned (.bool (Fl.hs xs n))/\w'=w:=by obtain⟨hl,hm,hrow⟩:=hs;have HL:=ae hl;unfold maxLen at hm;have HR:Hid ((∃j,j<len/\xs.getD j 0=n)->Fl.hs xs n=true):=fun⟨j,hj,e⟩=>by{rw[Fl.uk,←e];exact Fl.oZ (by omega)};have HN:Hid ((∀j,j<len->xs.getD j 0≠n)->Fl.hs xs n=false):=fun h=>by{rw[Fl.JL];intro j hj;exact h j (by omega)};clear hl;obtain⟨R,hR⟩:∃R,Fl.hs xs n=R:=⟨_,rfl⟩;rw[hR]at HR HN ⊢;clear hR;go_enter Tryz.func15,Tryz.ntmps15;go_wp2;go_loopg [5] len (fun gk vi wr=>∃k:Nat,gk=len-k/\k<=len/\vi= .int .i64 (k:Int)/\Hid (∀j,j<k->xs.getD j 0≠n)/\w=wr);(case atStart=>exact⟨0,rfl,by omega,rfl,(fun j hj=>by omega),rfl⟩);case round=>obtain⟨k,uy,hk,rfl,HK,bD⟩:=hrel;subst bD;by_cases hlt:k<len;{have bJ:(k:Int)<(len:Int):=by{omega};obtain h0|⟨lb,lo,rfl,hlb,hcc⟩:=hrow;{omega};have hc:=hcc k hlt;by_cases e:xs.getD k 0=n;{have HE:Hid (R=true):=HR.out ⟨k,hlt,e⟩;rw[e]at hc;have hq:(n==n)=true:=by{simp};clear hcc e;go_wp2;go_ret;exact⟨by rw[HE.out]<;>rfl,rfl⟩};have HK2:Hid (∀j,j<k+1->xs.getD j 0≠n):=fun j hj=>by{by_cases h:j<k;{exact HK.out j h};obtain rfl:j=k:=by{omega};exact e};obtain⟨y,hy⟩:∃y,xs.getD k 0=y:=⟨_,rfl⟩;rw[hy]at hc e;have hq:(y==n)=false:=by{simpa using e};clear hcc hy;go_wp2;go_roundg (len-(k+1));(case measure=>omega);case rel=>exact⟨k+1,rfl,hlt,by simp,HK2,rfl⟩};have HE:Hid (R=false):=HN.out fun j hj=>HK.out j (by omega);have bJ:¬(k:Int)<(len:Int):=by{omega};go_wp2;go_ret;exact⟨by rw[HE.out]<;>rfl,rfl⟩
end Go.Proofs.YtlbkdlnalgkjeaaGreat
