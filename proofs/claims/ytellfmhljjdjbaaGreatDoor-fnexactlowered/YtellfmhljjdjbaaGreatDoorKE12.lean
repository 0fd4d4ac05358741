/-
  Own texts for a law: Low4 Low5 Low6 Low7 Insp1 Insp2 Insp3 Insp4 Shp5
-/
import Derived.Test.YtellfmhljjdjbaaGreatDoorKE09
import Derived.Lib.AppendZeros
import Derived.Deep.Upon
namespace Go.Proofs.YtellfmhljjdjbaaGreatDoor
open Go.RowKit Go.Shelf
set_option linter.all false
set_option maxRecDepth 100000
set_option maxHeartbeats 16000000
theorem H5 {c:LX}{W0 W:World}{v vg:Value}{out:List (Ln×Int)}{P:Nat->Prop}(T:TX c W0)(K:MK c W0 W v vg out P)(fa:Option Addr)(fl fc:Nat)(d:ByteArray)(oa:Option Addr)(oc:Nat)(hF:FL W0 fa fl c.fs)(hO:IL W0 oa c.f.b.length c.O)(at':Nat)(hat:at'<c.f.b.length)(hr:0<=c.H.getD at' 0)(hlen:out.length<=900)(p:Int)(hp:aC.op c.f.b at'=p)(hk:p=7\/p=8\/p=9\/p=12\/p=20\/p=1\/p=2\/p=3\/p=4\/p=5\/p=6\/p=17\/p=18\/p=19):Calls Tryz.prog 66 #[.pointer (some ⟨c.B,0,none⟩), .agg #[.slice fa fl fc, .string d], .slice oa c.f.b.length oc, .int .i64 at'] W fun e w'=>∃v' iq,e= .returned (.tuple #[])/\MK c W0 w' v' iq (out++Lw.step c.fs c.f c.E c.O c.H at') (fun g=>P g\/W.heap.size<=g)/\FX c v vg v' iq W w':=by have hty:=T.acc.typ at' hat hr;obtain⟨hH,hE,hS⟩:=T.il K;have xB:=hO.kept K.bA;have hF1:=hF.kept K.bA;have hLen:=T.ok.2.2.2.2.2;have htop:=T.acc.bV at' hat;have hW:=T.lt;have hwd:0<=Lw.wd c.f/\Lw.wd c.f<=6:=by{have:=T.ok;unfold Lw.wd;omega};have HST:Hid (Lw.step c.fs c.f c.E c.O c.H at'=Lw.yI c.fs c.f c.E c.O c.H at' p (Hg.arg c.f.b at') (Lw.bx c.f (c.H.getD at' 0-1))):=by{show _=_;unfold Lw.step;rw[hp]};have hbx0:=K.box;unfold LX.ku at hbx0;obtain⟨bl,hbl⟩:∃n,c.f.b.length=n:=⟨_,rfl⟩;rw[hbl]at hH hE hS xB hLen hat hbx0 ⊢;have Me:(at':Int)<(bl:Int):=by{omega};have cS:∃b o,c.ba=some ⟨b,o,none⟩/\b<W.heap.size/\W.cell? ⟨b,o+at'*2,none⟩=some (.int .i64 (aC.op c.f.b at'))/\W.cell? ⟨b,o+at'*2+1,none⟩=some (.int .i64 (Hg.arg c.f.b at')):=by{obtain⟨hl,-,h3|⟨b,o,e,hb,hh⟩⟩:=hS;{omega};exact⟨b,o,e,hb,(hh at' hat).1,(hh at' hat).2⟩};obtain⟨sb,so,es,lS,y8,cS2⟩:=cS;have cH:∃b o,c.ha=some ⟨b,o,none⟩/\b<W.heap.size/\W.cell? ⟨b,o+at',none⟩=some (.int .i64 (c.H.getD at' 0)):=by{obtain⟨hl,-,h3|⟨b,o,e,hb,hh⟩⟩:=hH;{omega};exact⟨b,o,e,hb,hh at' hat⟩};obtain⟨hb',ho',eh,lH,cH⟩:=cH;have cE:∃b o,c.ea=some ⟨b,o,none⟩/\b<W.heap.size/\W.cell? ⟨b,o+at',none⟩=some (.int .i64 (aC.aO c.E at')):=by{obtain⟨hl,-,h3|⟨b,o,e,hb,hh⟩⟩:=hE;{omega};refine⟨b,o,e,hb,?_⟩;rw[hh at' hat];unfold aC.aO;rw[ai,ai,aj (by omega)];rfl};obtain⟨eb,eo,ee,lE,cE⟩:=cE;have cO:∃b o,oa=some ⟨b,o,none⟩/\b<W.heap.size/\W.cell? ⟨b,o+at',none⟩=some (.int .i64 (aC.aO c.O at')):=by{obtain⟨hl,-,h3|⟨b,o,e,hb,hh⟩⟩:=xB;{omega};refine⟨b,o,e,hb,?_⟩;rw[hh at' hat];unfold aC.aO;rw[ai,ai,aj (by omega)];rfl};obtain⟨ob,oo,rfl,lO,cO⟩:=cO;rw[hp]at y8;obtain⟨q,hq⟩:∃q,Hg.arg c.f.b at'=q:=⟨_,rfl⟩;obtain⟨u,hu⟩:∃u,c.H.getD at' 0=u:=⟨_,rfl⟩;rw[hq]at cS2 HST;rw[hu]at cH htop hr HST;have d2:=(hbx0.2 2 _ rfl).1;have d3:=(hbx0.2 3 _ rfl).1;have d4:=(hbx0.2 4 _ rfl).1;have d5:=(hbx0.2 5 _ rfl).1;have Bq:=hbx0.1;rw[eh]at d3;rw[ee]at d4;rw[es]at d5;have hB1:=aB W (.cells #[.slice fa fl fc, .string d] 26);have hA1:ky (W.alloc (.cells #[.slice fa fl fc, .string d] 26)) W.heap.size 26 [.slice fa fl fc, .string d]:=heap_alloc_last W _;obtain⟨W1,hW1⟩:∃X,W.alloc (.cells #[.slice fa fl fc, .string d] 26)=X:=⟨_,rfl⟩;rw[hW1]at hB1 hA1;have hB2:=aB W1 (.cells #[.int .i64 (p), .int .i64 q] 121);have hA2:ky (W1.alloc (.cells #[.int .i64 (p), .int .i64 q] 121)) W1.heap.size 121 [.int .i64 (p), .int .i64 q]:=heap_alloc_last W1 _;obtain⟨W2,hW2⟩:∃X,W1.alloc (.cells #[.int .i64 (p), .int .i64 q] 121)=X:=⟨_,rfl⟩;rw[hW2]at hB2 hA2;have hB:=hB1.trans (hB2.mono hB1.size);have K2:=K.kept hB;have mO:=hA1.kept hB2;have hcon:=iC T K2 (u-1) (by omega) (by omega);have Mf:-1<=Lw.bx c.f (u-1)/\Lw.bx c.f (u-1)<=26:=by{unfold Lw.bx;omega};obtain⟨tt,uB⟩:∃tt,Lw.bx c.f (u-1)=tt:=⟨_,rfl⟩;rw[uB]at hcon Mf HST;have c3:=aI hB1 d3;have k3:=aI hB d3;have k4:=aI hB d4;have c5:=aI hB1 d5;have c6:=aI hB1 y8;have c7:=aI hB1 cS2;have c8:=aI hB cH;have oQ:=aI hB cE;have oU:=aI hB cO;have k2:=aI hB d2;have s0:=hA2.cell (j:=0) rfl;have s1:=hA2.cell (j:=1) rfl;have m0:=mO.cell (j:=0) rfl;have F0:FX c v vg v vg W W2:=FX.below hB;have hF2:=hF1.kept hB;have HQ:=af (au hp (au hq (au hbl (au hu hty))));clear hH hE hS hO xB hF hF1 d2 d3 d4 d5 y8 cS2 cH cE cO hbx0 hA1 hB1 hB2 K hu uB hp hq hbl;go_enter Tryz.func66,Tryz.ntmps66;go_wp2_with fail;refine hcon.mono ?_;rintro e w3 ⟨rfl,dw⟩;subst w3;dsimp only;clear hcon;rcases hk with rfl|rfl|rfl|rfl|rfl|rfl|rfl|rfl|rfl|rfl|rfl|rfl|rfl|rfl;{replace HST:Hid (Lw.step c.fs c.f c.E c.O c.H at'=[]):=HST;clear c3 k3 k4 c5 c6 c7 c8 oQ oU k2 m0 mO hA2 hW1 hW2 hty hF2;go_wp2;(try simp only[Exit.inBlock,Exit.then]);refine bodyPost_end (results_none rfl _ _ _) rfl ⟨v,vg,rfl,?_,F0⟩;rw[HST.out];refine MK.fw ?_ (fun g h=> .inl h);simpa[List.append_assoc]using K2};{replace HST:Hid (Lw.step c.fs c.f c.E c.O c.H at'=[]):=HST;clear c3 k3 k4 c5 c6 c7 c8 oQ oU k2 m0 mO hA2 hW1 hW2 hty hF2;go_wp2;(try simp only[Exit.inBlock,Exit.then]);refine bodyPost_end (results_none rfl _ _ _) rfl ⟨v,vg,rfl,?_,F0⟩;rw[HST.out];refine MK.fw ?_ (fun g h=> .inl h);simpa[List.append_assoc]using K2};{replace HST:Hid (Lw.step c.fs c.f c.E c.O c.H at'=[]):=HST;clear c3 k3 k4 c5 c6 c7 c8 oQ oU k2 m0 mO hA2 hW1 hW2 hty hF2;go_wp2;(try simp only[Exit.inBlock,Exit.then]);refine bodyPost_end (results_none rfl _ _ _) rfl ⟨v,vg,rfl,?_,F0⟩;rw[HST.out];refine MK.fw ?_ (fun g h=> .inl h);simpa[List.append_assoc]using K2};{replace HST:Hid (Lw.step c.fs c.f c.E c.O c.H at'=[]):=HST;clear c3 k3 k4 c5 c6 c7 c8 oQ oU k2 m0 mO hA2 hW1 hW2 hty hF2;go_wp2;(try simp only[Exit.inBlock,Exit.then]);refine bodyPost_end (results_none rfl _ _ _) rfl ⟨v,vg,rfl,?_,F0⟩;rw[HST.out];refine MK.fw ?_ (fun g h=> .inl h);simpa[List.append_assoc]using K2};{replace HST:Hid (Lw.step c.fs c.f c.E c.O c.H at'=[]):=HST;clear c3 k3 k4 c5 c6 c7 c8 oQ oU k2 m0 mO hA2 hW1 hW2 hty hF2;go_wp2;(try simp only[Exit.inBlock,Exit.then]);refine bodyPost_end (results_none rfl _ _ _) rfl ⟨v,vg,rfl,?_,F0⟩;rw[HST.out];refine MK.fw ?_ (fun g h=> .inl h);simpa[List.append_assoc]using K2};{replace HST:Hid (Lw.step c.fs c.f c.E c.O c.H at'=[(⟨1,tt+1,0,0,q,[]⟩,-1)]):=HST;clear c3 k3 k4 c5 c6 c7 c8 oQ oU k2 m0 mO hA2 hW1 hW2 hty hF2;go_wp2_with fail;refine(aF c W0 W2 v vg (out) P hW K2 ⟨1,tt+1,0,0,q,[]⟩ none 0 0 (OI.nil _ _) (fun g e=>by cases e) (-1) (by omega)).mono ?_;rintro e X1 ⟨v1,ik,rfl,K1,F1⟩;dsimp only;clear s0 s1;have G1:=F0.trans F1;clear K2 F1 F0;go_wp2;(try simp only[Exit.inBlock,Exit.then]);refine bodyPost_end (results_none rfl _ _ _) rfl ⟨v1,ik,rfl,?_,G1⟩;rw[HST.out];refine MK.fw ?_ (fun g h=> .inl h);simpa[List.append_assoc]using K1};{replace HST:Hid (Lw.step c.fs c.f c.E c.O c.H at'=[(⟨2,tt+1,q,0,0,[]⟩,-1)]):=HST;clear c3 k3 k4 c5 c6 c7 c8 oQ oU k2 m0 mO hA2 hW1 hW2 hty hF2;go_wp2_with fail;refine(aF c W0 W2 v vg (out) P hW K2 ⟨2,tt+1,q,0,0,[]⟩ none 0 0 (OI.nil _ _) (fun g e=>by cases e) (-1) (by omega)).mono ?_;rintro e X1 ⟨v1,ik,rfl,K1,F1⟩;dsimp only;clear s0 s1;have G1:=F0.trans F1;clear K2 F1 F0;go_wp2;(try simp only[Exit.inBlock,Exit.then]);refine bodyPost_end (results_none rfl _ _ _) rfl ⟨v1,ik,rfl,?_,G1⟩;rw[HST.out];refine MK.fw ?_ (fun g h=> .inl h);simpa[List.append_assoc]using K1};{replace HST:Hid (Lw.step c.fs c.f c.E c.O c.H at'=[(⟨2,q,tt,0,0,[]⟩,-1)]):=HST;clear c3 k3 k4 c5 c6 c7 c8 oQ oU k2 m0 mO hA2 hW1 hW2 hty hF2;go_wp2_with fail;refine(aF c W0 W2 v vg (out) P hW K2 ⟨2,q,tt,0,0,[]⟩ none 0 0 (OI.nil _ _) (fun g e=>by cases e) (-1) (by omega)).mono ?_;rintro e X1 ⟨v1,ik,rfl,K1,F1⟩;dsimp only;clear s0 s1;have G1:=F0.trans F1;clear K2 F1 F0;go_wp2;(try simp only[Exit.inBlock,Exit.then]);refine bodyPost_end (results_none rfl _ _ _) rfl ⟨v1,ik,rfl,?_,G1⟩;rw[HST.out];refine MK.fw ?_ (fun g h=> .inl h);simpa[List.append_assoc]using K1};{replace HST:Hid (Lw.step c.fs c.f c.E c.O c.H at'=[(⟨2,q,tt,0,0,[]⟩,-1)]):=HST;clear c3 k3 k4 c5 c6 c7 c8 oQ oU k2 m0 mO hA2 hW1 hW2 hty hF2;go_wp2_with fail;refine(aF c W0 W2 v vg (out) P hW K2 ⟨2,q,tt,0,0,[]⟩ none 0 0 (OI.nil _ _) (fun g e=>by cases e) (-1) (by omega)).mono ?_;rintro e X1 ⟨v1,ik,rfl,K1,F1⟩;dsimp only;clear s0 s1;have G1:=F0.trans F1;clear K2 F1 F0;go_wp2;(try simp only[Exit.inBlock,Exit.then]);refine bodyPost_end (results_none rfl _ _ _) rfl ⟨v1,ik,rfl,?_,G1⟩;rw[HST.out];refine MK.fw ?_ (fun g h=> .inl h);simpa[List.append_assoc]using K1};{replace HST:Hid (Lw.step c.fs c.f c.E c.O c.H at'=[(⟨3,tt-1,tt-1,tt,q,[]⟩,-1)]):=HST;clear c3 k3 k4 c5 c6 c7 c8 oQ oU k2 m0 mO hA2 hW1 hW2 hty hF2;go_wp2_with fail;refine(aF c W0 W2 v vg (out) P hW K2 ⟨3,tt-1,tt-1,tt,q,[]⟩ none 0 0 (OI.nil _ _) (fun g e=>by cases e) (-1) (by omega)).mono ?_;rintro e X1 ⟨v1,ik,rfl,K1,F1⟩;dsimp only;clear s0 s1;have G1:=F0.trans F1;clear K2 F1 F0;go_wp2;(try simp only[Exit.inBlock,Exit.then]);refine bodyPost_end (results_none rfl _ _ _) rfl ⟨v1,ik,rfl,?_,G1⟩;rw[HST.out];refine MK.fw ?_ (fun g h=> .inl h);simpa[List.append_assoc]using K1};{replace HST:Hid (Lw.step c.fs c.f c.E c.O c.H at'=[(⟨4,tt,tt,0,0,[]⟩,-1)]):=HST;clear c3 k3 k4 c5 c6 c7 c8 oQ oU k2 m0 mO hA2 hW1 hW2 hty hF2;go_wp2_with fail;refine(aF c W0 W2 v vg (out) P hW K2 ⟨4,tt,tt,0,0,[]⟩ none 0 0 (OI.nil _ _) (fun g e=>by cases e) (-1) (by omega)).mono ?_;rintro e X1 ⟨v1,ik,rfl,K1,F1⟩;dsimp only;clear s0 s1;have G1:=F0.trans F1;clear K2 F1 F0;go_wp2;(try simp only[Exit.inBlock,Exit.then]);refine bodyPost_end (results_none rfl _ _ _) rfl ⟨v1,ik,rfl,?_,G1⟩;rw[HST.out];refine MK.fw ?_ (fun g h=> .inl h);simpa[List.append_assoc]using K1};{replace HST:Hid (Lw.step c.fs c.f c.E c.O c.H at'=[(⟨8,tt,tt,0,q,[]⟩,-1)]):=HST;clear c3 k3 k4 c5 c6 c7 c8 oQ oU k2 m0 mO hA2 hW1 hW2 hty hF2;go_wp2_with fail;refine(aF c W0 W2 v vg (out) P hW K2 ⟨8,tt,tt,0,q,[]⟩ none 0 0 (OI.nil _ _) (fun g e=>by cases e) (-1) (by omega)).mono ?_;rintro e X1 ⟨v1,ik,rfl,K1,F1⟩;dsimp only;clear s0 s1;have G1:=F0.trans F1;clear K2 F1 F0;go_wp2;(try simp only[Exit.inBlock,Exit.then]);refine bodyPost_end (results_none rfl _ _ _) rfl ⟨v1,ik,rfl,?_,G1⟩;rw[HST.out];refine MK.fw ?_ (fun g h=> .inl h);simpa[List.append_assoc]using K1};{replace HST:Hid (Lw.step c.fs c.f c.E c.O c.H at'=[(⟨9,0,tt-1,tt,q,[]⟩,-1)]):=HST;clear c3 k3 k4 c5 c6 c7 c8 oQ oU k2 m0 mO hA2 hW1 hW2 hty hF2;go_wp2_with fail;refine(aF c W0 W2 v vg (out) P hW K2 ⟨9,0,tt-1,tt,q,[]⟩ none 0 0 (OI.nil _ _) (fun g e=>by cases e) (-1) (by omega)).mono ?_;rintro e X1 ⟨v1,ik,rfl,K1,F1⟩;dsimp only;clear s0 s1;have G1:=F0.trans F1;clear K2 F1 F0;go_wp2;(try simp only[Exit.inBlock,Exit.then]);refine bodyPost_end (results_none rfl _ _ _) rfl ⟨v1,ik,rfl,?_,G1⟩;rw[HST.out];refine MK.fw ?_ (fun g h=> .inl h);simpa[List.append_assoc]using K1};replace HST:Hid (Lw.step c.fs c.f c.E c.O c.H at'=[(⟨11,0,0,0,0,[]⟩,-1)]):=HST;clear c3 k3 k4 c5 c6 c7 c8 oQ oU k2 m0 mO hA2 hW1 hW2 hty hF2;go_wp2_with fail;refine(aF c W0 W2 v vg (out) P hW K2 ⟨11,0,0,0,0,[]⟩ none 0 0 (OI.nil _ _) (fun g e=>by cases e) (-1) (by omega)).mono ?_;rintro e X1 ⟨v1,ik,rfl,K1,F1⟩;dsimp only;clear s0 s1;have G1:=F0.trans F1;clear K2 F1 F0;go_wp2;(try simp only[Exit.inBlock,Exit.then]);refine bodyPost_end (results_none rfl _ _ _) rfl ⟨v1,ik,rfl,?_,G1⟩;rw[HST.out];refine MK.fw ?_ (fun g h=> .inl h);simpa[List.append_assoc]using K1
theorem Lw.AX {c:LX}{W0:World}(T:TX c W0){at':Nat}(hat:at'<c.f.b.length)(h:aC.op c.f.b at'=13\/aC.op c.f.b at'=14):0<=Hg.arg c.f.b at'/\Hg.arg c.f.b at'<=9:=by have hok:St.ok (aC.op c.f.b at') (Hg.arg c.f.b at')=true:=St.aM T.all hat;simp only[St.ok,ax,Wd.aW]at hok;(have h1:St.least (aC.op c.f.b at')=0:=by rcases h with h|h<;>rw[h]<;>rfl);(have h2:St.aX (aC.op c.f.b at')=9:=by rcases h with h|h<;>rw[h]<;>rfl);omega
theorem Lw.low {f:Fn}{E H:List Int}{j:Nat}{a hh:Int}(hJ:Hg.jH f E H j hh a):∀t:Nat,a.toNat<(aC.bI f.b E j j).length->(aC.bI f.b E j j).getD a.toNat (-1)=(t:Int)->0<=H.getD t 0:=fun t hlt ht=>by
 obtain⟨t',e',-,-,h0,-⟩:=hJ.1 hlt
 rw[ht]at e'
 have:t=t':=by omega
 rw[this]
 exact h0
theorem Hf {c:LX}{W0 W:World}{v vg:Value}{out:List (Ln×Int)}{P:Nat->Prop}(T:TX c W0)(K:MK c W0 W v vg out P)(fa:Option Addr)(fl fc:Nat)(d:ByteArray)(oa:Option Addr)(oc:Nat)(hF:FL W0 fa fl c.fs)(hO:IL W0 oa c.f.b.length c.O)(at':Nat)(hat:at'<c.f.b.length)(hr:0<=c.H.getD at' 0)(hlen:out.length<=900)(p:Int)(hp:aC.op c.f.b at'=p)(hk:p=10\/p=11\/p=13\/p=15\/p=14):Calls Tryz.prog 66 #[.pointer (some ⟨c.B,0,none⟩), .agg #[.slice fa fl fc, .string d], .slice oa c.f.b.length oc, .int .i64 at'] W fun e w'=>∃v' iq,e= .returned (.tuple #[])/\MK c W0 w' v' iq (out++Lw.step c.fs c.f c.E c.O c.H at') (fun g=>P g\/W.heap.size<=g)/\FX c v vg v' iq W w':=by have hty:=T.acc.typ at' hat hr;obtain⟨hH,hE,hS⟩:=T.il K;have xB:=hO.kept K.bA;have hF1:=hF.kept K.bA;have hLen:=T.ok.2.2.2.2.2;have htop:=T.acc.bV at' hat;have hW:=T.lt;have hwd:0<=Lw.wd c.f/\Lw.wd c.f<=6:=by{have:=T.ok;unfold Lw.wd;omega};have HST:Hid (Lw.step c.fs c.f c.E c.O c.H at'=Lw.yI c.fs c.f c.E c.O c.H at' p (Hg.arg c.f.b at') (Lw.bx c.f (c.H.getD at' 0-1))):=by{show _=_;unfold Lw.step;rw[hp]};have hbx0:=K.box;unfold LX.ku at hbx0;obtain⟨bl,hbl⟩:∃n,c.f.b.length=n:=⟨_,rfl⟩;rw[hbl]at hH hE hS xB hLen hat hbx0 ⊢;have Me:(at':Int)<(bl:Int):=by{omega};have cS:∃b o,c.ba=some ⟨b,o,none⟩/\b<W.heap.size/\W.cell? ⟨b,o+at'*2,none⟩=some (.int .i64 (aC.op c.f.b at'))/\W.cell? ⟨b,o+at'*2+1,none⟩=some (.int .i64 (Hg.arg c.f.b at')):=by{obtain⟨hl,-,h3|⟨b,o,e,hb,hh⟩⟩:=hS;{omega};exact⟨b,o,e,hb,(hh at' hat).1,(hh at' hat).2⟩};obtain⟨sb,so,es,lS,y8,cS2⟩:=cS;have cH:∃b o,c.ha=some ⟨b,o,none⟩/\b<W.heap.size/\W.cell? ⟨b,o+at',none⟩=some (.int .i64 (c.H.getD at' 0)):=by{obtain⟨hl,-,h3|⟨b,o,e,hb,hh⟩⟩:=hH;{omega};exact⟨b,o,e,hb,hh at' hat⟩};obtain⟨hb',ho',eh,lH,cH⟩:=cH;have cE:∃b o,c.ea=some ⟨b,o,none⟩/\b<W.heap.size/\W.cell? ⟨b,o+at',none⟩=some (.int .i64 (aC.aO c.E at')):=by{obtain⟨hl,-,h3|⟨b,o,e,hb,hh⟩⟩:=hE;{omega};refine⟨b,o,e,hb,?_⟩;rw[hh at' hat];unfold aC.aO;rw[ai,ai,aj (by omega)];rfl};obtain⟨eb,eo,ee,lE,cE⟩:=cE;have cO:∃b o,oa=some ⟨b,o,none⟩/\b<W.heap.size/\W.cell? ⟨b,o+at',none⟩=some (.int .i64 (aC.aO c.O at')):=by{obtain⟨hl,-,h3|⟨b,o,e,hb,hh⟩⟩:=xB;{omega};refine⟨b,o,e,hb,?_⟩;rw[hh at' hat];unfold aC.aO;rw[ai,ai,aj (by omega)];rfl};obtain⟨ob,oo,rfl,lO,cO⟩:=cO;rw[hp]at y8;obtain⟨q,hq⟩:∃q,Hg.arg c.f.b at'=q:=⟨_,rfl⟩;obtain⟨u,hu⟩:∃u,c.H.getD at' 0=u:=⟨_,rfl⟩;rw[hq]at cS2 HST;rw[hu]at cH htop hr HST;have d2:=(hbx0.2 2 _ rfl).1;have d3:=(hbx0.2 3 _ rfl).1;have d4:=(hbx0.2 4 _ rfl).1;have d5:=(hbx0.2 5 _ rfl).1;have Bq:=hbx0.1;rw[eh]at d3;rw[ee]at d4;rw[es]at d5;have hB1:=aB W (.cells #[.slice fa fl fc, .string d] 26);have hA1:ky (W.alloc (.cells #[.slice fa fl fc, .string d] 26)) W.heap.size 26 [.slice fa fl fc, .string d]:=heap_alloc_last W _;obtain⟨W1,hW1⟩:∃X,W.alloc (.cells #[.slice fa fl fc, .string d] 26)=X:=⟨_,rfl⟩;rw[hW1]at hB1 hA1;have hB2:=aB W1 (.cells #[.int .i64 (p), .int .i64 q] 121);have hA2:ky (W1.alloc (.cells #[.int .i64 (p), .int .i64 q] 121)) W1.heap.size 121 [.int .i64 (p), .int .i64 q]:=heap_alloc_last W1 _;obtain⟨W2,hW2⟩:∃X,W1.alloc (.cells #[.int .i64 (p), .int .i64 q] 121)=X:=⟨_,rfl⟩;rw[hW2]at hB2 hA2;have hB:=hB1.trans (hB2.mono hB1.size);have K2:=K.kept hB;have mO:=hA1.kept hB2;have hcon:=iC T K2 (u-1) (by omega) (by omega);have Mf:-1<=Lw.bx c.f (u-1)/\Lw.bx c.f (u-1)<=26:=by{unfold Lw.bx;omega};obtain⟨tt,uB⟩:∃tt,Lw.bx c.f (u-1)=tt:=⟨_,rfl⟩;rw[uB]at hcon Mf HST;have c3:=aI hB1 d3;have k3:=aI hB d3;have k4:=aI hB d4;have c5:=aI hB1 d5;have c6:=aI hB1 y8;have c7:=aI hB1 cS2;have c8:=aI hB cH;have oQ:=aI hB cE;have oU:=aI hB cO;have k2:=aI hB d2;have s0:=hA2.cell (j:=0) rfl;have s1:=hA2.cell (j:=1) rfl;have m0:=mO.cell (j:=0) rfl;have F0:FX c v vg v vg W W2:=FX.below hB;have hF2:=hF1.kept hB;have HQ:=af (au hp (au hq (au hbl (au hu hty))));clear hH hE hS hO xB hF hF1 d2 d3 d4 d5 y8 cS2 cH cE cO hbx0 hA1 hB1 hB2 K hu uB hp hq hbl;go_enter Tryz.func66,Tryz.ntmps66;go_wp2_with fail;refine hcon.mono ?_;rintro e w3 ⟨rfl,dw⟩;subst w3;dsimp only;clear hcon;rcases hk with rfl|rfl|rfl|rfl|rfl;{obtain⟨z,hz⟩:∃z,aC.aO c.E at'=z:=⟨_,rfl⟩;obtain⟨y,hy⟩:∃y,aC.aO c.O at'=y:=⟨_,rfl⟩;have FP:0<=y->y<=80:=fun h0=>by{have f2:=T.acc.Dg.f2 at' (by rw[HQ.out.2.2.1];exact hat) (by rw[hy];exact h0);have f3:=T.acc.Dg.f3 at' (by rw[HQ.out.2.2.1];exact hat) (by omega);rw[HQ.out.2.2.1]at f3;omega};rw[hz]at oQ;rw[hy]at oU;by_cases hy0:0<=y;{have hyb:=FP hy0;replace HST:Hid (Lw.step c.fs c.f c.E c.O c.H at'=[(⟨4,tt,tt,0,0,[]⟩,-1),(⟨6,0,tt,0,0,[]⟩,y+1)]):=by{show _=_;rw[HST.out,←hy];show[_,(_,if 0<=aC.aO c.O at' then _ else _)]=_;rw[az (by rw[hy];exact hy0)]};clear FP hz hy;clear c3 k3 c5 c6 c7 c8 k2 m0 mO hA2 hW1 hW2 hty hF2;go_wp2_with fail;refine(aF c W0 W2 v vg (out) P hW K2 ⟨4,tt,tt,0,0,[]⟩ none 0 0 (OI.nil _ _) (fun g e=>by cases e) (-1) (by omega)).mono ?_;rintro e X1 ⟨v1,ik,rfl,K1,F1⟩;dsimp only;clear s0 s1;have G1:=F0.trans F1;clear K2 F1 F0;go_wp2_with fail;refine(aF c W0 X1 v1 ik (out++[(⟨4,tt,tt,0,0,[]⟩,(-1))]) P hW K1 ⟨6,0,tt,0,0,[]⟩ none 0 0 (OI.nil _ _) (fun g e=>by cases e) (y+1) (by simp only[List.length_append,List.length_singleton];omega)).mono ?_;rintro e X2 ⟨v2,qC,rfl,K2,F2⟩;dsimp only;have G2:=G1.trans F2;clear K1 F2 G1;go_wp2;(try simp only[Exit.inBlock,Exit.then]);refine bodyPost_end (results_none rfl _ _ _) rfl ⟨v2,qC,rfl,?_,G2⟩;rw[HST.out];refine MK.fw ?_ (fun g h=> .inl h);simpa[List.append_assoc]using K2};replace HST:Hid (Lw.step c.fs c.f c.E c.O c.H at'=[(⟨4,tt,tt,0,0,[]⟩,-1),(⟨6,0,tt,0,0,[]⟩,z)]):=by{show _=_;rw[HST.out,←hz];show[_,(_,if 0<=aC.aO c.O at' then _ else _)]=_;rw[ay (by rw[hy];exact hy0)]};clear FP hz hy;clear c3 k3 c5 c6 c7 c8 k2 m0 mO hA2 hW1 hW2 hty hF2;go_wp2_with fail;refine(aF c W0 W2 v vg (out) P hW K2 ⟨4,tt,tt,0,0,[]⟩ none 0 0 (OI.nil _ _) (fun g e=>by cases e) (-1) (by omega)).mono ?_;rintro e X1 ⟨v1,ik,rfl,K1,F1⟩;dsimp only;clear s0 s1;have G1:=F0.trans F1;clear K2 F1 F0;go_wp2_with fail;refine(aF c W0 X1 v1 ik (out++[(⟨4,tt,tt,0,0,[]⟩,(-1))]) P hW K1 ⟨6,0,tt,0,0,[]⟩ none 0 0 (OI.nil _ _) (fun g e=>by cases e) (z) (by simp only[List.length_append,List.length_singleton];omega)).mono ?_;rintro e X2 ⟨v2,qC,rfl,K2,F2⟩;dsimp only;have G2:=G1.trans F2;clear K1 F2 G1;go_wp2;(try simp only[Exit.inBlock,Exit.then]);refine bodyPost_end (results_none rfl _ _ _) rfl ⟨v2,qC,rfl,?_,G2⟩;rw[HST.out];refine MK.fw ?_ (fun g h=> .inl h);simpa[List.append_assoc]using K2};{obtain⟨z,hz⟩:∃z,aC.aO c.E at'=z:=⟨_,rfl⟩;rw[hz]at oQ;replace HST:Hid (Lw.step c.fs c.f c.E c.O c.H at'=[(⟨5,0,0,0,0,[]⟩,z)]):=by{show _=_;rw[HST.out,←hz];rfl};clear hz;clear c3 k3 c5 c6 c7 c8 oU k2 m0 mO hA2 hW1 hW2 hty hF2;go_wp2_with fail;refine(aF c W0 W2 v vg (out) P hW K2 ⟨5,0,0,0,0,[]⟩ none 0 0 (OI.nil _ _) (fun g e=>by cases e) (z) (by omega)).mono ?_;rintro e X1 ⟨v1,ik,rfl,K1,F1⟩;dsimp only;clear s0 s1;have G1:=F0.trans F1;clear K2 F1 F0;go_wp2;(try simp only[Exit.inBlock,Exit.then]);refine bodyPost_end (results_none rfl _ _ _) rfl ⟨v1,ik,rfl,?_,G1⟩;rw[HST.out];refine MK.fw ?_ (fun g h=> .inl h);simpa[List.append_assoc]using K1};{have Yj:0<=q/\q<=9:=by{have:=Lw.AX T (at':=at') (by rw[HQ.out.2.2.1];exact hat) (by rw[HQ.out.1];omega);rw[HQ.out.2.1]at this;exact this};have hlow:=Lw.low (HQ.out.2.2.2.2.jump HQ.out.1);rw[HQ.out.2.1]at hlow;have hL:=iL T K2 at' (by rw[HQ.out.2.2.1];exact hat) q (by omega) (by omega) hlow;obtain⟨⟨l1,l2,l3⟩,hl⟩:∃l,Lw.bT c.f c.E c.H at' q=l:=⟨_,rfl⟩;rw[hl]at hL;replace HST:Hid (Lw.step c.fs c.f c.E c.O c.H at'=(if l3=1/\l2≠tt then[(⟨2,l2,tt,0,0,[]⟩,-1)]else[])++[(⟨5,0,0,0,0,[]⟩,l1)]):=by{show _=_;rw[HST.out];show(((if(Lw.bT c.f c.E c.H at' q).2.2=1/\(Lw.bT c.f c.E c.H at' q).2.1≠tt then[(⟨2,(Lw.bT c.f c.E c.H at' q).2.1,tt,0,0,[]⟩,-1)]else[])++[(⟨5,0,0,0,0,[]⟩,(Lw.bT c.f c.E c.H at' q).1)]):List (Ln×Int))=_;rw[hl]};clear c3 k3 k4 c5 c6 c7 c8 oQ oU k2 m0 mO hA2 hW1 hW2 hty hF2;clear hl hlow;go_wp2_with fail;refine hL.mono ?_;rintro e X0 ⟨rfl,hBL⟩;dsimp only;have K0:=K2.kept hBL;have qD:=F0.trans (FX.below (c:=c) (v:=v) (vg:=vg) hBL);clear hL K2 F0 hBL s0 s1;by_cases h3:l3=1;{subst h3;by_cases h2:l2=tt;{replace HST:Hid (Lw.step c.fs c.f c.E c.O c.H at'=[(⟨5,0,0,0,0,[]⟩,l1)]):=by{show _=_;rw[HST.out,ay (fun h=>h.2 h2)];rfl};subst h2;go_wp2_with fail;refine(aF c W0 X0 v vg (out) P hW K0 ⟨5,0,0,0,0,[]⟩ none 0 0 (OI.nil _ _) (fun g e=>by cases e) (l1) (by omega)).mono ?_;rintro e X1 ⟨v1,ik,rfl,K1,F1⟩;dsimp only;have G1:=qD.trans F1;clear K0 F1 qD;go_wp2;(try simp only[Exit.inBlock,Exit.then]);refine bodyPost_end (results_none rfl _ _ _) rfl ⟨v1,ik,rfl,?_,G1⟩;rw[HST.out];refine MK.fw ?_ (fun g h=> .inl h);simpa[List.append_assoc]using K1};replace HST:Hid (Lw.step c.fs c.f c.E c.O c.H at'=[(⟨2,l2,tt,0,0,[]⟩,-1),(⟨5,0,0,0,0,[]⟩,l1)]):=by{show _=_;rw[HST.out,az ⟨rfl,h2⟩];rfl};go_wp2_with fail;refine(aF c W0 X0 v vg (out) P hW K0 ⟨2,l2,tt,0,0,[]⟩ none 0 0 (OI.nil _ _) (fun g e=>by cases e) (-1) (by omega)).mono ?_;rintro e X1 ⟨v1,ik,rfl,K1,F1⟩;dsimp only;have G1:=qD.trans F1;clear K0 F1 qD;go_wp2_with fail;refine(aF c W0 X1 v1 ik (out++[(⟨2,l2,tt,0,0,[]⟩,(-1))]) P hW K1 ⟨5,0,0,0,0,[]⟩ none 0 0 (OI.nil _ _) (fun g e=>by cases e) (l1) (by simp only[List.length_append,List.length_singleton];omega)).mono ?_;rintro e X2 ⟨v2,qC,rfl,K2,F2⟩;dsimp only;have G2:=G1.trans F2;clear K1 F2 G1;go_wp2;(try simp only[Exit.inBlock,Exit.then]);refine bodyPost_end (results_none rfl _ _ _) rfl ⟨v2,qC,rfl,?_,G2⟩;rw[HST.out];refine MK.fw ?_ (fun g h=> .inl h);simpa[List.append_assoc]using K2};replace HST:Hid (Lw.step c.fs c.f c.E c.O c.H at'=[(⟨5,0,0,0,0,[]⟩,l1)]):=by{show _=_;rw[HST.out,ay (fun h=>h3 h.1)];rfl};have Vf:(l3==1)=false:=by{simpa using h3};go_wp2_with fail;refine(aF c W0 X0 v vg (out) P hW K0 ⟨5,0,0,0,0,[]⟩ none 0 0 (OI.nil _ _) (fun g e=>by cases e) (l1) (by omega)).mono ?_;rintro e X1 ⟨v1,ik,rfl,K1,F1⟩;dsimp only;have G1:=qD.trans F1;clear K0 F1 qD;go_wp2;(try simp only[Exit.inBlock,Exit.then]);refine bodyPost_end (results_none rfl _ _ _) rfl ⟨v1,ik,rfl,?_,G1⟩;rw[HST.out];refine MK.fw ?_ (fun g h=> .inl h);simpa[List.append_assoc]using K1};{have hlow:∀t:Nat,(99:Int).toNat<(aC.bI c.f.b c.E at' at').length->(aC.bI c.f.b c.E at' at').getD (99:Int).toNat (-1)=(t:Int)->0<=c.H.getD t 0:=fun t h=>by{have:=aC.jU c.f.b c.E at' at';have e:(99:Int).toNat=99:=rfl;omega};have hL:=iL T K2 at' (by rw[HQ.out.2.2.1];exact hat) 99 (by omega) (by omega) hlow;obtain⟨⟨l1,l2,l3⟩,hl⟩:∃l,Lw.bT c.f c.E c.H at' 99=l:=⟨_,rfl⟩;rw[hl]at hL;replace HST:Hid (Lw.step c.fs c.f c.E c.O c.H at'=(if l3=1/\l2≠tt then[(⟨2,l2,tt,0,0,[]⟩,-1)]else[])++[(⟨5,0,0,0,0,[]⟩,l1)]):=by{show _=_;rw[HST.out];show(((if(Lw.bT c.f c.E c.H at' 99).2.2=1/\(Lw.bT c.f c.E c.H at' 99).2.1≠tt then[(⟨2,(Lw.bT c.f c.E c.H at' 99).2.1,tt,0,0,[]⟩,-1)]else[])++[(⟨5,0,0,0,0,[]⟩,(Lw.bT c.f c.E c.H at' 99).1)]):List (Ln×Int))=_;rw[hl]};clear c3 k3 k4 c5 c6 c7 c8 oQ oU k2 m0 mO hA2 hW1 hW2 hty hF2;clear hl hlow;go_wp2_with fail;refine hL.mono ?_;rintro e X0 ⟨rfl,hBL⟩;dsimp only;have K0:=K2.kept hBL;have qD:=F0.trans (FX.below (c:=c) (v:=v) (vg:=vg) hBL);clear hL K2 F0 hBL s0 s1;by_cases h3:l3=1;{subst h3;by_cases h2:l2=tt;{replace HST:Hid (Lw.step c.fs c.f c.E c.O c.H at'=[(⟨5,0,0,0,0,[]⟩,l1)]):=by{show _=_;rw[HST.out,ay (fun h=>h.2 h2)];rfl};subst h2;go_wp2_with fail;refine(aF c W0 X0 v vg (out) P hW K0 ⟨5,0,0,0,0,[]⟩ none 0 0 (OI.nil _ _) (fun g e=>by cases e) (l1) (by omega)).mono ?_;rintro e X1 ⟨v1,ik,rfl,K1,F1⟩;dsimp only;have G1:=qD.trans F1;clear K0 F1 qD;go_wp2;(try simp only[Exit.inBlock,Exit.then]);refine bodyPost_end (results_none rfl _ _ _) rfl ⟨v1,ik,rfl,?_,G1⟩;rw[HST.out];refine MK.fw ?_ (fun g h=> .inl h);simpa[List.append_assoc]using K1};replace HST:Hid (Lw.step c.fs c.f c.E c.O c.H at'=[(⟨2,l2,tt,0,0,[]⟩,-1),(⟨5,0,0,0,0,[]⟩,l1)]):=by{show _=_;rw[HST.out,az ⟨rfl,h2⟩];rfl};go_wp2_with fail;refine(aF c W0 X0 v vg (out) P hW K0 ⟨2,l2,tt,0,0,[]⟩ none 0 0 (OI.nil _ _) (fun g e=>by cases e) (-1) (by omega)).mono ?_;rintro e X1 ⟨v1,ik,rfl,K1,F1⟩;dsimp only;have G1:=qD.trans F1;clear K0 F1 qD;go_wp2_with fail;refine(aF c W0 X1 v1 ik (out++[(⟨2,l2,tt,0,0,[]⟩,(-1))]) P hW K1 ⟨5,0,0,0,0,[]⟩ none 0 0 (OI.nil _ _) (fun g e=>by cases e) (l1) (by simp only[List.length_append,List.length_singleton];omega)).mono ?_;rintro e X2 ⟨v2,qC,rfl,K2,F2⟩;dsimp only;have G2:=G1.trans F2;clear K1 F2 G1;go_wp2;(try simp only[Exit.inBlock,Exit.then]);refine bodyPost_end (results_none rfl _ _ _) rfl ⟨v2,qC,rfl,?_,G2⟩;rw[HST.out];refine MK.fw ?_ (fun g h=> .inl h);simpa[List.append_assoc]using K2};replace HST:Hid (Lw.step c.fs c.f c.E c.O c.H at'=[(⟨5,0,0,0,0,[]⟩,l1)]):=by{show _=_;rw[HST.out,ay (fun h=>h3 h.1)];rfl};have Vf:(l3==1)=false:=by{simpa using h3};go_wp2_with fail;refine(aF c W0 X0 v vg (out) P hW K0 ⟨5,0,0,0,0,[]⟩ none 0 0 (OI.nil _ _) (fun g e=>by cases e) (l1) (by omega)).mono ?_;rintro e X1 ⟨v1,ik,rfl,K1,F1⟩;dsimp only;have G1:=qD.trans F1;clear K0 F1 qD;go_wp2;(try simp only[Exit.inBlock,Exit.then]);refine bodyPost_end (results_none rfl _ _ _) rfl ⟨v1,ik,rfl,?_,G1⟩;rw[HST.out];refine MK.fw ?_ (fun g h=> .inl h);simpa[List.append_assoc]using K1};have Yj:0<=q/\q<=9:=by{have:=Lw.AX T (at':=at') (by rw[HQ.out.2.2.1];exact hat) (by rw[HQ.out.1];omega);rw[HQ.out.2.1]at this;exact this};have hlow:=Lw.low (HQ.out.2.2.2.2.Ny HQ.out.1);rw[HQ.out.2.1]at hlow;have hL:=iL T K2 at' (by rw[HQ.out.2.2.1];exact hat) q (by omega) (by omega) hlow;obtain⟨⟨l1,l2,l3⟩,hl⟩:∃l,Lw.bT c.f c.E c.H at' q=l:=⟨_,rfl⟩;rw[hl]at hL;replace HST:Hid (Lw.step c.fs c.f c.E c.O c.H at'=if l3=1/\l2≠tt-1 then[(⟨4,tt,tt,0,0,[]⟩,-1),(⟨6,0,tt,0,0,[]⟩,(at':Int)+1),(⟨2,l2,tt-1,0,0,[]⟩,-1),(⟨5,0,0,0,0,[]⟩,l1)]else[(⟨6,0,tt,0,0,[]⟩,l1)]):=by{show _=_;rw[HST.out];show((if(Lw.bT c.f c.E c.H at' q).2.2=1/\(Lw.bT c.f c.E c.H at' q).2.1≠tt-1 then[(⟨4,tt,tt,0,0,[]⟩,-1),(⟨6,0,tt,0,0,[]⟩,(at':Int)+1),(⟨2,(Lw.bT c.f c.E c.H at' q).2.1,tt-1,0,0,[]⟩,-1),(⟨5,0,0,0,0,[]⟩,(Lw.bT c.f c.E c.H at' q).1)]else[(⟨6,0,tt,0,0,[]⟩,(Lw.bT c.f c.E c.H at' q).1)]):List (Ln×Int))=_;rw[hl]};clear c3 k3 k4 c5 c6 c7 c8 oQ oU k2 m0 mO hA2 hW1 hW2 hty hF2;clear hl hlow;go_wp2_with fail;refine hL.mono ?_;rintro e X0 ⟨rfl,hBL⟩;dsimp only;have K0:=K2.kept hBL;have qD:=F0.trans (FX.below (c:=c) (v:=v) (vg:=vg) hBL);clear hL K2 F0 hBL s0 s1;by_cases h3:l3=1;{subst h3;by_cases h2:l2=tt-1;{replace HST:Hid (Lw.step c.fs c.f c.E c.O c.H at'=[(⟨6,0,tt,0,0,[]⟩,l1)]):=by{show _=_;rw[HST.out,ay (fun h=>h.2 h2)]};subst h2;go_wp2_with fail;refine(aF c W0 X0 v vg (out) P hW K0 ⟨6,0,tt,0,0,[]⟩ none 0 0 (OI.nil _ _) (fun g e=>by cases e) (l1) (by omega)).mono ?_;rintro e X1 ⟨v1,ik,rfl,K1,F1⟩;dsimp only;have G1:=qD.trans F1;clear K0 F1 qD;go_wp2;(try simp only[Exit.inBlock,Exit.then]);refine bodyPost_end (results_none rfl _ _ _) rfl ⟨v1,ik,rfl,?_,G1⟩;rw[HST.out];refine MK.fw ?_ (fun g h=> .inl h);simpa[List.append_assoc]using K1};replace HST:Hid (Lw.step c.fs c.f c.E c.O c.H at'=[(⟨4,tt,tt,0,0,[]⟩,-1),(⟨6,0,tt,0,0,[]⟩,(at':Int)+1),(⟨2,l2,tt-1,0,0,[]⟩,-1),(⟨5,0,0,0,0,[]⟩,l1)]):=by{show _=_;rw[HST.out,az ⟨rfl,h2⟩]};go_wp2_with fail;refine(aF c W0 X0 v vg (out) P hW K0 ⟨4,tt,tt,0,0,[]⟩ none 0 0 (OI.nil _ _) (fun g e=>by cases e) (-1) (by omega)).mono ?_;rintro e X1 ⟨v1,ik,rfl,K1,F1⟩;dsimp only;have G1:=qD.trans F1;clear K0 F1 qD;go_wp2_with fail;refine(aF c W0 X1 v1 ik (out++[(⟨4,tt,tt,0,0,[]⟩,(-1))]) P hW K1 ⟨6,0,tt,0,0,[]⟩ none 0 0 (OI.nil _ _) (fun g e=>by cases e) ((at':Int)+1) (by simp only[List.length_append,List.length_singleton];omega)).mono ?_;rintro e X2 ⟨v2,qC,rfl,K2,F2⟩;dsimp only;have G2:=G1.trans F2;clear K1 F2 G1;go_wp2_with fail;refine(aF c W0 X2 v2 qC (out++[(⟨4,tt,tt,0,0,[]⟩,(-1))]++[(⟨6,0,tt,0,0,[]⟩,((at':Int)+1))]) P hW K2 ⟨2,l2,tt-1,0,0,[]⟩ none 0 0 (OI.nil _ _) (fun g e=>by cases e) (-1) (by simp only[List.length_append,List.length_singleton];omega)).mono ?_;rintro e X3 ⟨v3,Dm,rfl,K3,F3⟩;dsimp only;have G3:=G2.trans F3;clear K2 F3 G2;go_wp2_with fail;refine(aF c W0 X3 v3 Dm (out++[(⟨4,tt,tt,0,0,[]⟩,(-1))]++[(⟨6,0,tt,0,0,[]⟩,((at':Int)+1))]++[(⟨2,l2,tt-1,0,0,[]⟩,(-1))]) P hW K3 ⟨5,0,0,0,0,[]⟩ none 0 0 (OI.nil _ _) (fun g e=>by cases e) (l1) (by simp only[List.length_append,List.length_singleton];omega)).mono ?_;rintro e X4 ⟨v4,Yk,rfl,K4,F4⟩;dsimp only;have G4:=G3.trans F4;clear K3 F4 G3;go_wp2;(try simp only[Exit.inBlock,Exit.then]);refine bodyPost_ret (results_none rfl _ _ _) rfl ⟨v4,Yk,rfl,?_,G4⟩;rw[HST.out];refine MK.fw ?_ (fun g h=> .inl h);simpa[List.append_assoc]using K4};replace HST:Hid (Lw.step c.fs c.f c.E c.O c.H at'=[(⟨6,0,tt,0,0,[]⟩,l1)]):=by{show _=_;rw[HST.out,ay (fun h=>h3 h.1)]};have Vf:(l3==1)=false:=by{simpa using h3};go_wp2_with fail;refine(aF c W0 X0 v vg (out) P hW K0 ⟨6,0,tt,0,0,[]⟩ none 0 0 (OI.nil _ _) (fun g e=>by cases e) (l1) (by omega)).mono ?_;rintro e X1 ⟨v1,ik,rfl,K1,F1⟩;dsimp only;have G1:=qD.trans F1;clear K0 F1 qD;go_wp2;(try simp only[Exit.inBlock,Exit.then]);refine bodyPost_end (results_none rfl _ _ _) rfl ⟨v1,ik,rfl,?_,G1⟩;rw[HST.out];refine MK.fw ?_ (fun g h=> .inl h);simpa[List.append_assoc]using K1
theorem Lw.zG {c:LX}{W0:World}(T:TX c W0){at':Nat}(hat:at'<c.f.b.length)(h:aC.op c.f.b at'=16):0<=Hg.arg c.f.b at':=by have hok:St.ok (aC.op c.f.b at') (Hg.arg c.f.b at')=true:=St.aM T.all hat;simp only[St.ok,ax,Wd.aW]at hok;have h1:St.least (aC.op c.f.b at')=0:=by{rw[h];rfl};omega
def Lw.gu (t n:Int)(k:Nat):List Int:=(List.range k).map fun(i:Nat)=>t-n+1+(i:Int)
theorem Lw.sS (t n:Int)(k:Nat):Lw.gu t n (k+1)=Lw.gu t n k++[t-n+1+(k:Int)]:=by unfold Lw.gu;rw[List.range_succ,List.map_append];rfl
theorem EM {W:World}{a:Option Addr}{n k:Nat}{fs:List Fn}(h:FL W a n fs)(hk:k<n):∃b off,a=some ⟨b,off,none⟩/\b<W.heap.size/\∃ba bl bc,W.cell? ⟨b,off+k*4,none⟩=some (.int .i64 (fs.getD k .z).a)/\W.cell? ⟨b,off+k*4+1,none⟩=some (.int .i64 (fs.getD k .z).l)/\W.cell? ⟨b,off+k*4+2,none⟩=some (.int .i64 (fs.getD k .z).g)/\W.cell? ⟨b,off+k*4+3,none⟩=some (.slice ba bl bc):=by obtain⟨hl,hm,h0|⟨b,off,e,hb,hx⟩⟩:=h;{omega};obtain⟨x0,x1,x2,ba,bl,bc,x3,-⟩:=hx k hk;exact⟨b,off,e,hb,ba,bl,bc,x0,x1,x2,x3⟩
theorem GR {c:LX} {W0 W:World} {v vg:Value} {out:List (Ln×Int)} {P:Nat->Prop} (T:TX c W0) (K:MK c W0 W v vg out P) (fa:Option Addr) (fl fc:Nat) (d:ByteArray) (oa:Option Addr) (oc:Nat) (hF:FL W0 fa fl c.fs) (hO:IL W0 oa c.f.b.length c.O) (at':Nat) (hat:at'<c.f.b.length) (hr:0<=c.H.getD at' 0) (hlen:out.length<=900) (p:Int) (hp:aC.op c.f.b at'=p) (hk:Hid (p=16)):Calls Tryz.prog 66 #[.pointer (some ⟨c.B,0,none⟩), .agg #[.slice fa fl fc, .string d], .slice oa c.f.b.length oc, .int .i64 at'] W fun e w'=>∃v' iq,e= .returned (.tuple #[])/\MK c W0 w' v' iq (out++Lw.step c.fs c.f c.E c.O c.H at') (fun g=>P g\/W.heap.size<=g)/\FX c v vg v' iq W w':=by
 have hty:=T.acc.typ at' hat hr
 obtain⟨hH,hE,hS⟩:=T.il K
 have xB:=hO.kept K.bA
 have hF1:=hF.kept K.bA
 have hLen:=T.ok.2.2.2.2.2
 have htop:=T.acc.bV at' hat
 have hW:=T.lt
 have hwd:0<=Lw.wd c.f/\Lw.wd c.f<=6:=by have:=T.ok;unfold Lw.wd;omega
 have HST:Hid (Lw.step c.fs c.f c.E c.O c.H at'=Lw.yI c.fs c.f c.E c.O c.H at' p (Hg.arg c.f.b at') (Lw.bx c.f (c.H.getD at' 0-1))):=by show _=_;unfold Lw.step;rw[hp]
 have hbx0:=K.box
 unfold LX.ku at hbx0
 obtain⟨bl,hbl⟩:∃n,c.f.b.length=n:=⟨_,rfl⟩
 rw[hbl]at hH hE hS xB hLen hat hbx0 ⊢
 have Me:(at':Int)<(bl:Int):=by omega
 have cS:∃b o,c.ba=some ⟨b,o,none⟩/\b<W.heap.size/\W.cell? ⟨b,o+at'*2,none⟩=some (.int .i64 (aC.op c.f.b at'))/\W.cell? ⟨b,o+at'*2+1,none⟩=some (.int .i64 (Hg.arg c.f.b at')):=by obtain⟨hl,-,h3|⟨b,o,e,hb,hh⟩⟩:=hS;{omega};exact⟨b,o,e,hb,(hh at' hat).1,(hh at' hat).2⟩
 obtain⟨sb,so,es,lS,y8,cS2⟩:=cS
 have cH:∃b o,c.ha=some ⟨b,o,none⟩/\b<W.heap.size/\W.cell? ⟨b,o+at',none⟩=some (.int .i64 (c.H.getD at' 0)):=by obtain⟨hl,-,h3|⟨b,o,e,hb,hh⟩⟩:=hH;{omega};exact⟨b,o,e,hb,hh at' hat⟩
 obtain⟨hb',ho',eh,lH,cH⟩:=cH
 have cE:∃b o,c.ea=some ⟨b,o,none⟩/\b<W.heap.size/\W.cell? ⟨b,o+at',none⟩=some (.int .i64 (aC.aO c.E at')):=by obtain⟨hl,-,h3|⟨b,o,e,hb,hh⟩⟩:=hE;{omega};refine⟨b,o,e,hb,?_⟩;rw[hh at' hat];unfold aC.aO;rw[ai,ai,aj (by omega)];rfl
 obtain⟨eb,eo,ee,lE,cE⟩:=cE
 have cO:∃b o,oa=some ⟨b,o,none⟩/\b<W.heap.size/\W.cell? ⟨b,o+at',none⟩=some (.int .i64 (aC.aO c.O at')):=by obtain⟨hl,-,h3|⟨b,o,e,hb,hh⟩⟩:=xB;{omega};refine⟨b,o,e,hb,?_⟩;rw[hh at' hat];unfold aC.aO;rw[ai,ai,aj (by omega)];rfl
 obtain⟨ob,oo,rfl,lO,cO⟩:=cO
 rw[hp]at y8
 obtain⟨q,hq⟩:∃q,Hg.arg c.f.b at'=q:=⟨_,rfl⟩
 obtain⟨u,hu⟩:∃u,c.H.getD at' 0=u:=⟨_,rfl⟩
 rw[hq]at cS2 HST
 rw[hu]at cH htop hr HST
 have d2:=(hbx0.2 2 _ rfl).1
 have d3:=(hbx0.2 3 _ rfl).1
 have d4:=(hbx0.2 4 _ rfl).1
 have d5:=(hbx0.2 5 _ rfl).1
 have Bq:=hbx0.1
 rw[eh]at d3
 rw[ee]at d4
 rw[es]at d5
 have hB1:=aB W (.cells #[.slice fa fl fc, .string d] 26)
 have hA1:ky (W.alloc (.cells #[.slice fa fl fc, .string d] 26)) W.heap.size 26 [.slice fa fl fc, .string d]:=heap_alloc_last W _
 obtain⟨W1,hW1⟩:∃X,W.alloc (.cells #[.slice fa fl fc, .string d] 26)=X:=⟨_,rfl⟩
 rw[hW1]at hB1 hA1
 have hB2:=aB W1 (.cells #[.int .i64 (p), .int .i64 q] 121)
 have hA2:ky (W1.alloc (.cells #[.int .i64 (p), .int .i64 q] 121)) W1.heap.size 121 [.int .i64 (p), .int .i64 q]:=heap_alloc_last W1 _
 obtain⟨W2,hW2⟩:∃X,W1.alloc (.cells #[.int .i64 (p), .int .i64 q] 121)=X:=⟨_,rfl⟩
 rw[hW2]at hB2 hA2
 have hB:=hB1.trans (hB2.mono hB1.size)
 have K2:=K.kept hB
 have mO:=hA1.kept hB2
 have hcon:=iC T K2 (u-1) (by omega) (by omega)
 have Mf:-1<=Lw.bx c.f (u-1)/\Lw.bx c.f (u-1)<=26:=by unfold Lw.bx;omega
 obtain⟨tt,uB⟩:∃tt,Lw.bx c.f (u-1)=tt:=⟨_,rfl⟩
 rw[uB]at hcon Mf HST
 have c3:=aI hB1 d3
 have k3:=aI hB d3
 have k4:=aI hB d4
 have c5:=aI hB1 d5
 have c6:=aI hB1 y8
 have c7:=aI hB1 cS2
 have c8:=aI hB cH
 have oQ:=aI hB cE
 have oU:=aI hB cO
 have k2:=aI hB d2
 have s0:=hA2.cell (j:=0) rfl
 have s1:=hA2.cell (j:=1) rfl
 have m0:=mO.cell (j:=0) rfl
 have F0:FX c v vg v vg W W2:=FX.below hB
 have hF2:=hF1.kept hB
 have HQ:=af (au hp (au hq (au hbl (au hu hty))))
 clear hH hE hS hO xB hF hF1 d2 d3 d4 d5 y8 cS2 cH cE cO hbx0 hA1 hB1 hB2 K hu uB hp hq hbl
 go_enter Tryz.func66,Tryz.ntmps66
 go_wp2_with fail
 refine hcon.mono ?_
 rintro e w3 ⟨rfl,dw⟩
 subst w3
 dsimp only
 clear hcon
 obtain rfl:=hk.out
 have hq0:0<=q:=by have:=Lw.zG T (at':=at') (by rw[HQ.out.2.2.1];exact hat) HQ.out.1;rw[HQ.out.2.1]at this;exact this
 have hq1:q<c.fs.length:=by have:=HQ.out.2.2.2.2.call HQ.out.1;rw[HQ.out.2.1]at this;exact this
 have hfl:c.fs.length=fl:=hF2.1
 obtain⟨qn,rfl⟩:=Int.eq_ofNat_of_zero_le hq0
 have Yl:qn<fl:=by omega
 have Zr:(qn:Int)<(fl:Int):=by omega
 obtain⟨fb,fo,rfl,lF,NH,NJ,NK,y0,y1,y2,y3⟩:=EM hF2 Yl
 have rX:=Mn.nS T.val (k:=qn) (by omega)
 have Dk:fl<=4:=by have:=T.val.len.2;omega
 unfold Mn.fn at rX
 obtain⟨G,hG⟩:∃G,c.fs.getD qn .z=G:=⟨_,rfl⟩
 rw[hG]at rX y0 y1 y2
 replace HST:Hid (Lw.step c.fs c.f c.E c.O c.H at'=[(⟨7,if G.g=1 then tt-G.a+1 else Lw.wd c.f+20,0,0,qn,Lw.args tt G.a⟩,-1)]):=by show _=_;rw[HST.out];show[((⟨7,if(c.fs.getD (qn:Int).toNat .z).g=1 then _ else _,0,0,_,Lw.args tt (c.fs.getD (qn:Int).toNat .z).a⟩:Ln),(-1:Int))]=_;rw[aA,hG]
 obtain⟨ga,hga⟩:∃ga:Nat,G.a=(ga:Int):=Int.eq_ofNat_of_zero_le rX.1
 have Ym:ga<=3:=by omega
 obtain⟨gg,hgg⟩:∃gg,G.g=gg:=⟨_,rfl⟩
 have Dn:gg=0\/gg=1:=by rw[←hgg];exact rX.2.2.2.2.1
 obtain⟨gl,hgl⟩:∃gl,G.l=gl:=⟨_,rfl⟩
 have Tm:Hid (Lw.args tt G.a=Lw.gu tt ga ga):=by show _=_;rw[hga];rfl
 rw[hga]at y0 HST Tm
 rw[hgg]at y2 HST
 rw[hgl]at y1
 obtain⟨FQ,Mg⟩:∃FQ,Lw.wd c.f=FQ:=⟨_,rfl⟩
 rw[Mg]at k2 hwd HST
 have hBG:=aB W2 (.cells #[.int .i64 (ga:Int), .int .i64 gl, .int .i64 gg, .slice NH NJ NK] 33)
 have Vg:ky (W2.alloc (.cells #[.int .i64 (ga:Int), .int .i64 gl, .int .i64 gg, .slice NH NJ NK] 33)) W2.heap.size 33 [.int .i64 (ga:Int), .int .i64 gl, .int .i64 gg, .slice NH NJ NK]:=heap_alloc_last W2 _
 obtain⟨W3,hW3⟩:∃X,W2.alloc (.cells #[.int .i64 (ga:Int), .int .i64 gl, .int .i64 gg, .slice NH NJ NK] 33)=X:=⟨_,rfl⟩
 rw[hW3]at hBG Vg
 have j2:=aI hBG k2
 have t1:=aI hBG s1
 have hlB:c.B<W3.heap.size:=ak K2.sz hBG.size
 have Zt:=(hA2.kept hBG).lt
 have HKK:=af (au (K2.kept hBG) (au (F0.trans (FX.below (c:=c) (v:=v) (vg:=vg) hBG)) Vg))
 clear c3 k3 k4 c5 c6 c7 c8 oQ oU mO hW1 hW2 hty hF2 hG hga hgg hgl Mg rX hfl K2 F0 hB hA2
 go_wp2
 go_region
 all_goals
  clear j2 t1 y0 y1 y2 y3 k2 s0 s1 m0
  have FR:=aB W3 (.cells #[.int .i64 7, .int .i64 (FQ+20), .int .i64 0, .int .i64 0, .int .i64 qn, .slice none 0 0] 41)
  have hBL:=FR.trans ((Below.refl _ _).drew.mono FR.size)
  have Vh:ky (W3.alloc (.cells #[.int .i64 7, .int .i64 (FQ+20), .int .i64 0, .int .i64 0, .int .i64 qn, .slice none 0 0] 41)).drew W3.heap.size 41 [.int .i64 7, .int .i64 (FQ+20), .int .i64 0, .int .i64 0, .int .i64 qn, .slice none 0 0]:=heap_alloc_last W3 _
  obtain⟨i0,hi,hz0,hz1,hz2⟩:=info_parts bW
  have HS:=af (au Vh hBL)
  clear FR Vh hBL hW3
  go_wp2
  go_loopw [20] (fun vi wr=>∃(k:Nat)(lv:Value),vi= .int .i64 k/\k<=ga/\ky wr W3.heap.size 41 [.int .i64 7, .int .i64 (FQ+20), .int .i64 0, .int .i64 0, .int .i64 qn,lv]/\OI wr (W3.heap.size+1) lv (Lw.gu tt ga k)/\Below W3.heap.size W3 wr) (fun i _=>ga-(intOf i).toNat)
  case atStart=>exact⟨0,_,rfl,Nat.zero_le _,HS.out.1,OI.nil _ _,HS.out.2⟩
  case round=>
   obtain⟨k,lv,rfl,hk,hAr,hol,hBr⟩:=hrel
   clear HS
   have NL:=HKK.out.2.2.kept hBr
   have g0:=NL.cell (j:=0) rfl
   have g2:=NL.cell (j:=2) rfl
   have hll:(Lw.gu tt ga k).length=k:=by unfold Lw.gu;simp
   have ze:wr.ownsRow (W3.heap.size+1) 2 1 lv k ((Lw.gu tt ga k).map iv):=by unfold OI at hol;rwa [hll]at hol
   obtain⟨la,lc,rfl⟩:=aQ ze
   have zf:∀g,(Value.slice la k lc).ownBlock=some g->W3.heap.size+1<=g:=fun g hg=>(aS ze hg).1
   have a5:=hAr.cell (j:=5) rfl
   have al:=hAr.lt
   by_cases hlt:k<ga
   · have rU:(k:Int)<(ga:Int):=by{omega};obtain⟨y,hy⟩:∃y,tt-(ga:Int)+1+(k:Int)=y:=⟨_,rfl⟩;have HY:=af hy;clear hy;have oG:=aB wr (.cells #[.int .i64 (tt-(ga:Int)+1+(k:Int))] 2);have HO:=af (aD ze oG);have HA:=af (hAr.kept oG);have Tn:=af (hBr.trans (oG.mono hBr.size));have Tp:=hBr.size;clear oG hol ze hAr hBr NL hll;go_wp2_with(at_builtin;refine wpList_append_own _ rfl _ _ 39 rfl (W3.heap.size+1) 2 i0 (.int .i64 0) 1 8 Tryz.underlying39 hi hz0 hz1 hz2 rfl (by decide) (.slice la k lc) k _ rfl HO.out ⟨wr.heap.size,0,none⟩ 1 1 [.int .i64 (tt-(ga:Int)+1+(k:Int))] rfl rfl (cell_one_new _ _ _) (by simp[Value.oneCell']) (by simp only[maxLen];omega) (by omega) (by simp;omega) ?_;intro v2 wB hown2 hgrow2 _;obtain⟨g2',cap2,rfl⟩:=ownsRow_succ hown2;have hA3:=HA.out.gz hgrow2 (fun e=>by have:=zf W3.heap.size e.symm;omega);have b5:=hA3.cell (j:=5) rfl;have f5:=hA3.frozen 5;have l5:=hA3.lt;have dY:=af (au hown2 (au hgrow2 hA3));clear hown2 hgrow2 hA3);go_roundw;(case rel=>obtain⟨o1,o2,o3⟩:=dY.out;have gs:=aL wB ⟨W3.heap.size,5,none⟩ (.slice (some ⟨g2',0,none⟩) (k+1) cap2);refine⟨k+1,_,by simp,hlt,o3.set 5 _,?_,?_⟩;{show World.ownsRow _ _ _ _ _ _ _;rw[Lw.sS,List.map_append,List.length_append,List.length_singleton,show(Lw.gu tt ga k).length=k by unfold Lw.gu;simp];exact bL o1 gs (fun g e=>by have:=(aS o1 e).1;simp only[ne_eq,ah];omega)};exact aV (aV Tn.out o2 (fun g e=>by have:=zf g e;omega)) gs (fun g e=>by cases e;exact Nat.le_refl _));case measure=>simp[intOf];omega
   · have hke:k=ga:=by omega
     subst hke
     have rU:¬(k:Int)<(k:Int):=by omega
     have HX:=af (au (HKK.out.1.kept hBr) (HKK.out.2.1.trans (FX.below (c:=c) (v:=v) (vg:=vg) hBr)))
     have Tn:=af hBr
     have NM:=af ze
     have Yn:=af hAr
     have a0:=hAr.cell (j:=0) rfl
     have a1:=hAr.cell (j:=1) rfl
     have a2:=hAr.cell (j:=2) rfl
     have a3:=hAr.cell (j:=3) rfl
     have a4:=hAr.cell (j:=4) rfl
     have q1:=hAr.frozen 1
     have hKs:=HKK.out.1.uw
     have Mh:∀g,vg.ownBlock=some g->g<W3.heap.size:=fun g e=>(aS hKs e).2
     have hB3:c.B+1<=W3.heap.size:=HKK.out.1.sz
     have Zu:=HKK.out.2.1.size
     clear hol ze hAr hBr NL hKs
     rcases Dn with rfl|rfl
     · have hadd:=aF c W0 wr v vg out (fun g=>P g\/W.heap.size<=g) hW (HX.out.1.fw (fun g h=> .inl h)) ⟨7,FQ+20,0,0,qn,Lw.gu tt k k⟩ la k lc (by
        show World.ownsRow _ _ _ _ _ _ _
        rw[hll]
        refine⟨NM.out.1,?_⟩
        rcases NM.out.2 with h'|⟨g',cap',cur,h',hb,r⟩
        · exact .inl h'
        · exact .inr ⟨g',cap',cur,h',by omega,r⟩) (fun g e=>⟨fun e2=>by have:=zf g e;have:=Mh g e2;omega, .inr (by have:=zf g e;omega)⟩) (-1) (by omega)
       go_wp2_with fail
       refine hadd.mono ?_
       rintro e X1 ⟨v1,ik,rfl,K1,F1⟩
       dsimp only
       have G1:=HX.out.2.trans F1
       clear hadd a0 a1 a2 a3 a4 a5 g0 g2
       go_wp2
       (try simp only[Exit.inBlock,Exit.then])
       refine bodyPost_end (results_none rfl _ _ _) rfl ⟨v1,ik,rfl,?_,G1⟩
       rw[HST.out,Tm.out]
       exact K1
     · have gs:=aL wr ⟨W3.heap.size,1,none⟩ (.int .i64 (tt-(k:Int)+1))
       have hAs:=Yn.out.set 1 (.int .i64 (tt-(k:Int)+1))
       have Tq:=aV Tn.out gs (fun g e=>by cases e;exact Nat.le_refl _)
       have hos:=bL NM.out gs (fun g e=>by have:=(aS NM.out e).1;simp only[ne_eq,ah];omega)
       obtain⟨ws,hws⟩:∃ws,wr.setCell ⟨W3.heap.size,1,none⟩ (.int .i64 (tt-(k:Int)+1))=ws:=⟨_,rfl⟩
       rw[hws]at hAs Tq hos
       have b0:=hAs.cell (j:=0) rfl
       have b1:=hAs.cell (j:=1) rfl
       have b2:=hAs.cell (j:=2) rfl
       have b3:=hAs.cell (j:=3) rfl
       have b4:=hAs.cell (j:=4) rfl
       have b5:=hAs.cell (j:=5) rfl
       have hKx:=HKK.out.1.kept Tq
       have Yo:=HKK.out.2.1.trans (FX.below (c:=c) (v:=v) (vg:=vg) Tq)
       have hadd:=aF c W0 ws v vg out (fun g=>P g\/W.heap.size<=g) hW (hKx.fw (fun g h=> .inl h)) ⟨7,tt-(k:Int)+1,0,0,qn,Lw.gu tt k k⟩ la k lc (by
        show World.ownsRow _ _ _ _ _ _ _
        rw[hll]
        refine⟨hos.1,?_⟩
        rcases hos.2 with h'|⟨g',cap',cur,h',hb,r⟩
        · exact .inl h'
        · exact .inr ⟨g',cap',cur,h',by omega,r⟩) (fun g e=>⟨fun e2=>by have:=zf g e;have:=Mh g e2;omega, .inr (by have:=zf g e;omega)⟩) (-1) (by omega)
       go_wp2_with fail
       refine hadd.mono ?_
       rintro e X1 ⟨v1,ik,rfl,K1,F1⟩
       dsimp only
       have G1:=Yo.trans F1
       clear hadd a0 a1 a2 a3 a4 a5 g0 g2 b0 b1 b2 b3 b4 b5 hws
       go_wp2
       (try simp only[Exit.inBlock,Exit.then])
       refine bodyPost_end (results_none rfl _ _ _) rfl ⟨v1,ik,rfl,?_,G1⟩
       rw[HST.out,Tm.out]
       exact K1
theorem qJ {c:LX}{W0 W:World}{v vg:Value}{out:List (Ln×Int)}{P:Nat->Prop}(T:TX c W0)(K:MK c W0 W v vg out P)(fa:Option Addr)(fl fc:Nat)(d:ByteArray)(oa:Option Addr)(oc:Nat)(hF:FL W0 fa fl c.fs)(hO:IL W0 oa c.f.b.length c.O)(at':Nat)(hat:at'<c.f.b.length)(hr:0<=c.H.getD at' 0)(hlen:out.length<=900):Calls Tryz.prog 66 #[.pointer (some ⟨c.B,0,none⟩), .agg #[.slice fa fl fc, .string d], .slice oa c.f.b.length oc, .int .i64 at'] W fun e w'=>∃v' iq,e= .returned (.tuple #[])/\MK c W0 w' v' iq (out++Lw.step c.fs c.f c.E c.O c.H at') (fun g=>P g\/W.heap.size<=g)/\FX c v vg v' iq W w':=by have hok:St.ok (aC.op c.f.b at') (Hg.arg c.f.b at')=true:=St.aM T.all hat;simp only[St.ok,ax,Wd.aW]at hok;obtain⟨p,hp⟩:∃p,aC.op c.f.b at'=p:=⟨_,rfl⟩;rw[hp]at hok;have h3:(p=7\/p=8\/p=9\/p=12\/p=20\/p=1\/p=2\/p=3\/p=4\/p=5\/p=6\/p=17\/p=18\/p=19)\/(p=10\/p=11\/p=13\/p=15\/p=14)\/p=16:=by{omega};rcases h3 with h|h|h;{exact H5 T K fa fl fc d oa oc hF hO at' hat hr hlen p hp h};{exact Hf T K fa fl fc d oa oc hF hO at' hat hr hlen p hp h};exact GR T K fa fl fc d oa oc hF hO at' hat hr hlen p hp h
namespace Lw
open Hg (arg)
theorem jS {fs:List Fn}{f:Fn}{E O H:List Int}(hA:Hg.Acc fs f E O H){n:Nat}(hn:n<f.b.length)(dp:Int):0<=(bT f E H n dp).1/\(bT f E H n dp).1<f.b.length:=by by_cases hlt:dp.toNat<(aC.bI f.b E n n).length;{obtain⟨t,et,htl,FH,-⟩:=aC.qK hA.Dg rfl hlt;rw[kP hlt (t:=t) et];have f3:=hA.Dg.f3 t (by omega) (by omega);split;{exact⟨by simp only;omega,by simp only;omega⟩};split;{exact⟨by simp only;omega,by simp only;omega⟩};exact⟨by simp only;omega,by simp only;omega⟩};rw[ko hlt];have:=hA.pos;exact⟨by simp only;omega,by simp only;omega⟩
theorem l6 {fs:List Fn}{f:Fn}{E O H:List Int}(hA:Hg.Acc fs f E O H){n:Nat}(hn:n<f.b.length)(hr:0<=H.getD n 0):∀x∈step fs f E O H n,-1<=x.2/\x.2<f.b.length:=by have hty:=hA.typ n hn hr;have hpos:=hA.pos;have one:∀(l:Ln)(x:Ln×Int),x∈[(l,(-1:Int))]->-1<=x.2/\x.2<f.b.length:=fun l x hx=>by{rw[List.mem_singleton]at hx;rw[hx];exact⟨Int.le_refl _,by simp only;omega⟩};intro x hx;unfold step yI at hx;obtain⟨p,hp⟩:∃p,aC.op f.b n=p:=⟨_,rfl⟩;rw[hp]at hx;by_cases h1:p=1;{rw[az h1]at hx;exact one _ x hx};rw[ay h1]at hx;by_cases h2:p=2;{rw[az h2]at hx;exact one _ x hx};rw[ay h2]at hx;by_cases h3:p=3\/p=4;{rw[az h3]at hx;exact one _ x hx};rw[ay h3]at hx;by_cases h5:p=5;{rw[az h5]at hx;exact one _ x hx};rw[ay h5]at hx;by_cases h6:p=6;{rw[az h6]at hx;exact one _ x hx};rw[ay h6]at hx;by_cases h10:p=10;{rw[az h10]at hx;have hi:=hty.iff (by rw[hp];exact h10);rcases List.mem_cons.1 hx with rfl|hx;{exact⟨Int.le_refl _,by simp only;omega⟩};rw[List.mem_singleton]at hx;rw[hx];simp only;split;{rcases hi with⟨-,a,-⟩|⟨a,-⟩;{omega};omega};rcases hi with⟨a,-⟩|⟨-,a,b,-⟩;{omega};omega};rw[ay h10]at hx;by_cases h11:p=11;{rw[az h11]at hx;have hi:=hty.yP (by rw[hp];exact h11);rw[List.mem_singleton]at hx;rw[hx];simp only;omega};rw[ay h11]at hx;by_cases ma:p=13\/p=15;{rw[az ma]at hx;have hg:=jS hA hn (if p=15 then 99 else arg f.b n);generalize bT f E H n (if p=15 then 99 else arg f.b n)=L at hx hg;simp only[List.mem_append,List.mem_singleton]at hx;rcases hx with hx|hx;{by_cases hc:L.2.2=1/\L.2.1≠bx f (H.getD n 0-1);{rw[az hc]at hx;exact one _ x hx};rw[ay hc]at hx;cases hx};rw[hx];simp only;omega};rw[ay ma]at hx;by_cases wo:p=14;{rw[az wo]at hx;have hg:=jS hA hn (arg f.b n);have hnx:=hty.next (by omega) (by omega) (by omega) (by omega) (by omega);generalize bT f E H n (arg f.b n)=L at hx hg;simp only at hx;by_cases hc:L.2.2=1/\L.2.1≠bx f (H.getD n 0-1)-1;{rw[az hc]at hx;rcases List.mem_cons.1 hx with rfl|hx;{exact⟨Int.le_refl _,by simp only;omega⟩};rcases List.mem_cons.1 hx with rfl|hx;{exact⟨by simp only;omega,by simp only;omega⟩};rcases List.mem_cons.1 hx with rfl|hx;{exact⟨Int.le_refl _,by simp only;omega⟩};rw[List.mem_singleton]at hx;rw[hx];simp only;omega};rw[ay hc,List.mem_singleton]at hx;rw[hx];simp only;omega};rw[ay wo]at hx;by_cases h16:p=16;{rw[az h16]at hx;exact one _ x hx};rw[ay h16]at hx;by_cases Bl:p=17;{rw[az Bl]at hx;exact one _ x hx};rw[ay Bl]at hx;by_cases h18:p=18;{rw[az h18]at hx;exact one _ x hx};rw[ay h18]at hx;by_cases h19:p=19;{rw[az h19]at hx;exact one _ x hx};rw[ay h19]at hx;cases hx
theorem pU {fs:List Fn}{f:Fn}{E O H:List Int}(hA:Hg.Acc fs f E O H):∀n,n<=f.b.length->∀x∈(bF fs f E O H n).1,-1<=x.2/\x.2<f.b.length
 | 0,_,x,hx=>by
   unfold bF first at hx
   simp only[List.mem_map]at hx
   obtain⟨i,-,rfl⟩:=hx
   have:=hA.pos
   exact⟨Int.le_refl _,by simp only;omega⟩
 | n +1,hn,x,hx=>by
   unfold bF at hx
   simp only[List.mem_append]at hx
   rcases hx with hx|hx
   · exact pU hA n (by omega) x hx
   · split at hx
     · exact l6 hA (by omega) (by assumption) x hx
     · cases hx
theorem sD {fs:List Fn}{f:Fn}{E O H:List Int}(hA:Hg.Acc fs f E O H):∀x∈raw fs f E O H,-1<=x.2/\x.2<f.b.length:=fun x hx=>by
 unfold raw at hx
 rcases List.mem_append.1 hx with hx|hx
 · exact pU hA _ (Nat.le_refl _) x hx
 · have:=hA.pos
   unfold last at hx
   split at hx
   · rcases List.mem_cons.1 hx with rfl|hx
     · exact⟨Int.le_refl _,by simp only;omega⟩
     · rw[List.mem_singleton]at hx
       rw[hx]
       exact⟨Int.le_refl _,by simp only;omega⟩
   · rw[List.mem_singleton]at hx
     rw[hx]
     exact⟨Int.le_refl _,by simp only;omega⟩
end Lw
theorem ow:∀(xs:List Lv)(k:Nat)(y:Int),k<xs.length->bQ (xs.set k ((xs.getD k dN).1,(xs.getD k dN).2.1,(xs.getD k dN).2.2.1,(xs.getD k dN).2.2.2.1,y,(xs.getD k dN).2.2.2.2.2))=(bQ xs).set (k*6+4) (.int .i64 y)
 |[],k,y,h=>by simp at h
 |x::xs,0,y,h=>rfl
 | x::xs,k+1,y,h=>by
   have ih:=ow xs k y (by simpa using h)
   have e:(x::xs).getD (k+1) dN=xs.getD k dN:=rfl
   rw[e,List.set_cons_succ,fJ,ih,fJ,show(k+1)*6+4=k*6+4+1+1+1+1+1+1 by omega]
   simp only[List.set_cons_succ]
section
def gI (S:List bq):List Value:=S.flatMap fun x=>[.int .i64 x.st, .int .i64 x.wd]
theorem jO (S T:List bq):gI (S++T)=gI S++gI T:=by simp[gI]
theorem mK (S:List bq):(gI S).length=S.length*2:=by
 induction S with
 |nil=>rfl
 |cons x S ih=>simp only[gI,List.flatMap_cons,List.length_append,List.length_cons]at ih ⊢;simp only[List.length_nil];omega
theorem ym (x:bq)(S:List bq):gI (x::S).reverse=gI S.reverse++[.int .i64 x.st, .int .i64 x.wd]:=by rw[List.reverse_cons,jO];rfl
theorem Ba (T:List bq)(k:Nat)(hk:k<T.length):(gI T)[k*2]?=some (.int .i64 (T.getD k ⟨0,0,false⟩).st)/\(gI T)[k*2+1]?=some (.int .i64 (T.getD k ⟨0,0,false⟩).wd):=by
 induction T generalizing k with
 |nil=>simp at hk
 |cons y T ih=>
  rcases k with _|k
  · exact⟨rfl,rfl⟩
  · have e:gI (y::T)=[.int .i64 y.st, .int .i64 y.wd]++gI T:=rfl;obtain⟨h1,h2⟩:=ih k (by simpa using hk);rw[e,List.getElem?_append_right (by simp;omega),List.getElem?_append_right (by simp;omega)];have e1:(k+1)*2-[Value.int .i64 y.st, .int .i64 y.wd].length=k*2:=by{simp;omega};have e2:(k+1)*2+1-[Value.int .i64 y.st, .int .i64 y.wd].length=k*2+1:=by{simp;omega};rw[e1,e2,h1,h2];exact⟨rfl,rfl⟩
theorem tC (S:List bq)(k:Nat)(hk:k<S.length):S.reverse.getD k ⟨0,0,false⟩=S.getD (S.length-1-k) ⟨0,0,false⟩:=by rw[ai,List.getElem?_reverse (by omega),ai]
theorem kF {W:World}{n₀ g c n:Nat}{T:List bq}(h:W.ownsRow n₀ 170 2 (.slice (some ⟨g,0,none⟩) n c) n (gI T)){k:Nat}(hk:k<n):W.cell? ⟨g,k*2,none⟩=some (.int .i64 (T.getD k ⟨0,0,false⟩).st)/\W.cell? ⟨g,k*2+1,none⟩=some (.int .i64 (T.getD k ⟨0,0,false⟩).wd):=by have hl:T.length=n:=by{have:=h.1;rw[mK]at this;omega};obtain⟨h1,h2⟩:=Ba T k (by omega);rw[h.cellAt _ (by omega),h.cellAt _ (by omega),h1,h2];exact⟨rfl,rfl⟩
theorem og:(Tryz.prog.info? 170).map (fun i=>(i.zero,i.size,i.bytes))=some (some (.agg #[.int .i64 0, .int .i64 0]),2,16):=by kernel_rfl
structure IC where
 w:World
 m0:Nat
 N:Nat
 gH:Nat
 gO:Nat
 cO:Nat
 a:Option Addr
 len:Nat
 cap:Nat
 f:Fn
 ba:Option Addr
 bl:Nat
 bc:Nat
 O:List Int
def IC.ku (c:IC)(v:Value)(h:Int):List Value:=
 [.slice c.a c.len c.cap, .int .i64 c.f.a, .int .i64 c.f.l, .int .i64 c.f.g, .slice c.ba c.bl c.bc, .int .i64 (c.f.a+c.f.l), .slice (some ⟨c.gO,0,none⟩) c.bl c.cO,v, .int .i64 h, .slice (some ⟨c.gH,0,none⟩) c.bl c.bl]
structure IS (c:IC)(h:Int)(H:List Int)(S:List bq)(W:World):Prop where
 bA:Below c.w.heap.size c.w W
 hm:c.m0<=W.heap.size
 iN:c.w.heap.size<=c.N/\c.N<c.m0
 iH:c.w.heap.size<=c.gH/\c.gH<c.m0
 iO:c.w.heap.size<=c.gO/\c.gO<c.m0
 ne:c.N≠c.gH/\c.N≠c.gO/\c.gH≠c.gO
 rH:W.ownsRow c.w.heap.size 2 1 (.slice (some ⟨c.gH,0,none⟩) c.bl c.bl) c.bl (H.map iv)
 rO:W.ownsRow c.w.heap.size 2 1 (.slice (some ⟨c.gO,0,none⟩) c.bl c.cO) c.bl (c.O.map iv)
 st:∃v,bN W c.N (c.ku v h)/\W.ownsRow c.m0 170 2 v S.length (gI S.reverse)
variable {c : IC} {h : Int} {H : List Int} {S : List bq} {W : World}
theorem IS.kept {W':World}(hs:IS c h H S W)(hB:Below W.heap.size W W'):IS c h H S W':=by obtain⟨v,hb,hr⟩:=hs.st;exact{hs with bA:=hs.bA.trans (hB.mono hs.bA.size),hm:=Nat.le_trans hs.hm hB.size,rH:=aD hs.rH hB,rO:=aD hs.rO hB,st:=⟨v,hb.kept hB,aD hr hB⟩}
theorem IS.apart (hs:IS c h H S W){v:Value}{n:Nat}{xs:List Value}(hr:W.ownsRow c.m0 170 2 v n xs):∀g,v.ownBlock=some g->g≠c.N/\g≠c.gH/\g≠c.gO:=by intro g hg;have h1:=(hr.lt g hg).1;have:=hs.iN;have:=hs.iH;have:=hs.iO;omega
theorem IS.row {wA:World}{v:Value}{n:Nat}{xs:List Value}(hs:IS c h H S W)(hr:W.ownsRow c.m0 170 2 v n xs)(hg:W.grownBy wA v.ownBlock){v':Value}{S':List bq}(hown:wA.ownsRow c.m0 170 2 v' S'.length (gI S'.reverse)):IS c h H S' (wA.setCell ⟨c.N,7,none⟩ v'):=by have hap:=hs.apart hr;have hN:=hs.iN;have hHi:=hs.iH;have Sl:=hs.iO;obtain⟨n1,n2,n3⟩:=hs.ne;obtain⟨vv,hb,-⟩:=hs.st;have jF:=hb.gz hg (fun e=>by have:=hap c.N e;omega);have hg2:=aL wA ⟨c.N,7,none⟩ v';have off:∀{g k:Nat}{ys:List Value},W.ownsRow c.w.heap.size 2 1 (.slice (some ⟨g,0,none⟩) c.bl k) c.bl ys->(∀x,v.ownBlock=some x->x≠g)->g≠c.N->(wA.setCell ⟨c.N,7,none⟩ v').ownsRow c.w.heap.size 2 1 (.slice (some ⟨g,0,none⟩) c.bl k) c.bl ys:=by{intro g k ys hrg h1 h2;have e1:wA.ownsRow c.w.heap.size 2 1 (.slice (some ⟨g,0,none⟩) c.bl k) c.bl ys:=hrg.kept hg (.inr (fun e=>h1 g e.symm rfl));exact bY e1 hg2 h2};have hB1:=hs.bA.grown hg hs.bA.size (fun j ej=>by have:=(hr.lt j ej).1;omega);refine⟨hB1.setCell (p:=⟨c.N,7,none⟩) hN.1 _,?_,hN,hHi,Sl,hs.ne,off hs.rH (fun x hx=>(hap x hx).2.1) (by omega),off hs.rO (fun x hx=>(hap x hx).2.2) (by omega),v',jF.set 7 v',?_⟩;{have h1:=hs.hm;have h2:=hg.size;simp[World.setCell];omega};refine hown.kept hg2 ?_;rcases hv:v'.ownBlock with _|x;{exact .inl rfl};refine .inr ?_;have:=(hown.lt x hv).1;simp only[ne_eq,ah];omega
theorem IS.x8 (hs:IS c h H S W)(x:Int):IS c x H S (W.setCell ⟨c.N,8,none⟩ (.int .i64 x)):=by
 obtain⟨n1,n2,n3⟩:=hs.ne
 obtain⟨v,hb,hr⟩:=hs.st
 have hg:=aL W ⟨c.N,8,none⟩ (.int .i64 x)
 have hap:=hs.apart hr
 exact {hs with
   bA:=hs.bA.setCell (p:=⟨c.N,8,none⟩) hs.iN.1 _
   hm:=by have:=hs.hm;simpa[World.setCell]using this
   rH:=bY hs.rH hg (Ne.symm n1)
   rO:=bY hs.rO hg (Ne.symm n2)
   st:=⟨v,hb.set 8 _,hr.kept hg (by
     rcases hv:v.ownBlock with _|x
     · exact .inl rfl
     · refine .inr ?_
       have:=hap x hv
       simp only[ne_eq,ah]
       omega)⟩}
theorem IS.setAt (hs:IS c h H S W)(t:Nat)(x:Int):IS c h (H.set t x) S (W.setCell ⟨c.gH,t,none⟩ (.int .i64 x)):=by
 obtain⟨n1,n2,n3⟩:=hs.ne
 obtain⟨v,hb,hr⟩:=hs.st
 have hst:=hs.rH.stored t (.int .i64 x)
 rw[←dF]at hst
 have hg:=aL W ⟨c.gH,t,none⟩ (.int .i64 x)
 have hap:=hs.apart hr
 exact {hs with
   bA:=hs.bA.setCell (p:=⟨c.gH,t,none⟩) hs.iH.1 _
   hm:=by have:=hs.hm;simpa[World.setCell]using this
   rH:=hst.1
   rO:=bY hs.rO hg (Ne.symm n3)
   st:=⟨v,hb.gz hg (by simp only[ne_eq,ah];omega),hr.kept hg (by
     rcases hv:v.ownBlock with _|x
     · exact .inl rfl
     · refine .inr ?_
       have:=hap x hv
       simp only[ne_eq,ah]
       omega)⟩}
theorem IS.gz {B i:Nat}{x:Value}(hs:IS c h H S W)(hB:c.m0<=B){a:Option Addr}{n k:Nat}(hc:W.cell? ⟨c.N,7,none⟩=some (.slice a n k))(hne:(Value.slice a n k).ownBlock≠some B):IS c h H S (W.setCell ⟨B,i,none⟩ x):=by
 obtain⟨v,hb,hr⟩:=hs.st
 have e:v= .slice a n k:=by have:=(hb.2 7 v rfl).1;rw[hc]at this;cases this;rfl
 have hg:W.grownBy (W.setCell ⟨B,i,none⟩ x) (some B):=aL W ⟨B,i,none⟩ x
 have hN:=hs.iN
 have hH:=hs.iH
 have hO:=hs.iO
 exact{hs with
   bA:=hs.bA.setCell (p:=⟨B,i,none⟩) (by simp only;omega) _
   hm:=by have:=hs.hm;simpa[World.setCell]using this
   rH:=bY hs.rH hg (by omega)
   rO:=bY hs.rO hg (by omega)
   st:=⟨v,hb.gz hg (by simp only[ne_eq,ah];omega),hr.kept hg (.inr (by rw[e];exact hne))⟩}
theorem Ap {n₀ g cv:Nat}{x:bq}(h:W.ownsRow n₀ 170 2 (.slice (some ⟨g,0,none⟩) (S.length+1) cv) (S.length+1) (gI (x::S).reverse)):W.ownsRow n₀ 170 2 (.slice (some ⟨g,0,none⟩) S.length cv) S.length (gI S.reverse):=by have hc:=nV h S.length (by omega);have e:(gI (x::S).reverse).take (S.length*2)=gI S.reverse:=by{rw[List.reverse_cons,jO,List.take_left' (by rw[mK,List.length_reverse])]};rw[e]at hc;exact hc
theorem qm (W W':World)(p q:Value)(t:TypeId)(H:Nat)(hH:W.heap.size=H)(hc:∀i,W'.cell? ⟨H,i,none⟩=(W.alloc (.cells #[p,q] t)).cell? ⟨H,i,none⟩):∀j u,[p,q][j]?=some u->W'.cell? ((⟨H,0,none⟩:Addr).add j)=some u:=by
 subst hH
 intro j u hu
 match j,hu with
 |0,hu=>simp at hu;subst hu;simp[Addr.add,hc]
 |1,hu=>simp at hu;subst hu;simp[Addr.add,hc]
end
section
variable {c : IC} {h : Int} {H : List Int} {S : List bq} {W : World}
theorem IS.cells (hs:IS c h H S W):∃av cv,W.ownsRow c.m0 170 2 (.slice av S.length cv) S.length (gI S.reverse)/\bN W c.N (c.ku (.slice av S.length cv) h):=by obtain⟨v,hb,hr⟩:=hs.st;obtain⟨av,cv,rfl⟩:=aQ hr;exact⟨av,cv,hr,hb⟩
theorem jL {fn:Func}{p u:Tmp}{ty:TypeId}(h:fn.results=#[.cell p ty, .tmp u])(tmps:Array Value)(P:Program)(w:World):(results fn tmps).run P w=((asAddr (tmps.getD p undef)).run P w).andThen fun a w₁=>((loadVar ty a).run P w₁).andThen fun x w₂=> .ok (.tuple #[x,tmps.getD u undef]) w₂:=by simp only[results,h];simp[Sem.run_bind,Result.andThen]
theorem IS.si (hs:IS c h H S W):c.N<W.heap.size:=by have:=hs.iN;have:=hs.hm;omega
theorem qb (x:bq)(hS:S.length<=100)(hs:IS c h H S W):Calls Tryz.prog 110 #[.pointer (some ⟨c.N,7,none⟩), .agg #[.int .i64 x.st, .int .i64 x.wd]] W fun e w'=>e= .returned (.tuple #[])/\IS c h H (x::S) w':=by
 obtain⟨i0,hi,hz0,hz1,hz2⟩:=info_parts og
 have hB1:=aB W (.cells #[.int .i64 x.st, .int .i64 x.wd] 170)
 have hB2:=hB1.trans ((aB _ (.cells #[.int .i64 x.st, .int .i64 x.wd] 170)).mono hB1.size)
 have hs1:=hs.kept hB1
 have hs2:=(hs.kept hB2).kept (Below.refl _ _).drew
 obtain⟨av,cv,hr,hb⟩:=hs.cells
 have hr2:=aD (aD hr hB2) (Below.refl _ _).drew
 have hb1:=hb.kept hB1
 have hb2:=(hb.kept hB2).kept (Below.refl _ _).drew
 have d7:=(hb.2 7 _ rfl).1
 have hap:=hs.apart hr
 have hN:=hs.si
 have HRW:=af hr2
 have HS:=af hs2
 have HB:=af hb2
 have hsz:=hs.hm
 clear hr hb hs hs1 hs2 hb1 hb2 hr2 hB1 hB2
 go_enter Tryz.func110,Tryz.ntmps110
 go_wp2
 go_region_law (refine Be _ rfl (.tmp 8) (.tmp 10) 128 rfl c.m0 170 i0 (.agg #[.int .i64 0, .int .i64 0]) 2 16 Tryz.underlying128 hi hz0 hz1 hz2 rfl (by decide) (.slice av S.length cv) S.length (gI S.reverse) (by simp[Act.eval]) HRW.out ⟨W.heap.size+1,0,none⟩ 1 1 [.int .i64 x.st, .int .i64 x.wd] (by simp[Act.eval]) rfl (qm (W.alloc (.cells #[.int .i64 x.st, .int .i64 x.wd] 170)) _ _ _ 170 _ (by simp) (fun i=>rfl)) (by simp[Value.oneCell']) (by simp only[maxLen];omega) (by omega) (by simp;omega) ?_;intro v' wA hown' hgrow _;obtain⟨g',cap',rfl⟩:=ownsRow_succ hown';have jF:=HB.out.gz hgrow (fun e=>(hap c.N e).1 rfl);have cA:=(jF.2 7 _ rfl).1;have fA:=(jF.2 7 _ rfl).2;have dY:=af (au hown' hgrow);clear hown' hgrow jF)
 all_goals
  go_wp2
  (try simp only[Exit.inBlock,Exit.then])
  refine bodyPost_end (results_none rfl _ _ _) rfl ⟨rfl,?_⟩
  exact HS.out.row (S':=x::S) HRW.out dY.out.2 (v':= .slice (some ⟨g',0,none⟩) (S.length+1) cap') (by
   rw[ym,List.length_cons]
   exact dY.out.1)
theorem IS.bV {x:bq}(hs:IS c h H (x::S) W):∃g cv,W.ownsRow c.m0 170 2 (.slice (some ⟨g,0,none⟩) (S.length+1) cv) (S.length+1) (gI (x::S).reverse)/\bN W c.N (c.ku (.slice (some ⟨g,0,none⟩) (S.length+1) cv) h)/\W.cell? ⟨g,S.length*2,none⟩=some (.int .i64 x.st)/\W.cell? ⟨g,S.length*2+1,none⟩=some (.int .i64 x.wd)/\g<W.heap.size/\c.m0<=g/\S.length+1<=cv:=by obtain⟨v,hb,hr⟩:=hs.st;rw[List.length_cons]at hr;obtain⟨g,cv,rfl⟩:=ownsRow_succ hr;obtain⟨h1,h2⟩:=kF hr (k:=S.length) (by omega);rw[tC _ _ (by simp)]at h1 h2;have e:(x::S).length-1-S.length=0:=by{simp};rw[e]at h1 h2;refine⟨g,cv,hr,hb,h1,h2,(hr.lt g rfl).2,(hr.lt g rfl).1,?_⟩;rcases hr.2 with⟨h',_⟩|⟨g',cap',cur,h',_,_,hc,_⟩;{cases h'};cases h';exact hc
theorem lQ (x:bq)(hS:S.length<=80)(hs:IS c h H (x::S) W):Calls Tryz.prog 136 #[.pointer (some ⟨c.N,7,none⟩)] W fun e w'=>e= .returned (.tuple #[.agg #[.int .i64 x.st, .int .i64 x.wd], .bool true])/\Below W.heap.size W w':=by obtain⟨g,cv,hr,hb,t0,t1,hg,-,-⟩:=hs.bV;have c7:=(hb.2 7 _ rfl).1;have hN:=hs.si;clear hr hb hs;go_enter Tryz.func136,Tryz.ntmps136;go_wp2;go_region;all_goals go_wp2;refine bodyPost_ret (v:= .tuple #[.agg #[.int .i64 x.st, .int .i64 x.wd], .bool true]) ?_ rfl ⟨rfl,?_⟩;{rw[jL rfl];go_simp};exact((Below.refl _ W).alloc (Nat.le_refl _) _).drew
theorem vQ (x:bq)(hS:S.length<=80)(hs:IS c h H (x::S) W):Calls Tryz.prog 139 #[.pointer (some ⟨c.N,7,none⟩)] W fun e w'=>e= .returned (.tuple #[.agg #[.int .i64 x.st, .int .i64 x.wd], .bool true])/\IS c h H S w':=by have hB1:=aB W (.cells #[.int .i64 0, .int .i64 0] 170);have hcon:=lQ x hS (hs.kept hB1);go_enter Tryz.func139,Tryz.ntmps139;go_wp2_with fail;refine hcon.mono ?_;rintro e w1 ⟨rfl,hB2⟩;clear hcon;have hB3:=hB1.trans (hB2.mono hB1.size);have hl1:W.heap.size<w1.heap.size:=by{have:=hB2.size;simp at this;omega};have hB4:=(hB3.alloc hB3.size (.cells #[.int .i64 x.st, .int .i64 x.wd] 170)).drew;have hs4:=hs.kept hB4;have hfr:w1.cell? ⟨W.heap.size,0,none⟩=some (.int .i64 0)/\w1.cell? ⟨W.heap.size,1,none⟩=some (.int .i64 0)/\w1.frozen? ⟨W.heap.size,0,none⟩=false/\w1.frozen? ⟨W.heap.size,1,none⟩=false:=by{refine⟨(hB2.cell (p:=⟨W.heap.size,0,none⟩) (by simp)).trans (by simp),(hB2.cell (p:=⟨W.heap.size,1,none⟩) (by simp)).trans (by simp),(hB2.frozen (p:=⟨W.heap.size,0,none⟩) (by simp)).trans (by simp),(hB2.frozen (p:=⟨W.heap.size,1,none⟩) (by simp)).trans (by simp)⟩};obtain⟨r0,r1,r2,r3⟩:=hfr;obtain⟨g,cv,hr,hb,t0,t1,hg,Zv,hcap⟩:=hs.bV;obtain⟨Vi,Vj⟩:=hb.2 7 _ rfl;have hN:=hs.si;have d7:=(hB3.cell (p:=⟨c.N,7,none⟩) hN).trans Vi;have e7:=(hB3.frozen (p:=⟨c.N,7,none⟩) hN).trans Vj;have hN1:c.N<w1.heap.size:=by{omega};have Yp:c.N≠W.heap.size:=by{omega};have hs5:=(hs.kept hB3).row (aD hr hB3) (World.grownBy.refl _ _) (Ap (aD hr hB3));have En:(w1.setCell ⟨c.N,7,none⟩ (.slice (some ⟨g,0,none⟩) S.length cv)).cell? ⟨c.N,7,none⟩=some (.slice (some ⟨g,0,none⟩) S.length cv):=World.cell?_setCell_same _ _ _ d7;have FT:(Value.slice (some ⟨g,0,none⟩) S.length cv).ownBlock≠some W.heap.size:=by{simp only[Value.ownBlock,ne_eq,ah];omega};have hs6:=hs5.gz (i:=0) (x:= .int .i64 x.st) (B:=W.heap.size) hs.hm En FT;have hs7:=hs6.gz (i:=1) (x:= .int .i64 x.wd) (B:=W.heap.size) hs.hm ((World.cell?_setCell_other _ _ _ _ (by simp only[ne_eq,Addr.mk.injEq,not_and];intro q;omega)).trans En) FT;have HS:=af (hs7.kept ((Below.refl _ _).alloc (Nat.le_refl _) (.cells #[.int .i64 x.st, .int .i64 x.wd] 170)).drew);clear hr hb hs hs4 hs5 hs6 hs7 En FT t0 t1 Vi Vj hB1 hB2;go_wp2;go_region;all_goals go_wp2;refine bodyPost_ret (v:= .tuple #[.agg #[.int .i64 x.st, .int .i64 x.wd], .bool true]) ?_ rfl ⟨rfl,?_⟩;{rw[jL rfl];go_simp};exact HS.out
end
section
variable {c : IC} {h : Int} {H : List Int} {S : List bq} {W : World}
theorem lZ (hS:S.length<=81)(hs:IS c h H S W):Calls Tryz.prog 153 #[.pointer (some ⟨c.N,7,none⟩)] W fun e w'=>∃v,e= .returned v/\w'.ownsRow W.heap.size 170 2 v S.length (gI S)/\Below W.heap.size W w':=by obtain⟨i0,hi,hz0,hz1,hz2⟩:=info_parts og;obtain⟨av,cv,hr,hb⟩:=hs.cells;have c7:=(hb.2 7 _ rfl).1;have h0:=hs.si;obtain⟨n,hn⟩:∃n,S.length=n:=⟨_,rfl⟩;rw[hn]at hr c7 hS;have hmk:=run_make (P:=Tryz.prog) W 128 170 i0 _ Tryz.underlying128 hi hz0 .i64 .i64 0 (n:Int) (by omega) (by omega) (by rw[hz2];omega) (by omega);rw[hz1]at hmk;simp only[aA,Int.toNat_zero]at hmk;have dQ:=nV (World.ownsRow_lit (base:=W.heap.size) (size:=2) (e:=170) W (madeCells (Value.agg #[.int .i64 0, .int .i64 0]).cells (n*2)) n (Nat.le_refl _) (by simp only[maxLen];omega) (size_madeCells _ _)) 0 (Nat.zero_le _);rw[Nat.zero_mul,List.take_zero]at dQ;have hB0:=aB W (.cells (madeCells (Value.agg #[.int .i64 0, .int .i64 0]).cells (n*2)) 170);obtain⟨wm,Bo⟩:∃wm,W.alloc (.cells (madeCells (Value.agg #[.int .i64 0, .int .i64 0]).cells (n*2)) 170)=wm:=⟨_,rfl⟩;rw[Bo]at hmk dQ hB0;have d1:=(hB0.cell (p:=⟨c.N,7,none⟩) h0).trans c7;clear Bo hs hb;go_enter Tryz.func153,Tryz.ntmps153;go_wp2;go_loopw [3,4] (fun v i wr=>∃(k g cc:Nat),i= .int .i64 ((k:Int)-1)/\k<=n/\v= .slice (some ⟨g,0,none⟩) (n-k) cc/\wr.ownsRow W.heap.size 170 2 (.slice (some ⟨g,0,none⟩) (n-k) cc) (n-k) (gI (S.take (n-k)))/\Below W.heap.size W wr) (fun _ i _=>(intOf i+1).toNat);(case atStart=>refine⟨n,_,n,rfl,Nat.le_refl _,by rw[Nat.sub_self],?_,hB0⟩;rw[Nat.sub_self,List.take_zero];exact dQ);case round=>obtain⟨k,g,cc,rfl,hk,rfl,hown,hB⟩:=hrel;clear dQ hB0 hmk d1;have HN:=af hn;clear hn;rcases Nat.eq_zero_or_pos k with rfl|hkp;{have HOW:=af hown;clear hown hr;go_wp2;go_ret;refine⟨_,rfl,?_,hB⟩;have h:=HOW.out;rw[Nat.sub_zero,List.take_of_length_le (by rw[HN.out];exact Nat.le_refl _)]at h;rw[HN.out];exact h};obtain⟨j,rfl⟩:∃j,k=j+1:=⟨k-1,by omega⟩;have hij:((j+1:Nat):Int)-1=(j:Int):=by{omega};rw[hij];rcases hr.2 with⟨-,h0'⟩|⟨gv,cap',cur,e',-⟩;{omega};cases e';obtain⟨hx1,hx2⟩:=kF hr (k:=j) (by omega);have hgv:=(hr.lt gv rfl).2;rw[tC S j (by rw[HN.out];omega),HN.out]at hx1 hx2;obtain⟨x,gD⟩:∃x,S.getD (n-1-j) ⟨0,0,false⟩=x:=⟨_,rfl⟩;rw[gD]at hx1 hx2;have e1:=(hB.cell (p:=⟨c.N,7,none⟩) h0).trans c7;have e2:=(hB.cell (p:=⟨gv,j*2,none⟩) hgv).trans hx1;have e3:=(hB.cell (p:=⟨gv,j*2+1,none⟩) hgv).trans hx2;have hBx:=hB.alloc hB.size (.cells #[.int .i64 x.st, .int .i64 x.wd] 170);have HRW:=af (hown.alloc (.cells #[.int .i64 x.st, .int .i64 x.wd] 170));have hsz:=hB.size;have HX:=af gD;obtain⟨m,hm⟩:∃m,n-(j+1)=m:=⟨_,rfl⟩;rw[hm]at HRW ⊢;have X5:m<=81:=by{omega};have HM:=af hm;clear hr hown hB gD hx1 hx2 hm;go_wp2_with(at_builtin;refine wpList_append_own _ rfl _ _ 128 rfl W.heap.size 170 i0 (.agg #[.int .i64 0, .int .i64 0]) 2 16 Tryz.underlying128 hi hz0 hz1 hz2 rfl (by decide) _ _ _ rfl HRW.out ⟨wr.heap.size,0,none⟩ 1 1 [.int .i64 x.st, .int .i64 x.wd] rfl rfl (qm wr _ _ _ 170 _ rfl (fun _=>rfl)) (by simp[Value.oneCell']) (by simp only[maxLen];omega) (by omega) (by simp;omega) ?_;intro v' wA hown' hgrow _;have hB4:=dz HRW.out hBx (by simp;omega) hgrow;obtain⟨g',cap',rfl⟩:=ownsRow_succ hown');go_roundw;(case rel=>have hm:=HM.out;have e:n-j=m+1:=by{omega};have e':S.take (m+1)=S.take m++[x]:=by{have hn:=HN.out;have gD:=HX.out;rw[List.take_add_one,aj (by omega)];rw[ai,aj (by omega)]at gD;have:n-1-j=m:=by{omega};simp only[this,Option.getD_some]at gD;rw[gD];rfl};refine⟨j,g',cap',rfl,by omega,by rw[e],?_,hB4⟩;rw[e,e',jO];exact hown');case measure=>first|(simp[intOf];done)|(simp[intOf];omega)
def jI (S:List bq)(q:Int):Int:=if q<S.length then Hg.bT S q else 0
theorem jA (q:Int)(hq:0<=q)(hS:S.length<=81)(hs:IS c h H S W):Calls Tryz.prog 135 #[.pointer (some ⟨c.N,0,none⟩), .int .i64 q] W fun e w'=>e= .returned (.tuple #[.int .i64 (jI S q), .bool (decide (q<S.length))])/\Below W.heap.size W w':=by have hN:=hs.si;have hcon:=lZ hS hs;clear hs;go_enter Tryz.func135,Tryz.ntmps135;go_wp2_with fail;refine hcon.mono ?_;rintro e w1 ⟨v,rfl,hr,hB⟩;clear hcon;by_cases hlt:q<S.length;{obtain⟨k,rfl⟩:∃k:Nat,q=k:=⟨q.toNat,by omega⟩;have hk:k<S.length:=by{omega};rcases hr.2 with⟨-,h0'⟩|⟨g,cap',cur,rfl,-⟩;{omega};obtain⟨-,hx⟩:=kF hr hk;have e1:jI S (k:Int)=(S.getD k ⟨0,0,false⟩).wd:=by{rw[jI,az hlt,Hg.bT,aA]};have HE:=af e1;obtain⟨x,gD⟩:∃x,(S.getD k ⟨0,0,false⟩).wd=x:=⟨_,rfl⟩;rw[gD]at hx HE;clear hr gD e1;go_wp2;go_ret2;rw[HE.out,decide_eq_true hlt];exact⟨rfl,hB⟩};obtain⟨av,cv,rfl⟩:=aQ hr;have HE:=af (show jI S q=0 by rw[jI,ay hlt]);clear hr;go_wp2;go_ret2;rw[HE.out,decide_eq_false (by omega)];exact⟨rfl,hB⟩
theorem mP (s t:Int)(hs:-1<=s/\s<=100)(ht:0<=t/\t<=1)(W:World):Calls Tryz.prog 140 #[.agg #[.int .i64 s, .int .i64 t]] W fun e w'=>e= .returned (.int .i64 (if 0<=s then s+t else -1))/\Below W.heap.size W w':=by have hB1:=aB W (.cells #[.int .i64 s, .int .i64 t] 170);by_cases h:0<=s;{rw[az h];have h1:(s==-1)=false:=by{simp;omega};go_enter Tryz.func140,Tryz.ntmps140;go_wp2;go_ret;exact⟨rfl,hB1⟩};have e:s=-1:=by{omega};subst e;rw[ay h];clear h hs;go_enter Tryz.func140,Tryz.ntmps140;go_wp2;go_ret;exact⟨rfl,hB1⟩
theorem mR (fs:List Fn)(hfs:FL c.w c.a c.len fs)(p q:Int)(hp:1<=p/\p<=20)(hq:p=16->0<=q/\q<c.len)(hs:IS c h H S W):Calls Tryz.prog 137 #[.pointer (some ⟨c.N,0,none⟩), .agg #[.int .i64 p, .int .i64 q]] W fun e w'=>e= .returned (.tuple #[.int .i64 (Hg.tk fs p q), .int .i64 (Hg.pt fs p q)])/\Below W.heap.size W w':=by have hB1:=aB W (.cells #[.int .i64 p, .int .i64 q] 121);obtain⟨av,cv,hr,hb⟩:=hs.cells;have c0:=(hb.2 0 _ rfl).1;have hN:=hs.si;by_cases h16:p=16;{subst h16;obtain⟨hq0,hq1⟩:=hq rfl;obtain⟨j,rfl⟩:∃j:Nat,q=j:=⟨q.toNat,by omega⟩;have Cf:=hfs.kept hs.bA;obtain⟨-,hm,hrow⟩:=Cf;unfold maxLen at hm;have hj:j<c.len:=by{omega};rcases hrow with h0|⟨b,off,ha,hbl,hx⟩;{omega};rw[ha]at c0;obtain⟨y0,-,y2,-⟩:=hx j hj;have e1:Hg.tk fs 16 j=(fs.getD j .z).a:=by{unfold Hg.tk;simp};have e2:Hg.pt fs 16 j=(fs.getD j .z).g:=by{unfold Hg.pt;simp};rw[e1,e2];obtain⟨⟨fa,fl,fg,fb⟩,hf⟩:∃x,fs.getD j .z=x:=⟨_,rfl⟩;rw[hf]at y0 y2 ⊢;simp only at y0 y2 ⊢;clear hx hf e1 e2 ha hr hb hs hfs hq;go_enter Tryz.func137,Tryz.ntmps137;go_wp2;go_quiet (fail);go_wp2;go_ret2;exact⟨rfl,hB1.trans ((dD _ _).mono hB1.size)⟩};have hp':p=1\/p=2\/p=3\/p=4\/p=5\/p=6\/p=7\/p=8\/p=9\/p=10\/p=11\/p=12\/p=13\/p=14\/p=15\/p=17\/p=18\/p=19\/p=20:=by{omega};clear hq hp h16 hr hb hs hfs c0 hN;rcases hp' with rfl|rfl|rfl|rfl|rfl|rfl|rfl|rfl|rfl|rfl|rfl|rfl|rfl|rfl|rfl|rfl|rfl|rfl|rfl;all_goals go_enter Tryz.func137,Tryz.ntmps137;go_wp2;go_ret2;exact⟨rfl,hB1⟩
def lY (f:Fn)(S:List bq)(p q:Int):Int:=if p=13\/p=14 then jI S q else if p=15 then f.g else 0
theorem uT (p q:Int)(hp:1<=p/\p<=20)(hq:p=13\/p=14->0<=q)(hS:S.length<=81)(hs:IS c h H S W):Calls Tryz.prog 138 #[.pointer (some ⟨c.N,0,none⟩), .agg #[.int .i64 p, .int .i64 q]] W fun e w'=>e= .returned (.int .i64 (lY c.f S p q))/\Below W.heap.size W w':=by have hB1:=aB W (.cells #[.int .i64 p, .int .i64 q] 121);obtain⟨av,cv,hr,hb⟩:=hs.cells;have c3:=(hb.2 3 _ rfl).1;have hN:=hs.si;by_cases h1:p=13\/p=14;{have hcon:=jA q (hq h1) hS (hs.kept hB1);have e:lY c.f S p q=jI S q:=az h1;rw[e];clear e hq hp hr hb hs;rcases h1 with rfl|rfl;all_goals go_enter Tryz.func138,Tryz.ntmps138;go_wp2_with fail;refine hcon.mono ?_;rintro e w1 ⟨rfl,hB2⟩;clear hcon;have hB3:=hB1.trans (hB2.mono hB1.size);clear hB2;go_wp2;go_ret;exact⟨rfl,hB3⟩};by_cases h2:p=15;{subst h2;have e:lY c.f S 15 q=c.f.g:=by{rw[lY,ay h1,az rfl]};rw[e];clear e hq hp hr hb hs h1;go_enter Tryz.func138,Tryz.ntmps138;go_wp2;go_ret;exact⟨rfl,hB1⟩};have e:lY c.f S p q=0:=by{rw[lY,ay h1,ay h2]};rw[e];have Tt:(p==13)=false:=by{simp;omega};have Vk:(p==14)=false:=by{simp;omega};have Vl:(p==15)=false:=by{simp;omega};clear e hq hp hr hb hs h1 h2 c3 hN;go_enter Tryz.func138,Tryz.ntmps138;go_wp2;go_ret;exact⟨rfl,hB1⟩
end
def kN (p q h:Int)(x:bq)(S:List bq):Int×List bq:=
 if p=8\/p=9\/p=10 then(h,⟨h,q,decide (0<=h)⟩::x::S)
 else if p=11 then(x.st,x::S)
 else if p=12 then(if 0<=x.st then x.st+x.wd else -1,S)
 else if p=13\/p=15\/p=19 then(-1,x::S)
 else(h,x::S)
namespace Hg
theorem yf {fs:List Fn}{f:Fn}{o p q h:Int}{x:bq}{S:List bq}(hb:bad fs f o (S.length+1) p q=false)(h0:h<0)(hh:-1<=h)(hx:-1<=x.st)(hcm:x.cm=decide (0<=x.st)):(one fs f o p q h 0 (x::S)).map (fun r=>(r.1,r.2.2))=some (kN p q h x S):=by rw[lh hb h0];have e:h=-1:=by{omega};subst e;have hc:(if x.cm=true then x.st else -1)=x.st:=by{rw[hcm];by_cases h:0<=x.st;{simp[h]};simp[h];omega};have hc2:(if x.cm=true then x.st+x.wd else -1)=if 0<=x.st then x.st+x.wd else -1:=by{rw[hcm];by_cases h:0<=x.st<;>simp[h]};unfold dB kN;rw[hc,hc2];by_cases ma:p=13;{subst ma;rfl};by_cases wo:p=14;{subst wo;rfl};by_cases nA:p=15;{subst nA;rfl};by_cases h19:p=19;{subst h19;rfl};by_cases h11:p=11;{subst h11;rfl};by_cases h12:p=12;{subst h12;rfl};by_cases h8:p=8\/p=9\/p=10;{simp only[az h8];rfl};have hj:¬(p=13\/p=14):=by{omega};have hk:¬(p=13\/p=15\/p=19):=by{omega};simp only[ay h8,ay hj,ay nA,ay h19,ay h11,ay h12,ay hk];rfl
theorem lW {fs:List Fn}{f:Fn}{o p q h:Int}{x:bq}{S:List bq}(hb:bad fs f o (S.length+1) p q=false)(h0:0<=h)(hx:0<=x.st)(hcm:x.cm=decide (0<=x.st))(hlb:0<=jI (x::S) q)(hq:p=13\/p=14->q<=S.length)(hg:0<=f.g)(htk:0<=tk fs p q):(one fs f o p q h 0 (x::S)).map (fun r=>(r.1,r.2.2))=if h-x.st<tk fs p q+lY f (x::S) p q then none else if(p=11\/p=12)/\h-x.st≠x.wd then none else some (kN p q (h-tk fs p q+pt fs p q) x S):=by have hcr:0<=lY f (x::S) p q:=by{unfold lY;split;{exact hlb};split<;>omega};have Vm:x.cm=true:=by{rw[hcm];exact decide_eq_true hx};by_cases Bz:h-x.st<tk fs p q;{rw[df hb h0 Bz,az (by omega)];rfl};rw[eQ hb h0 Bz];have c13:∀(hh mm:Int),dB f 13 q hh mm x S=if 0<=hh/\hh-x.st<bT (x::S) q then none else some (-1,mm,x::S):=fun _ _=>rfl;have c14:∀(hh mm:Int),dB f 14 q hh mm x S=if 0<=hh/\hh-x.st<bT (x::S) q then none else some (hh,mm,x::S):=fun _ _=>rfl;have c15:∀(hh mm:Int),dB f 15 q hh mm x S=if 0<=hh/\hh-x.st<f.g then none else some (-1,mm,x::S):=fun _ _=>rfl;have c11:∀(hh mm:Int),dB f 11 q hh mm x S=if 0<=hh/\hh-x.st≠x.wd then none else some (if x.cm=true then x.st else -1,mx mm (if x.cm=true then x.st else -1),x::S):=fun _ _=>rfl;have c12:∀(hh mm:Int),dB f 12 q hh mm x S=if 0<=hh/\hh-x.st≠x.wd then none else some (if x.cm=true then x.st+x.wd else -1,mx mm (if x.cm=true then x.st+x.wd else -1),S):=fun _ _=>rfl;have t13:∀hh:Int,kN 13 q hh x S=(-1,x::S):=fun _=>rfl;have t14:∀hh:Int,kN 14 q hh x S=(hh,x::S):=fun _=>rfl;have t15:∀hh:Int,kN 15 q hh x S=(-1,x::S):=fun _=>rfl;have t11:∀hh:Int,kN 11 q hh x S=(x.st,x::S):=fun _=>rfl;have t12:∀hh:Int,kN 12 q hh x S=(if 0<=x.st then x.st+x.wd else -1,S):=fun _=>rfl;by_cases ma:p=13\/p=14;{have Zw:=hq ma;have e:lY f (x::S) p q=bT (x::S) q:=by{rw[lY,az ma,jI,az (by simp;omega)]};have el:jI (x::S) q=bT (x::S) q:=by{rw[jI,az (by simp;omega)]};rw[e];rw[el]at hlb;rw[e]at hcr;rcases ma with rfl|rfl;{obtain⟨t1,t2⟩:=jg (fs:=fs) (p:=13) (a:=q) (.inl rfl);rw[t1,t2,c13,t13,ay (show¬(((13:Int)=11\/(13:Int)=12)/\h-x.st≠x.wd)by omega)];by_cases hl:h-x.st<0+bT (x::S) q;{rw[az hl,az (by omega)];rfl};rw[ay hl,ay (by omega)];rfl};have t1:tk fs 14 q=1:=by{simp[tk]};have t2:pt fs 14 q=0:=by{simp[pt]};rw[t1]at Bz;rw[t1,t2,c14,t14,ay (show¬(((14:Int)=11\/(14:Int)=12)/\h-x.st≠x.wd)by omega)];by_cases hl:h-x.st<1+bT (x::S) q;{rw[az hl,az (by omega)];rfl};rw[ay hl,ay (by omega)];rfl};by_cases nA:p=15;{subst nA;have e:lY f (x::S) 15 q=f.g:=rfl;obtain⟨t1,t2⟩:=jg (fs:=fs) (p:=15) (a:=q) (by omega);rw[e,t1,t2,c15,t15,ay (show¬(((15:Int)=11\/(15:Int)=12)/\h-x.st≠x.wd)by omega)];by_cases hl:h-x.st<0+f.g;{rw[az hl,az (by omega)];rfl};rw[ay hl,ay (by omega)];rfl};have e:lY f (x::S) p q=0:=by{rw[lY,ay ma,ay nA]};rw[e,ay (show¬h-x.st<tk fs p q+0 by omega)];by_cases h11:p=11;{subst h11;obtain⟨t1,t2⟩:=jg (fs:=fs) (p:=11) (a:=q) (by omega);rw[t1,t2,c11,t11,Vm];by_cases hu:h-x.st=x.wd;{rw[ay (show¬(((11:Int)=11\/(11:Int)=12)/\h-x.st≠x.wd)by omega),ay (by omega)];rfl};rw[az (show(((11:Int)=11\/(11:Int)=12)/\h-x.st≠x.wd)by omega),az (by omega)];rfl};by_cases h12:p=12;{subst h12;obtain⟨t1,t2⟩:=jg (fs:=fs) (p:=12) (a:=q) (by omega);rw[t1,t2,c12,t12,Vm,az hx];by_cases hu:h-x.st=x.wd;{rw[ay (show¬(((12:Int)=11\/(12:Int)=12)/\h-x.st≠x.wd)by omega),ay (by omega)];rfl};rw[az (show(((12:Int)=11\/(12:Int)=12)/\h-x.st≠x.wd)by omega),az (by omega)];rfl};rw[ay (show¬((p=11\/p=12)/\h-x.st≠x.wd)by omega)];by_cases h19:p=19;{subst h19;rfl};by_cases h8:p=8\/p=9\/p=10;{unfold dB kN;simp only[az h8];rfl};have hk:¬(p=13\/p=15\/p=19):=by{omega};unfold dB kN;simp only[ay h8,ay ma,ay nA,ay h19,ay h11,ay h12,ay hk];rfl
def oh:Option (Int×List bq)->Option (Int×List bq)
 |some (h',S')=>if h'<=20 then some (h',S')else none
 |none=>none
theorem ng (fs:List Fn)(f:Fn)(o p q h:Int)(S:List bq):lq fs f o p q h S=oh ((one fs f o p q h 0 S).map (fun r=>(r.1,r.2.2))):=by unfold lq;rcases one fs f o p q h 0 S with _|⟨a,b,d⟩;{rfl};rfl
end Hg
structure jh where
 fn:Addr
 md:Addr
 bd:Addr
 hi:Addr
 lo:Addr
 ca:Addr
 la:Addr
 el:Addr
 fe:Addr
 un:Addr
def jh.rest (s:jh):List Addr:=[s.md,s.bd,s.hi,s.lo,s.ca,s.la,s.el,s.fe,s.un]
def dm (a:Addr):Value:= .iface 256 (.pointer (some a))
structure jd (s:jh)(W:World):Prop where
 sz:11<=W.heap.size
 fn:W.cell? ⟨0,0,none⟩=some (dm s.fn)
 md:W.cell? ⟨1,0,none⟩=some (dm s.md)
 bd:W.cell? ⟨2,0,none⟩=some (dm s.bd)
 hi:W.cell? ⟨3,0,none⟩=some (dm s.hi)
 lo:W.cell? ⟨4,0,none⟩=some (dm s.lo)
 ca:W.cell? ⟨5,0,none⟩=some (dm s.ca)
 la:W.cell? ⟨6,0,none⟩=some (dm s.la)
 el:W.cell? ⟨7,0,none⟩=some (dm s.el)
 fe:W.cell? ⟨8,0,none⟩=some (dm s.fe)
 un:W.cell? ⟨9,0,none⟩=some (dm s.un)
theorem jd.kept {s:jh}{W W':World}{n:Nat}(h:jd s W)(hB:Below n W W')(hn:11<=n):jd s W':=by have k:∀{b:Nat}{v:Value},b<11->W.cell? ⟨b,0,none⟩=some v->W'.cell? ⟨b,0,none⟩=some v:=fun{b v} hb hv=>(hB.cell (p:=⟨b,0,none⟩) (by simp only;omega)).trans hv;exact⟨Nat.le_trans h.sz hB.size,k (by omega) h.fn,k (by omega) h.md,k (by omega) h.bd,k (by omega) h.hi,k (by omega) h.lo,k (by omega) h.ca,k (by omega) h.la,k (by omega) h.el,k (by omega) h.fe,k (by omega) h.un⟩
theorem Ic (d a b n:Int)(la:Option Addr)(ln lc:Nat)(w:World):Calls Tryz.prog 188 #[.agg #[.int .i64 d, .int .i64 n]] w fun e w'=>e= .returned (.agg #[.int .i64 1, .int .i64 d, .int .i64 0, .int .i64 0, .int .i64 n, .slice none 0 0])/\Below w.heap.size w w':=by have hB:=aB w (.cells #[.int .i64 d, .int .i64 n] 143);have hB2:=hB.trans ((aB _ (.cells #[.int .i64 1, .int .i64 d, .int .i64 0, .int .i64 0, .int .i64 n, .slice none 0 0] 41)).mono hB.size);go_enter Tryz.func188,Tryz.ntmps188;go_wp2;(try simp only[Exit.inBlock,Exit.then]);refine bodyPost_ret (v:= .agg #[.int .i64 1, .int .i64 d, .int .i64 0, .int .i64 0, .int .i64 n, .slice none 0 0]) ?_ rfl ⟨rfl,hB2⟩;rw[aN rfl];go_simp
theorem Im (d a b n:Int)(la:Option Addr)(ln lc:Nat)(w:World):Calls Tryz.prog 204 #[.agg #[.int .i64 d, .int .i64 a]] w fun e w'=>e= .returned (.agg #[.int .i64 2, .int .i64 d, .int .i64 a, .int .i64 0, .int .i64 0, .slice none 0 0])/\Below w.heap.size w w':=by have hB:=aB w (.cells #[.int .i64 d, .int .i64 a] 219);have hB2:=hB.trans ((aB _ (.cells #[.int .i64 2, .int .i64 d, .int .i64 a, .int .i64 0, .int .i64 0, .slice none 0 0] 41)).mono hB.size);go_enter Tryz.func204,Tryz.ntmps204;go_wp2;(try simp only[Exit.inBlock,Exit.then]);refine bodyPost_ret (v:= .agg #[.int .i64 2, .int .i64 d, .int .i64 a, .int .i64 0, .int .i64 0, .slice none 0 0]) ?_ rfl ⟨rfl,hB2⟩;rw[aN rfl];go_simp
theorem G5 (d a b n:Int)(la:Option Addr)(ln lc:Nat)(w:World):Calls Tryz.prog 205 #[.agg #[.int .i64 d, .int .i64 n, .int .i64 a, .int .i64 b]] w fun e w'=>e= .returned (.agg #[.int .i64 3, .int .i64 d, .int .i64 a, .int .i64 b, .int .i64 n, .slice none 0 0])/\Below w.heap.size w w':=by have hB:=aB w (.cells #[.int .i64 d, .int .i64 n, .int .i64 a, .int .i64 b] 222);have hB2:=hB.trans ((aB _ (.cells #[.int .i64 3, .int .i64 d, .int .i64 a, .int .i64 b, .int .i64 n, .slice none 0 0] 41)).mono hB.size);go_enter Tryz.func205,Tryz.ntmps205;go_wp2;(try simp only[Exit.inBlock,Exit.then]);refine bodyPost_ret (v:= .agg #[.int .i64 3, .int .i64 d, .int .i64 a, .int .i64 b, .int .i64 n, .slice none 0 0]) ?_ rfl ⟨rfl,hB2⟩;rw[aN rfl];go_simp
theorem H8 (d a b n:Int)(la:Option Addr)(ln lc:Nat)(w:World):Calls Tryz.prog 202 #[.agg #[.int .i64 d, .int .i64 a]] w fun e w'=>e= .returned (.agg #[.int .i64 4, .int .i64 d, .int .i64 a, .int .i64 0, .int .i64 0, .slice none 0 0])/\Below w.heap.size w w':=by have hB:=aB w (.cells #[.int .i64 d, .int .i64 a] 215);have hB2:=hB.trans ((aB _ (.cells #[.int .i64 4, .int .i64 d, .int .i64 a, .int .i64 0, .int .i64 0, .slice none 0 0] 41)).mono hB.size);go_enter Tryz.func202,Tryz.ntmps202;go_wp2;(try simp only[Exit.inBlock,Exit.then]);refine bodyPost_ret (v:= .agg #[.int .i64 4, .int .i64 d, .int .i64 a, .int .i64 0, .int .i64 0, .slice none 0 0]) ?_ rfl ⟨rfl,hB2⟩;rw[aN rfl];go_simp
theorem H9 (d a b n:Int)(la:Option Addr)(ln lc:Nat)(w:World):Calls Tryz.prog 203 #[.agg #[.int .i64 n]] w fun e w'=>e= .returned (.agg #[.int .i64 5, .int .i64 0, .int .i64 0, .int .i64 0, .int .i64 n, .slice none 0 0])/\Below w.heap.size w w':=by have hB:=aB w (.cells #[.int .i64 n] 218);have hB2:=hB.trans ((aB _ (.cells #[.int .i64 5, .int .i64 0, .int .i64 0, .int .i64 0, .int .i64 n, .slice none 0 0] 41)).mono hB.size);go_enter Tryz.func203,Tryz.ntmps203;go_wp2;(try simp only[Exit.inBlock,Exit.then]);refine bodyPost_ret (v:= .agg #[.int .i64 5, .int .i64 0, .int .i64 0, .int .i64 0, .int .i64 n, .slice none 0 0]) ?_ rfl ⟨rfl,hB2⟩;rw[aN rfl];go_simp
theorem Ib (d a b n:Int)(la:Option Addr)(ln lc:Nat)(w:World):Calls Tryz.prog 212 #[.agg #[.int .i64 a, .int .i64 n]] w fun e w'=>e= .returned (.agg #[.int .i64 6, .int .i64 0, .int .i64 a, .int .i64 0, .int .i64 n, .slice none 0 0])/\Below w.heap.size w w':=by have hB:=aB w (.cells #[.int .i64 a, .int .i64 n] 245);have hB2:=hB.trans ((aB _ (.cells #[.int .i64 6, .int .i64 0, .int .i64 a, .int .i64 0, .int .i64 n, .slice none 0 0] 41)).mono hB.size);go_enter Tryz.func212,Tryz.ntmps212;go_wp2;(try simp only[Exit.inBlock,Exit.then]);refine bodyPost_ret (v:= .agg #[.int .i64 6, .int .i64 0, .int .i64 a, .int .i64 0, .int .i64 n, .slice none 0 0]) ?_ rfl ⟨rfl,hB2⟩;rw[aN rfl];go_simp
theorem GZ (d a b n:Int)(la:Option Addr)(ln lc:Nat)(w:World):Calls Tryz.prog 213 #[.agg #[.int .i64 d, .int .i64 n, .slice la ln lc]] w fun e w'=>e= .returned (.agg #[.int .i64 7, .int .i64 d, .int .i64 0, .int .i64 0, .int .i64 n, .slice la ln lc])/\Below w.heap.size w w':=by have hB:=aB w (.cells #[.int .i64 d, .int .i64 n, .slice la ln lc] 248);have hB2:=hB.trans ((aB _ (.cells #[.int .i64 7, .int .i64 d, .int .i64 0, .int .i64 0, .int .i64 n, .slice la ln lc] 41)).mono hB.size);go_enter Tryz.func213,Tryz.ntmps213;go_wp2;(try simp only[Exit.inBlock,Exit.then]);refine bodyPost_ret (v:= .agg #[.int .i64 7, .int .i64 d, .int .i64 0, .int .i64 0, .int .i64 n, .slice la ln lc]) ?_ rfl ⟨rfl,hB2⟩;rw[aN rfl];go_simp
theorem G9 (d a b n:Int)(la:Option Addr)(ln lc:Nat)(w:World):Calls Tryz.prog 206 #[.agg #[.int .i64 d, .int .i64 a, .int .i64 n]] w fun e w'=>e= .returned (.agg #[.int .i64 8, .int .i64 d, .int .i64 a, .int .i64 0, .int .i64 n, .slice none 0 0])/\Below w.heap.size w w':=by have hB:=aB w (.cells #[.int .i64 d, .int .i64 a, .int .i64 n] 224);have hB2:=hB.trans ((aB _ (.cells #[.int .i64 8, .int .i64 d, .int .i64 a, .int .i64 0, .int .i64 n, .slice none 0 0] 41)).mono hB.size);go_enter Tryz.func206,Tryz.ntmps206;go_wp2;(try simp only[Exit.inBlock,Exit.then]);refine bodyPost_ret (v:= .agg #[.int .i64 8, .int .i64 d, .int .i64 a, .int .i64 0, .int .i64 n, .slice none 0 0]) ?_ rfl ⟨rfl,hB2⟩;rw[aN rfl];go_simp
theorem Ie (d a b n:Int)(la:Option Addr)(ln lc:Nat)(w:World):Calls Tryz.prog 207 #[.agg #[.int .i64 b, .int .i64 a, .int .i64 n]] w fun e w'=>e= .returned (.agg #[.int .i64 9, .int .i64 0, .int .i64 a, .int .i64 b, .int .i64 n, .slice none 0 0])/\Below w.heap.size w w':=by have hB:=aB w (.cells #[.int .i64 b, .int .i64 a, .int .i64 n] 226);have hB2:=hB.trans ((aB _ (.cells #[.int .i64 9, .int .i64 0, .int .i64 a, .int .i64 b, .int .i64 n, .slice none 0 0] 41)).mono hB.size);go_enter Tryz.func207,Tryz.ntmps207;go_wp2;(try simp only[Exit.inBlock,Exit.then]);refine bodyPost_ret (v:= .agg #[.int .i64 9, .int .i64 0, .int .i64 a, .int .i64 b, .int .i64 n, .slice none 0 0]) ?_ rfl ⟨rfl,hB2⟩;rw[aN rfl];go_simp
theorem EQ (d a b n:Int)(la:Option Addr)(ln lc:Nat)(w:World):Calls Tryz.prog 201 #[.agg #[.int .i64 a]] w fun e w'=>e= .returned (.agg #[.int .i64 10, .int .i64 0, .int .i64 a, .int .i64 0, .int .i64 0, .slice none 0 0])/\Below w.heap.size w w':=by have hB:=aB w (.cells #[.int .i64 a] 198);have hB2:=hB.trans ((aB _ (.cells #[.int .i64 10, .int .i64 0, .int .i64 a, .int .i64 0, .int .i64 0, .slice none 0 0] 41)).mono hB.size);go_enter Tryz.func201,Tryz.ntmps201;go_wp2;(try simp only[Exit.inBlock,Exit.then]);refine bodyPost_ret (v:= .agg #[.int .i64 10, .int .i64 0, .int .i64 a, .int .i64 0, .int .i64 0, .slice none 0 0]) ?_ rfl ⟨rfl,hB2⟩;rw[aN rfl];go_simp
theorem EU (d a b n:Int)(la:Option Addr)(ln lc:Nat)(w:World):Calls Tryz.prog 200 #[.agg #[]] w fun e w'=>e= .returned (.agg #[.int .i64 11, .int .i64 0, .int .i64 0, .int .i64 0, .int .i64 0, .slice none 0 0])/\Below w.heap.size w w':=by have hB:=aB w (.cells #[] 195);have hB2:=hB.trans ((aB _ (.cells #[.int .i64 11, .int .i64 0, .int .i64 0, .int .i64 0, .int .i64 0, .slice none 0 0] 41)).mono hB.size);go_enter Tryz.func200,Tryz.ntmps200;go_wp2;(try simp only[Exit.inBlock,Exit.then]);refine bodyPost_ret (v:= .agg #[.int .i64 11, .int .i64 0, .int .i64 0, .int .i64 0, .int .i64 0, .slice none 0 0]) ?_ rfl ⟨rfl,hB2⟩;rw[aN rfl];go_simp
end Go.Proofs.YtellfmhljjdjbaaGreatDoor
