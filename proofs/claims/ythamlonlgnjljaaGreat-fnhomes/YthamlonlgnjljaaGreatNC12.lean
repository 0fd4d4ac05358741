/-
  Own texts for a law: Low4 Low5 Low6 Low7 Gen11 Gen12 HpP HpQ SpP SpI0 SpI4 Hp0
-/
import Derived.Test.YthamlonlgnjljaaGreatNC11
namespace Go.Proofs.YthamlonlgnjljaaGreat
open Go.RowKit Go.Shelf
set_option linter.all false
set_option maxRecDepth 100000
set_option maxHeartbeats 16000000
theorem Ov {c:LX}{W0 W:World}{v vg:Value}{out:List (Ln×Int)}{P:Nat->Prop}(T:TX c W0)(K:MK c W0 W v vg out P)(fa:Option Addr)(fl fc:Nat)(d:ByteArray)(oa:Option Addr)(oc:Nat)(hF:FL W0 fa fl c.fs)(hO:IL W0 oa c.f.b.length c.O)(aI:Nat)(hat:aI<c.f.b.length)(hr:0<=c.H.getD aI 0)(hlen:out.length<=900)(p:Int)(hp:aG.op c.f.b aI=p)(hk:p=7\/p=8\/p=9\/p=12\/p=20\/p=1\/p=2\/p=3\/p=4\/p=5\/p=6\/p=17\/p=18\/p=19):Calls Tryz.prog 104 #[.pointer (some ⟨c.B,0,none⟩), .agg #[.slice fa fl fc, .string d], .slice oa c.f.b.length oc, .int .i64 aI] W fun e w'=>∃v' l6,e= .returned (.tuple #[])/\MK c W0 w' v' l6 (out++Lw.step c.fs c.f c.E c.O c.H aI) (fun g=>P g\/W.heap.size<=g)/\FX c v vg v' l6 W w':=by have hty:=T.acc.typ aI hat hr;obtain⟨hH,hE,hS⟩:=T.il K;have Gw:=hO.kept K.eY;have hF1:=hF.kept K.eY;have hLen:=T.ok.2.2.2.2.2;have htop:=T.acc.jR aI hat;have hW:=T.lt;have hwd:0<=Lw.wd c.f/\Lw.wd c.f<=6:=by{have:=T.ok;unfold Lw.wd;omega};have HST:Hid (Lw.step c.fs c.f c.E c.O c.H aI=Lw.ic c.fs c.f c.E c.O c.H aI p (Hg.arg c.f.b aI) (Lw.bx c.f (c.H.getD aI 0-1))):=by{show _=_;unfold Lw.step;rw[hp]};have hbx0:=K.box;unfold LX.eG at hbx0;obtain⟨bl,hbl⟩:∃n,c.f.b.length=n:=⟨_,rfl⟩;rw[hbl]at hH hE hS Gw hLen hat hbx0 ⊢;have Tj:(aI:Int)<(bl:Int):=by{omega};have cS:∃b o,c.ba=some ⟨b,o,none⟩/\b<W.heap.size/\W.cell? ⟨b,o+aI*2,none⟩=some (.int .i64 (aG.op c.f.b aI))/\W.cell? ⟨b,o+aI*2+1,none⟩=some (.int .i64 (Hg.arg c.f.b aI)):=by{obtain⟨hl,-,h3|⟨b,o,e,hb,hh⟩⟩:=hS;{omega};exact⟨b,o,e,hb,(hh aI hat).1,(hh aI hat).2⟩};obtain⟨sb,so,es,lS,DX,cS2⟩:=cS;have cH:∃b o,c.ha=some ⟨b,o,none⟩/\b<W.heap.size/\W.cell? ⟨b,o+aI,none⟩=some (.int .i64 (c.H.getD aI 0)):=by{obtain⟨hl,-,h3|⟨b,o,e,hb,hh⟩⟩:=hH;{omega};exact⟨b,o,e,hb,hh aI hat⟩};obtain⟨hb',ho',eh,lH,cH⟩:=cH;have cE:∃b o,c.ea=some ⟨b,o,none⟩/\b<W.heap.size/\W.cell? ⟨b,o+aI,none⟩=some (.int .i64 (aG.aU c.E aI)):=by{obtain⟨hl,-,h3|⟨b,o,e,hb,hh⟩⟩:=hE;{omega};refine⟨b,o,e,hb,?_⟩;rw[hh aI hat];unfold aG.aU;rw[ah,ah,ai (by omega)];rfl};obtain⟨eb,eo,ee,lE,cE⟩:=cE;have cO:∃b o,oa=some ⟨b,o,none⟩/\b<W.heap.size/\W.cell? ⟨b,o+aI,none⟩=some (.int .i64 (aG.aU c.O aI)):=by{obtain⟨hl,-,h3|⟨b,o,e,hb,hh⟩⟩:=Gw;{omega};refine⟨b,o,e,hb,?_⟩;rw[hh aI hat];unfold aG.aU;rw[ah,ah,ai (by omega)];rfl};obtain⟨ob,oo,rfl,lO,cO⟩:=cO;rw[hp]at DX;obtain⟨q,hq⟩:∃q,Hg.arg c.f.b aI=q:=⟨_,rfl⟩;obtain⟨u,hu⟩:∃u,c.H.getD aI 0=u:=⟨_,rfl⟩;rw[hq]at cS2 HST;rw[hu]at cH htop hr HST;have d2:=(hbx0.2 2 _ rfl).1;have d3:=(hbx0.2 3 _ rfl).1;have d4:=(hbx0.2 4 _ rfl).1;have d5:=(hbx0.2 5 _ rfl).1;have Gv:=hbx0.1;rw[eh]at d3;rw[ee]at d4;rw[es]at d5;have hB1:=aA W (.cells #[.slice fa fl fc, .string d] 84);have hA1:gY (W.alloc (.cells #[.slice fa fl fc, .string d] 84)) W.heap.size 84 [.slice fa fl fc, .string d]:=heap_alloc_last W _;obtain⟨W1,hW1⟩:∃X,W.alloc (.cells #[.slice fa fl fc, .string d] 84)=X:=⟨_,rfl⟩;rw[hW1]at hB1 hA1;have hB2:=aA W1 (.cells #[.int .i64 (p), .int .i64 q] 127);have hA2:gY (W1.alloc (.cells #[.int .i64 (p), .int .i64 q] 127)) W1.heap.size 127 [.int .i64 (p), .int .i64 q]:=heap_alloc_last W1 _;obtain⟨W2,hW2⟩:∃X,W1.alloc (.cells #[.int .i64 (p), .int .i64 q] 127)=X:=⟨_,rfl⟩;rw[hW2]at hB2 hA2;have hB:=hB1.trans (hB2.mono hB1.size);have K2:=K.kept hB;have pG:=hA1.kept hB2;have hcon:=iG T K2 (u-1) (by omega) (by omega);have Tk:-1<=Lw.bx c.f (u-1)/\Lw.bx c.f (u-1)<=26:=by{unfold Lw.bx;omega};obtain⟨tt,zG⟩:∃tt,Lw.bx c.f (u-1)=tt:=⟨_,rfl⟩;rw[zG]at hcon Tk HST;have c3:=aO hB1 d3;have k3:=aO hB d3;have k4:=aO hB d4;have c5:=aO hB1 d5;have c6:=aO hB1 DX;have c7:=aO hB1 cS2;have c8:=aO hB cH;have sW:=aO hB cE;have sZ:=aO hB cO;have k2:=aO hB d2;have s0:=hA2.cell (j:=0) rfl;have s1:=hA2.cell (j:=1) rfl;have m0:=pG.cell (j:=0) rfl;have F0:FX c v vg v vg W W2:=FX.below hB;have hF2:=hF1.kept hB;have HQ:=ae (ak hp (ak hq (ak hbl (ak hu hty))));clear hH hE hS hO Gw hF hF1 d2 d3 d4 d5 DX cS2 cH cE cO hbx0 hA1 hB1 hB2 K hu zG hp hq hbl;go_enter Tryz.func104,Tryz.ntmps104;go_wp2_with fail;refine hcon.mono ?_;rintro e w3 ⟨rfl,aZ⟩;subst w3;dsimp only;clear hcon;rcases hk with rfl|rfl|rfl|rfl|rfl|rfl|rfl|rfl|rfl|rfl|rfl|rfl|rfl|rfl;{replace HST:Hid (Lw.step c.fs c.f c.E c.O c.H aI=[]):=HST;clear c3 k3 k4 c5 c6 c7 c8 sW sZ k2 m0 pG hA2 hW1 hW2 hty hF2;go_wp2;(try simp only[Exit.inBlock,Exit.then]);refine bodyPost_end (results_none rfl _ _ _) rfl ⟨v,vg,rfl,?_,F0⟩;rw[HST.out];refine MK.eX ?_ (fun g h=> .inl h);simpa[List.append_assoc]using K2};{replace HST:Hid (Lw.step c.fs c.f c.E c.O c.H aI=[]):=HST;clear c3 k3 k4 c5 c6 c7 c8 sW sZ k2 m0 pG hA2 hW1 hW2 hty hF2;go_wp2;(try simp only[Exit.inBlock,Exit.then]);refine bodyPost_end (results_none rfl _ _ _) rfl ⟨v,vg,rfl,?_,F0⟩;rw[HST.out];refine MK.eX ?_ (fun g h=> .inl h);simpa[List.append_assoc]using K2};{replace HST:Hid (Lw.step c.fs c.f c.E c.O c.H aI=[]):=HST;clear c3 k3 k4 c5 c6 c7 c8 sW sZ k2 m0 pG hA2 hW1 hW2 hty hF2;go_wp2;(try simp only[Exit.inBlock,Exit.then]);refine bodyPost_end (results_none rfl _ _ _) rfl ⟨v,vg,rfl,?_,F0⟩;rw[HST.out];refine MK.eX ?_ (fun g h=> .inl h);simpa[List.append_assoc]using K2};{replace HST:Hid (Lw.step c.fs c.f c.E c.O c.H aI=[]):=HST;clear c3 k3 k4 c5 c6 c7 c8 sW sZ k2 m0 pG hA2 hW1 hW2 hty hF2;go_wp2;(try simp only[Exit.inBlock,Exit.then]);refine bodyPost_end (results_none rfl _ _ _) rfl ⟨v,vg,rfl,?_,F0⟩;rw[HST.out];refine MK.eX ?_ (fun g h=> .inl h);simpa[List.append_assoc]using K2};{replace HST:Hid (Lw.step c.fs c.f c.E c.O c.H aI=[]):=HST;clear c3 k3 k4 c5 c6 c7 c8 sW sZ k2 m0 pG hA2 hW1 hW2 hty hF2;go_wp2;(try simp only[Exit.inBlock,Exit.then]);refine bodyPost_end (results_none rfl _ _ _) rfl ⟨v,vg,rfl,?_,F0⟩;rw[HST.out];refine MK.eX ?_ (fun g h=> .inl h);simpa[List.append_assoc]using K2};{replace HST:Hid (Lw.step c.fs c.f c.E c.O c.H aI=[(⟨1,tt+1,0,0,q,[]⟩,-1)]):=HST;clear c3 k3 k4 c5 c6 c7 c8 sW sZ k2 m0 pG hA2 hW1 hW2 hty hF2;go_wp2_with fail;refine(aL c W0 W2 v vg (out) P hW K2 ⟨1,tt+1,0,0,q,[]⟩ none 0 0 (OI.nil _ _) (fun g e=>by cases e) (-1) (by omega)).mono ?_;rintro e X1 ⟨v1,iB,rfl,K1,F1⟩;dsimp only;clear s0 s1;have G1:=F0.trans F1;clear K2 F1 F0;go_wp2;(try simp only[Exit.inBlock,Exit.then]);refine bodyPost_end (results_none rfl _ _ _) rfl ⟨v1,iB,rfl,?_,G1⟩;rw[HST.out];refine MK.eX ?_ (fun g h=> .inl h);simpa[List.append_assoc]using K1};{replace HST:Hid (Lw.step c.fs c.f c.E c.O c.H aI=[(⟨2,tt+1,q,0,0,[]⟩,-1)]):=HST;clear c3 k3 k4 c5 c6 c7 c8 sW sZ k2 m0 pG hA2 hW1 hW2 hty hF2;go_wp2_with fail;refine(aL c W0 W2 v vg (out) P hW K2 ⟨2,tt+1,q,0,0,[]⟩ none 0 0 (OI.nil _ _) (fun g e=>by cases e) (-1) (by omega)).mono ?_;rintro e X1 ⟨v1,iB,rfl,K1,F1⟩;dsimp only;clear s0 s1;have G1:=F0.trans F1;clear K2 F1 F0;go_wp2;(try simp only[Exit.inBlock,Exit.then]);refine bodyPost_end (results_none rfl _ _ _) rfl ⟨v1,iB,rfl,?_,G1⟩;rw[HST.out];refine MK.eX ?_ (fun g h=> .inl h);simpa[List.append_assoc]using K1};{replace HST:Hid (Lw.step c.fs c.f c.E c.O c.H aI=[(⟨2,q,tt,0,0,[]⟩,-1)]):=HST;clear c3 k3 k4 c5 c6 c7 c8 sW sZ k2 m0 pG hA2 hW1 hW2 hty hF2;go_wp2_with fail;refine(aL c W0 W2 v vg (out) P hW K2 ⟨2,q,tt,0,0,[]⟩ none 0 0 (OI.nil _ _) (fun g e=>by cases e) (-1) (by omega)).mono ?_;rintro e X1 ⟨v1,iB,rfl,K1,F1⟩;dsimp only;clear s0 s1;have G1:=F0.trans F1;clear K2 F1 F0;go_wp2;(try simp only[Exit.inBlock,Exit.then]);refine bodyPost_end (results_none rfl _ _ _) rfl ⟨v1,iB,rfl,?_,G1⟩;rw[HST.out];refine MK.eX ?_ (fun g h=> .inl h);simpa[List.append_assoc]using K1};{replace HST:Hid (Lw.step c.fs c.f c.E c.O c.H aI=[(⟨2,q,tt,0,0,[]⟩,-1)]):=HST;clear c3 k3 k4 c5 c6 c7 c8 sW sZ k2 m0 pG hA2 hW1 hW2 hty hF2;go_wp2_with fail;refine(aL c W0 W2 v vg (out) P hW K2 ⟨2,q,tt,0,0,[]⟩ none 0 0 (OI.nil _ _) (fun g e=>by cases e) (-1) (by omega)).mono ?_;rintro e X1 ⟨v1,iB,rfl,K1,F1⟩;dsimp only;clear s0 s1;have G1:=F0.trans F1;clear K2 F1 F0;go_wp2;(try simp only[Exit.inBlock,Exit.then]);refine bodyPost_end (results_none rfl _ _ _) rfl ⟨v1,iB,rfl,?_,G1⟩;rw[HST.out];refine MK.eX ?_ (fun g h=> .inl h);simpa[List.append_assoc]using K1};{replace HST:Hid (Lw.step c.fs c.f c.E c.O c.H aI=[(⟨3,tt-1,tt-1,tt,q,[]⟩,-1)]):=HST;clear c3 k3 k4 c5 c6 c7 c8 sW sZ k2 m0 pG hA2 hW1 hW2 hty hF2;go_wp2_with fail;refine(aL c W0 W2 v vg (out) P hW K2 ⟨3,tt-1,tt-1,tt,q,[]⟩ none 0 0 (OI.nil _ _) (fun g e=>by cases e) (-1) (by omega)).mono ?_;rintro e X1 ⟨v1,iB,rfl,K1,F1⟩;dsimp only;clear s0 s1;have G1:=F0.trans F1;clear K2 F1 F0;go_wp2;(try simp only[Exit.inBlock,Exit.then]);refine bodyPost_end (results_none rfl _ _ _) rfl ⟨v1,iB,rfl,?_,G1⟩;rw[HST.out];refine MK.eX ?_ (fun g h=> .inl h);simpa[List.append_assoc]using K1};{replace HST:Hid (Lw.step c.fs c.f c.E c.O c.H aI=[(⟨4,tt,tt,0,0,[]⟩,-1)]):=HST;clear c3 k3 k4 c5 c6 c7 c8 sW sZ k2 m0 pG hA2 hW1 hW2 hty hF2;go_wp2_with fail;refine(aL c W0 W2 v vg (out) P hW K2 ⟨4,tt,tt,0,0,[]⟩ none 0 0 (OI.nil _ _) (fun g e=>by cases e) (-1) (by omega)).mono ?_;rintro e X1 ⟨v1,iB,rfl,K1,F1⟩;dsimp only;clear s0 s1;have G1:=F0.trans F1;clear K2 F1 F0;go_wp2;(try simp only[Exit.inBlock,Exit.then]);refine bodyPost_end (results_none rfl _ _ _) rfl ⟨v1,iB,rfl,?_,G1⟩;rw[HST.out];refine MK.eX ?_ (fun g h=> .inl h);simpa[List.append_assoc]using K1};{replace HST:Hid (Lw.step c.fs c.f c.E c.O c.H aI=[(⟨8,tt,tt,0,q,[]⟩,-1)]):=HST;clear c3 k3 k4 c5 c6 c7 c8 sW sZ k2 m0 pG hA2 hW1 hW2 hty hF2;go_wp2_with fail;refine(aL c W0 W2 v vg (out) P hW K2 ⟨8,tt,tt,0,q,[]⟩ none 0 0 (OI.nil _ _) (fun g e=>by cases e) (-1) (by omega)).mono ?_;rintro e X1 ⟨v1,iB,rfl,K1,F1⟩;dsimp only;clear s0 s1;have G1:=F0.trans F1;clear K2 F1 F0;go_wp2;(try simp only[Exit.inBlock,Exit.then]);refine bodyPost_end (results_none rfl _ _ _) rfl ⟨v1,iB,rfl,?_,G1⟩;rw[HST.out];refine MK.eX ?_ (fun g h=> .inl h);simpa[List.append_assoc]using K1};{replace HST:Hid (Lw.step c.fs c.f c.E c.O c.H aI=[(⟨9,0,tt-1,tt,q,[]⟩,-1)]):=HST;clear c3 k3 k4 c5 c6 c7 c8 sW sZ k2 m0 pG hA2 hW1 hW2 hty hF2;go_wp2_with fail;refine(aL c W0 W2 v vg (out) P hW K2 ⟨9,0,tt-1,tt,q,[]⟩ none 0 0 (OI.nil _ _) (fun g e=>by cases e) (-1) (by omega)).mono ?_;rintro e X1 ⟨v1,iB,rfl,K1,F1⟩;dsimp only;clear s0 s1;have G1:=F0.trans F1;clear K2 F1 F0;go_wp2;(try simp only[Exit.inBlock,Exit.then]);refine bodyPost_end (results_none rfl _ _ _) rfl ⟨v1,iB,rfl,?_,G1⟩;rw[HST.out];refine MK.eX ?_ (fun g h=> .inl h);simpa[List.append_assoc]using K1};replace HST:Hid (Lw.step c.fs c.f c.E c.O c.H aI=[(⟨11,0,0,0,0,[]⟩,-1)]):=HST;clear c3 k3 k4 c5 c6 c7 c8 sW sZ k2 m0 pG hA2 hW1 hW2 hty hF2;go_wp2_with fail;refine(aL c W0 W2 v vg (out) P hW K2 ⟨11,0,0,0,0,[]⟩ none 0 0 (OI.nil _ _) (fun g e=>by cases e) (-1) (by omega)).mono ?_;rintro e X1 ⟨v1,iB,rfl,K1,F1⟩;dsimp only;clear s0 s1;have G1:=F0.trans F1;clear K2 F1 F0;go_wp2;(try simp only[Exit.inBlock,Exit.then]);refine bodyPost_end (results_none rfl _ _ _) rfl ⟨v1,iB,rfl,?_,G1⟩;rw[HST.out];refine MK.eX ?_ (fun g h=> .inl h);simpa[List.append_assoc]using K1
theorem Lw.El {c:LX}{W0:World}(T:TX c W0){aI:Nat}(hat:aI<c.f.b.length)(h:aG.op c.f.b aI=13\/aG.op c.f.b aI=14):0<=Hg.arg c.f.b aI/\Hg.arg c.f.b aI<=9:=by have hok:St.ok (aG.op c.f.b aI) (Hg.arg c.f.b aI)=true:=St.bu T.all hat;simp only[St.ok,au,Wd.dh]at hok;(have h1:St.least (aG.op c.f.b aI)=0:=by rcases h with h|h<;>rw[h]<;>rfl);(have h2:St.dz (aG.op c.f.b aI)=9:=by rcases h with h|h<;>rw[h]<;>rfl);omega
theorem Lw.low {f:Fn}{E H:List Int}{j:Nat}{a hh:Int}(hJ:Hg.qQ f E H j hh a):∀t:Nat,a.toNat<(aG.cK f.b E j j).length->(aG.cK f.b E j j).getD a.toNat (-1)=(t:Int)->0<=H.getD t 0:=fun t hlt ht=>by
 obtain⟨t',e',-,-,h0,-⟩:=hJ.1 hlt
 rw[ht]at e'
 have:t=t':=by omega
 rw[this]
 exact h0
theorem Om {c:LX}{W0 W:World}{v vg:Value}{out:List (Ln×Int)}{P:Nat->Prop}(T:TX c W0)(K:MK c W0 W v vg out P)(fa:Option Addr)(fl fc:Nat)(d:ByteArray)(oa:Option Addr)(oc:Nat)(hF:FL W0 fa fl c.fs)(hO:IL W0 oa c.f.b.length c.O)(aI:Nat)(hat:aI<c.f.b.length)(hr:0<=c.H.getD aI 0)(hlen:out.length<=900)(p:Int)(hp:aG.op c.f.b aI=p)(hk:p=10\/p=11\/p=13\/p=15\/p=14):Calls Tryz.prog 104 #[.pointer (some ⟨c.B,0,none⟩), .agg #[.slice fa fl fc, .string d], .slice oa c.f.b.length oc, .int .i64 aI] W fun e w'=>∃v' l6,e= .returned (.tuple #[])/\MK c W0 w' v' l6 (out++Lw.step c.fs c.f c.E c.O c.H aI) (fun g=>P g\/W.heap.size<=g)/\FX c v vg v' l6 W w':=by have hty:=T.acc.typ aI hat hr;obtain⟨hH,hE,hS⟩:=T.il K;have Gw:=hO.kept K.eY;have hF1:=hF.kept K.eY;have hLen:=T.ok.2.2.2.2.2;have htop:=T.acc.jR aI hat;have hW:=T.lt;have hwd:0<=Lw.wd c.f/\Lw.wd c.f<=6:=by{have:=T.ok;unfold Lw.wd;omega};have HST:Hid (Lw.step c.fs c.f c.E c.O c.H aI=Lw.ic c.fs c.f c.E c.O c.H aI p (Hg.arg c.f.b aI) (Lw.bx c.f (c.H.getD aI 0-1))):=by{show _=_;unfold Lw.step;rw[hp]};have hbx0:=K.box;unfold LX.eG at hbx0;obtain⟨bl,hbl⟩:∃n,c.f.b.length=n:=⟨_,rfl⟩;rw[hbl]at hH hE hS Gw hLen hat hbx0 ⊢;have Tj:(aI:Int)<(bl:Int):=by{omega};have cS:∃b o,c.ba=some ⟨b,o,none⟩/\b<W.heap.size/\W.cell? ⟨b,o+aI*2,none⟩=some (.int .i64 (aG.op c.f.b aI))/\W.cell? ⟨b,o+aI*2+1,none⟩=some (.int .i64 (Hg.arg c.f.b aI)):=by{obtain⟨hl,-,h3|⟨b,o,e,hb,hh⟩⟩:=hS;{omega};exact⟨b,o,e,hb,(hh aI hat).1,(hh aI hat).2⟩};obtain⟨sb,so,es,lS,DX,cS2⟩:=cS;have cH:∃b o,c.ha=some ⟨b,o,none⟩/\b<W.heap.size/\W.cell? ⟨b,o+aI,none⟩=some (.int .i64 (c.H.getD aI 0)):=by{obtain⟨hl,-,h3|⟨b,o,e,hb,hh⟩⟩:=hH;{omega};exact⟨b,o,e,hb,hh aI hat⟩};obtain⟨hb',ho',eh,lH,cH⟩:=cH;have cE:∃b o,c.ea=some ⟨b,o,none⟩/\b<W.heap.size/\W.cell? ⟨b,o+aI,none⟩=some (.int .i64 (aG.aU c.E aI)):=by{obtain⟨hl,-,h3|⟨b,o,e,hb,hh⟩⟩:=hE;{omega};refine⟨b,o,e,hb,?_⟩;rw[hh aI hat];unfold aG.aU;rw[ah,ah,ai (by omega)];rfl};obtain⟨eb,eo,ee,lE,cE⟩:=cE;have cO:∃b o,oa=some ⟨b,o,none⟩/\b<W.heap.size/\W.cell? ⟨b,o+aI,none⟩=some (.int .i64 (aG.aU c.O aI)):=by{obtain⟨hl,-,h3|⟨b,o,e,hb,hh⟩⟩:=Gw;{omega};refine⟨b,o,e,hb,?_⟩;rw[hh aI hat];unfold aG.aU;rw[ah,ah,ai (by omega)];rfl};obtain⟨ob,oo,rfl,lO,cO⟩:=cO;rw[hp]at DX;obtain⟨q,hq⟩:∃q,Hg.arg c.f.b aI=q:=⟨_,rfl⟩;obtain⟨u,hu⟩:∃u,c.H.getD aI 0=u:=⟨_,rfl⟩;rw[hq]at cS2 HST;rw[hu]at cH htop hr HST;have d2:=(hbx0.2 2 _ rfl).1;have d3:=(hbx0.2 3 _ rfl).1;have d4:=(hbx0.2 4 _ rfl).1;have d5:=(hbx0.2 5 _ rfl).1;have Gv:=hbx0.1;rw[eh]at d3;rw[ee]at d4;rw[es]at d5;have hB1:=aA W (.cells #[.slice fa fl fc, .string d] 84);have hA1:gY (W.alloc (.cells #[.slice fa fl fc, .string d] 84)) W.heap.size 84 [.slice fa fl fc, .string d]:=heap_alloc_last W _;obtain⟨W1,hW1⟩:∃X,W.alloc (.cells #[.slice fa fl fc, .string d] 84)=X:=⟨_,rfl⟩;rw[hW1]at hB1 hA1;have hB2:=aA W1 (.cells #[.int .i64 (p), .int .i64 q] 127);have hA2:gY (W1.alloc (.cells #[.int .i64 (p), .int .i64 q] 127)) W1.heap.size 127 [.int .i64 (p), .int .i64 q]:=heap_alloc_last W1 _;obtain⟨W2,hW2⟩:∃X,W1.alloc (.cells #[.int .i64 (p), .int .i64 q] 127)=X:=⟨_,rfl⟩;rw[hW2]at hB2 hA2;have hB:=hB1.trans (hB2.mono hB1.size);have K2:=K.kept hB;have pG:=hA1.kept hB2;have hcon:=iG T K2 (u-1) (by omega) (by omega);have Tk:-1<=Lw.bx c.f (u-1)/\Lw.bx c.f (u-1)<=26:=by{unfold Lw.bx;omega};obtain⟨tt,zG⟩:∃tt,Lw.bx c.f (u-1)=tt:=⟨_,rfl⟩;rw[zG]at hcon Tk HST;have c3:=aO hB1 d3;have k3:=aO hB d3;have k4:=aO hB d4;have c5:=aO hB1 d5;have c6:=aO hB1 DX;have c7:=aO hB1 cS2;have c8:=aO hB cH;have sW:=aO hB cE;have sZ:=aO hB cO;have k2:=aO hB d2;have s0:=hA2.cell (j:=0) rfl;have s1:=hA2.cell (j:=1) rfl;have m0:=pG.cell (j:=0) rfl;have F0:FX c v vg v vg W W2:=FX.below hB;have hF2:=hF1.kept hB;have HQ:=ae (ak hp (ak hq (ak hbl (ak hu hty))));clear hH hE hS hO Gw hF hF1 d2 d3 d4 d5 DX cS2 cH cE cO hbx0 hA1 hB1 hB2 K hu zG hp hq hbl;go_enter Tryz.func104,Tryz.ntmps104;go_wp2_with fail;refine hcon.mono ?_;rintro e w3 ⟨rfl,aZ⟩;subst w3;dsimp only;clear hcon;rcases hk with rfl|rfl|rfl|rfl|rfl;{obtain⟨z,hz⟩:∃z,aG.aU c.E aI=z:=⟨_,rfl⟩;obtain⟨y,hy⟩:∃y,aG.aU c.O aI=y:=⟨_,rfl⟩;have Mq:0<=y->y<=80:=fun h0=>by{have f2:=T.acc.Te.f2 aI (by rw[HQ.out.2.2.1];exact hat) (by rw[hy];exact h0);have f3:=T.acc.Te.f3 aI (by rw[HQ.out.2.2.1];exact hat) (by omega);rw[HQ.out.2.2.1]at f3;omega};rw[hz]at sW;rw[hy]at sZ;by_cases hy0:0<=y;{have hyb:=Mq hy0;replace HST:Hid (Lw.step c.fs c.f c.E c.O c.H aI=[(⟨4,tt,tt,0,0,[]⟩,-1),(⟨6,0,tt,0,0,[]⟩,y+1)]):=by{show _=_;rw[HST.out,←hy];show[_,(_,if 0<=aG.aU c.O aI then _ else _)]=_;rw[ay (by rw[hy];exact hy0)]};clear Mq hz hy;clear c3 k3 c5 c6 c7 c8 k2 m0 pG hA2 hW1 hW2 hty hF2;go_wp2_with fail;refine(aL c W0 W2 v vg (out) P hW K2 ⟨4,tt,tt,0,0,[]⟩ none 0 0 (OI.nil _ _) (fun g e=>by cases e) (-1) (by omega)).mono ?_;rintro e X1 ⟨v1,iB,rfl,K1,F1⟩;dsimp only;clear s0 s1;have G1:=F0.trans F1;clear K2 F1 F0;go_wp2_with fail;refine(aL c W0 X1 v1 iB (out++[(⟨4,tt,tt,0,0,[]⟩,(-1))]) P hW K1 ⟨6,0,tt,0,0,[]⟩ none 0 0 (OI.nil _ _) (fun g e=>by cases e) (y+1) (by simp only[List.length_append,List.length_singleton];omega)).mono ?_;rintro e X2 ⟨v2,vE,rfl,K2,F2⟩;dsimp only;have G2:=G1.trans F2;clear K1 F2 G1;go_wp2;(try simp only[Exit.inBlock,Exit.then]);refine bodyPost_end (results_none rfl _ _ _) rfl ⟨v2,vE,rfl,?_,G2⟩;rw[HST.out];refine MK.eX ?_ (fun g h=> .inl h);simpa[List.append_assoc]using K2};replace HST:Hid (Lw.step c.fs c.f c.E c.O c.H aI=[(⟨4,tt,tt,0,0,[]⟩,-1),(⟨6,0,tt,0,0,[]⟩,z)]):=by{show _=_;rw[HST.out,←hz];show[_,(_,if 0<=aG.aU c.O aI then _ else _)]=_;rw[ax (by rw[hy];exact hy0)]};clear Mq hz hy;clear c3 k3 c5 c6 c7 c8 k2 m0 pG hA2 hW1 hW2 hty hF2;go_wp2_with fail;refine(aL c W0 W2 v vg (out) P hW K2 ⟨4,tt,tt,0,0,[]⟩ none 0 0 (OI.nil _ _) (fun g e=>by cases e) (-1) (by omega)).mono ?_;rintro e X1 ⟨v1,iB,rfl,K1,F1⟩;dsimp only;clear s0 s1;have G1:=F0.trans F1;clear K2 F1 F0;go_wp2_with fail;refine(aL c W0 X1 v1 iB (out++[(⟨4,tt,tt,0,0,[]⟩,(-1))]) P hW K1 ⟨6,0,tt,0,0,[]⟩ none 0 0 (OI.nil _ _) (fun g e=>by cases e) (z) (by simp only[List.length_append,List.length_singleton];omega)).mono ?_;rintro e X2 ⟨v2,vE,rfl,K2,F2⟩;dsimp only;have G2:=G1.trans F2;clear K1 F2 G1;go_wp2;(try simp only[Exit.inBlock,Exit.then]);refine bodyPost_end (results_none rfl _ _ _) rfl ⟨v2,vE,rfl,?_,G2⟩;rw[HST.out];refine MK.eX ?_ (fun g h=> .inl h);simpa[List.append_assoc]using K2};{obtain⟨z,hz⟩:∃z,aG.aU c.E aI=z:=⟨_,rfl⟩;rw[hz]at sW;replace HST:Hid (Lw.step c.fs c.f c.E c.O c.H aI=[(⟨5,0,0,0,0,[]⟩,z)]):=by{show _=_;rw[HST.out,←hz];rfl};clear hz;clear c3 k3 c5 c6 c7 c8 sZ k2 m0 pG hA2 hW1 hW2 hty hF2;go_wp2_with fail;refine(aL c W0 W2 v vg (out) P hW K2 ⟨5,0,0,0,0,[]⟩ none 0 0 (OI.nil _ _) (fun g e=>by cases e) (z) (by omega)).mono ?_;rintro e X1 ⟨v1,iB,rfl,K1,F1⟩;dsimp only;clear s0 s1;have G1:=F0.trans F1;clear K2 F1 F0;go_wp2;(try simp only[Exit.inBlock,Exit.then]);refine bodyPost_end (results_none rfl _ _ _) rfl ⟨v1,iB,rfl,?_,G1⟩;rw[HST.out];refine MK.eX ?_ (fun g h=> .inl h);simpa[List.append_assoc]using K1};{have hq9:0<=q/\q<=9:=by{have:=Lw.El T (aI:=aI) (by rw[HQ.out.2.2.1];exact hat) (by rw[HQ.out.1];omega);rw[HQ.out.2.1]at this;exact this};have hlow:=Lw.low (HQ.out.2.2.2.2.jump HQ.out.1);rw[HQ.out.2.1]at hlow;have hL:=iV T K2 aI (by rw[HQ.out.2.2.1];exact hat) q (by omega) (by omega) hlow;obtain⟨⟨l1,l2,l3⟩,hl⟩:∃l,Lw.dX c.f c.E c.H aI q=l:=⟨_,rfl⟩;rw[hl]at hL;replace HST:Hid (Lw.step c.fs c.f c.E c.O c.H aI=(if l3=1/\l2≠tt then[(⟨2,l2,tt,0,0,[]⟩,-1)]else[])++[(⟨5,0,0,0,0,[]⟩,l1)]):=by{show _=_;rw[HST.out];show(((if(Lw.dX c.f c.E c.H aI q).2.2=1/\(Lw.dX c.f c.E c.H aI q).2.1≠tt then[(⟨2,(Lw.dX c.f c.E c.H aI q).2.1,tt,0,0,[]⟩,-1)]else[])++[(⟨5,0,0,0,0,[]⟩,(Lw.dX c.f c.E c.H aI q).1)]):List (Ln×Int))=_;rw[hl]};clear c3 k3 k4 c5 c6 c7 c8 sW sZ k2 m0 pG hA2 hW1 hW2 hty hF2;clear hl hlow;go_wp2_with fail;refine hL.mono ?_;rintro e X0 ⟨rfl,hBL⟩;dsimp only;have K0:=K2.kept hBL;have vG:=F0.trans (FX.below (c:=c) (v:=v) (vg:=vg) hBL);clear hL K2 F0 hBL s0 s1;by_cases h3:l3=1;{subst h3;by_cases h2:l2=tt;{replace HST:Hid (Lw.step c.fs c.f c.E c.O c.H aI=[(⟨5,0,0,0,0,[]⟩,l1)]):=by{show _=_;rw[HST.out,ax (fun h=>h.2 h2)];rfl};subst h2;go_wp2_with fail;refine(aL c W0 X0 v vg (out) P hW K0 ⟨5,0,0,0,0,[]⟩ none 0 0 (OI.nil _ _) (fun g e=>by cases e) (l1) (by omega)).mono ?_;rintro e X1 ⟨v1,iB,rfl,K1,F1⟩;dsimp only;have G1:=vG.trans F1;clear K0 F1 vG;go_wp2;(try simp only[Exit.inBlock,Exit.then]);refine bodyPost_end (results_none rfl _ _ _) rfl ⟨v1,iB,rfl,?_,G1⟩;rw[HST.out];refine MK.eX ?_ (fun g h=> .inl h);simpa[List.append_assoc]using K1};replace HST:Hid (Lw.step c.fs c.f c.E c.O c.H aI=[(⟨2,l2,tt,0,0,[]⟩,-1),(⟨5,0,0,0,0,[]⟩,l1)]):=by{show _=_;rw[HST.out,ay ⟨rfl,h2⟩];rfl};go_wp2_with fail;refine(aL c W0 X0 v vg (out) P hW K0 ⟨2,l2,tt,0,0,[]⟩ none 0 0 (OI.nil _ _) (fun g e=>by cases e) (-1) (by omega)).mono ?_;rintro e X1 ⟨v1,iB,rfl,K1,F1⟩;dsimp only;have G1:=vG.trans F1;clear K0 F1 vG;go_wp2_with fail;refine(aL c W0 X1 v1 iB (out++[(⟨2,l2,tt,0,0,[]⟩,(-1))]) P hW K1 ⟨5,0,0,0,0,[]⟩ none 0 0 (OI.nil _ _) (fun g e=>by cases e) (l1) (by simp only[List.length_append,List.length_singleton];omega)).mono ?_;rintro e X2 ⟨v2,vE,rfl,K2,F2⟩;dsimp only;have G2:=G1.trans F2;clear K1 F2 G1;go_wp2;(try simp only[Exit.inBlock,Exit.then]);refine bodyPost_end (results_none rfl _ _ _) rfl ⟨v2,vE,rfl,?_,G2⟩;rw[HST.out];refine MK.eX ?_ (fun g h=> .inl h);simpa[List.append_assoc]using K2};replace HST:Hid (Lw.step c.fs c.f c.E c.O c.H aI=[(⟨5,0,0,0,0,[]⟩,l1)]):=by{show _=_;rw[HST.out,ax (fun h=>h3 h.1)];rfl};have h3e:(l3==1)=false:=by{simpa using h3};go_wp2_with fail;refine(aL c W0 X0 v vg (out) P hW K0 ⟨5,0,0,0,0,[]⟩ none 0 0 (OI.nil _ _) (fun g e=>by cases e) (l1) (by omega)).mono ?_;rintro e X1 ⟨v1,iB,rfl,K1,F1⟩;dsimp only;have G1:=vG.trans F1;clear K0 F1 vG;go_wp2;(try simp only[Exit.inBlock,Exit.then]);refine bodyPost_end (results_none rfl _ _ _) rfl ⟨v1,iB,rfl,?_,G1⟩;rw[HST.out];refine MK.eX ?_ (fun g h=> .inl h);simpa[List.append_assoc]using K1};{have hlow:∀t:Nat,(99:Int).toNat<(aG.cK c.f.b c.E aI aI).length->(aG.cK c.f.b c.E aI aI).getD (99:Int).toNat (-1)=(t:Int)->0<=c.H.getD t 0:=fun t h=>by{have:=aG.qI c.f.b c.E aI aI;have e:(99:Int).toNat=99:=rfl;omega};have hL:=iV T K2 aI (by rw[HQ.out.2.2.1];exact hat) 99 (by omega) (by omega) hlow;obtain⟨⟨l1,l2,l3⟩,hl⟩:∃l,Lw.dX c.f c.E c.H aI 99=l:=⟨_,rfl⟩;rw[hl]at hL;replace HST:Hid (Lw.step c.fs c.f c.E c.O c.H aI=(if l3=1/\l2≠tt then[(⟨2,l2,tt,0,0,[]⟩,-1)]else[])++[(⟨5,0,0,0,0,[]⟩,l1)]):=by{show _=_;rw[HST.out];show(((if(Lw.dX c.f c.E c.H aI 99).2.2=1/\(Lw.dX c.f c.E c.H aI 99).2.1≠tt then[(⟨2,(Lw.dX c.f c.E c.H aI 99).2.1,tt,0,0,[]⟩,-1)]else[])++[(⟨5,0,0,0,0,[]⟩,(Lw.dX c.f c.E c.H aI 99).1)]):List (Ln×Int))=_;rw[hl]};clear c3 k3 k4 c5 c6 c7 c8 sW sZ k2 m0 pG hA2 hW1 hW2 hty hF2;clear hl hlow;go_wp2_with fail;refine hL.mono ?_;rintro e X0 ⟨rfl,hBL⟩;dsimp only;have K0:=K2.kept hBL;have vG:=F0.trans (FX.below (c:=c) (v:=v) (vg:=vg) hBL);clear hL K2 F0 hBL s0 s1;by_cases h3:l3=1;{subst h3;by_cases h2:l2=tt;{replace HST:Hid (Lw.step c.fs c.f c.E c.O c.H aI=[(⟨5,0,0,0,0,[]⟩,l1)]):=by{show _=_;rw[HST.out,ax (fun h=>h.2 h2)];rfl};subst h2;go_wp2_with fail;refine(aL c W0 X0 v vg (out) P hW K0 ⟨5,0,0,0,0,[]⟩ none 0 0 (OI.nil _ _) (fun g e=>by cases e) (l1) (by omega)).mono ?_;rintro e X1 ⟨v1,iB,rfl,K1,F1⟩;dsimp only;have G1:=vG.trans F1;clear K0 F1 vG;go_wp2;(try simp only[Exit.inBlock,Exit.then]);refine bodyPost_end (results_none rfl _ _ _) rfl ⟨v1,iB,rfl,?_,G1⟩;rw[HST.out];refine MK.eX ?_ (fun g h=> .inl h);simpa[List.append_assoc]using K1};replace HST:Hid (Lw.step c.fs c.f c.E c.O c.H aI=[(⟨2,l2,tt,0,0,[]⟩,-1),(⟨5,0,0,0,0,[]⟩,l1)]):=by{show _=_;rw[HST.out,ay ⟨rfl,h2⟩];rfl};go_wp2_with fail;refine(aL c W0 X0 v vg (out) P hW K0 ⟨2,l2,tt,0,0,[]⟩ none 0 0 (OI.nil _ _) (fun g e=>by cases e) (-1) (by omega)).mono ?_;rintro e X1 ⟨v1,iB,rfl,K1,F1⟩;dsimp only;have G1:=vG.trans F1;clear K0 F1 vG;go_wp2_with fail;refine(aL c W0 X1 v1 iB (out++[(⟨2,l2,tt,0,0,[]⟩,(-1))]) P hW K1 ⟨5,0,0,0,0,[]⟩ none 0 0 (OI.nil _ _) (fun g e=>by cases e) (l1) (by simp only[List.length_append,List.length_singleton];omega)).mono ?_;rintro e X2 ⟨v2,vE,rfl,K2,F2⟩;dsimp only;have G2:=G1.trans F2;clear K1 F2 G1;go_wp2;(try simp only[Exit.inBlock,Exit.then]);refine bodyPost_end (results_none rfl _ _ _) rfl ⟨v2,vE,rfl,?_,G2⟩;rw[HST.out];refine MK.eX ?_ (fun g h=> .inl h);simpa[List.append_assoc]using K2};replace HST:Hid (Lw.step c.fs c.f c.E c.O c.H aI=[(⟨5,0,0,0,0,[]⟩,l1)]):=by{show _=_;rw[HST.out,ax (fun h=>h3 h.1)];rfl};have h3e:(l3==1)=false:=by{simpa using h3};go_wp2_with fail;refine(aL c W0 X0 v vg (out) P hW K0 ⟨5,0,0,0,0,[]⟩ none 0 0 (OI.nil _ _) (fun g e=>by cases e) (l1) (by omega)).mono ?_;rintro e X1 ⟨v1,iB,rfl,K1,F1⟩;dsimp only;have G1:=vG.trans F1;clear K0 F1 vG;go_wp2;(try simp only[Exit.inBlock,Exit.then]);refine bodyPost_end (results_none rfl _ _ _) rfl ⟨v1,iB,rfl,?_,G1⟩;rw[HST.out];refine MK.eX ?_ (fun g h=> .inl h);simpa[List.append_assoc]using K1};have hq9:0<=q/\q<=9:=by{have:=Lw.El T (aI:=aI) (by rw[HQ.out.2.2.1];exact hat) (by rw[HQ.out.1];omega);rw[HQ.out.2.1]at this;exact this};have hlow:=Lw.low (HQ.out.2.2.2.2.jif HQ.out.1);rw[HQ.out.2.1]at hlow;have hL:=iV T K2 aI (by rw[HQ.out.2.2.1];exact hat) q (by omega) (by omega) hlow;obtain⟨⟨l1,l2,l3⟩,hl⟩:∃l,Lw.dX c.f c.E c.H aI q=l:=⟨_,rfl⟩;rw[hl]at hL;replace HST:Hid (Lw.step c.fs c.f c.E c.O c.H aI=if l3=1/\l2≠tt-1 then[(⟨4,tt,tt,0,0,[]⟩,-1),(⟨6,0,tt,0,0,[]⟩,(aI:Int)+1),(⟨2,l2,tt-1,0,0,[]⟩,-1),(⟨5,0,0,0,0,[]⟩,l1)]else[(⟨6,0,tt,0,0,[]⟩,l1)]):=by{show _=_;rw[HST.out];show((if(Lw.dX c.f c.E c.H aI q).2.2=1/\(Lw.dX c.f c.E c.H aI q).2.1≠tt-1 then[(⟨4,tt,tt,0,0,[]⟩,-1),(⟨6,0,tt,0,0,[]⟩,(aI:Int)+1),(⟨2,(Lw.dX c.f c.E c.H aI q).2.1,tt-1,0,0,[]⟩,-1),(⟨5,0,0,0,0,[]⟩,(Lw.dX c.f c.E c.H aI q).1)]else[(⟨6,0,tt,0,0,[]⟩,(Lw.dX c.f c.E c.H aI q).1)]):List (Ln×Int))=_;rw[hl]};clear c3 k3 k4 c5 c6 c7 c8 sW sZ k2 m0 pG hA2 hW1 hW2 hty hF2;clear hl hlow;go_wp2_with fail;refine hL.mono ?_;rintro e X0 ⟨rfl,hBL⟩;dsimp only;have K0:=K2.kept hBL;have vG:=F0.trans (FX.below (c:=c) (v:=v) (vg:=vg) hBL);clear hL K2 F0 hBL s0 s1;by_cases h3:l3=1;{subst h3;by_cases h2:l2=tt-1;{replace HST:Hid (Lw.step c.fs c.f c.E c.O c.H aI=[(⟨6,0,tt,0,0,[]⟩,l1)]):=by{show _=_;rw[HST.out,ax (fun h=>h.2 h2)]};subst h2;go_wp2_with fail;refine(aL c W0 X0 v vg (out) P hW K0 ⟨6,0,tt,0,0,[]⟩ none 0 0 (OI.nil _ _) (fun g e=>by cases e) (l1) (by omega)).mono ?_;rintro e X1 ⟨v1,iB,rfl,K1,F1⟩;dsimp only;have G1:=vG.trans F1;clear K0 F1 vG;go_wp2;(try simp only[Exit.inBlock,Exit.then]);refine bodyPost_end (results_none rfl _ _ _) rfl ⟨v1,iB,rfl,?_,G1⟩;rw[HST.out];refine MK.eX ?_ (fun g h=> .inl h);simpa[List.append_assoc]using K1};replace HST:Hid (Lw.step c.fs c.f c.E c.O c.H aI=[(⟨4,tt,tt,0,0,[]⟩,-1),(⟨6,0,tt,0,0,[]⟩,(aI:Int)+1),(⟨2,l2,tt-1,0,0,[]⟩,-1),(⟨5,0,0,0,0,[]⟩,l1)]):=by{show _=_;rw[HST.out,ay ⟨rfl,h2⟩]};go_wp2_with fail;refine(aL c W0 X0 v vg (out) P hW K0 ⟨4,tt,tt,0,0,[]⟩ none 0 0 (OI.nil _ _) (fun g e=>by cases e) (-1) (by omega)).mono ?_;rintro e X1 ⟨v1,iB,rfl,K1,F1⟩;dsimp only;have G1:=vG.trans F1;clear K0 F1 vG;go_wp2_with fail;refine(aL c W0 X1 v1 iB (out++[(⟨4,tt,tt,0,0,[]⟩,(-1))]) P hW K1 ⟨6,0,tt,0,0,[]⟩ none 0 0 (OI.nil _ _) (fun g e=>by cases e) ((aI:Int)+1) (by simp only[List.length_append,List.length_singleton];omega)).mono ?_;rintro e X2 ⟨v2,vE,rfl,K2,F2⟩;dsimp only;have G2:=G1.trans F2;clear K1 F2 G1;go_wp2_with fail;refine(aL c W0 X2 v2 vE (out++[(⟨4,tt,tt,0,0,[]⟩,(-1))]++[(⟨6,0,tt,0,0,[]⟩,((aI:Int)+1))]) P hW K2 ⟨2,l2,tt-1,0,0,[]⟩ none 0 0 (OI.nil _ _) (fun g e=>by cases e) (-1) (by simp only[List.length_append,List.length_singleton];omega)).mono ?_;rintro e X3 ⟨v3,Tm,rfl,K3,F3⟩;dsimp only;have G3:=G2.trans F3;clear K2 F3 G2;go_wp2_with fail;refine(aL c W0 X3 v3 Tm (out++[(⟨4,tt,tt,0,0,[]⟩,(-1))]++[(⟨6,0,tt,0,0,[]⟩,((aI:Int)+1))]++[(⟨2,l2,tt-1,0,0,[]⟩,(-1))]) P hW K3 ⟨5,0,0,0,0,[]⟩ none 0 0 (OI.nil _ _) (fun g e=>by cases e) (l1) (by simp only[List.length_append,List.length_singleton];omega)).mono ?_;rintro e X4 ⟨v4,vg4,rfl,K4,F4⟩;dsimp only;have G4:=G3.trans F4;clear K3 F4 G3;go_wp2;(try simp only[Exit.inBlock,Exit.then]);refine bodyPost_ret (results_none rfl _ _ _) rfl ⟨v4,vg4,rfl,?_,G4⟩;rw[HST.out];refine MK.eX ?_ (fun g h=> .inl h);simpa[List.append_assoc]using K4};replace HST:Hid (Lw.step c.fs c.f c.E c.O c.H aI=[(⟨6,0,tt,0,0,[]⟩,l1)]):=by{show _=_;rw[HST.out,ax (fun h=>h3 h.1)]};have h3e:(l3==1)=false:=by{simpa using h3};go_wp2_with fail;refine(aL c W0 X0 v vg (out) P hW K0 ⟨6,0,tt,0,0,[]⟩ none 0 0 (OI.nil _ _) (fun g e=>by cases e) (l1) (by omega)).mono ?_;rintro e X1 ⟨v1,iB,rfl,K1,F1⟩;dsimp only;have G1:=vG.trans F1;clear K0 F1 vG;go_wp2;(try simp only[Exit.inBlock,Exit.then]);refine bodyPost_end (results_none rfl _ _ _) rfl ⟨v1,iB,rfl,?_,G1⟩;rw[HST.out];refine MK.eX ?_ (fun g h=> .inl h);simpa[List.append_assoc]using K1
theorem Lw.ED {c:LX}{W0:World}(T:TX c W0){aI:Nat}(hat:aI<c.f.b.length)(h:aG.op c.f.b aI=16):0<=Hg.arg c.f.b aI:=by have hok:St.ok (aG.op c.f.b aI) (Hg.arg c.f.b aI)=true:=St.bu T.all hat;simp only[St.ok,au,Wd.dh]at hok;have h1:St.least (aG.op c.f.b aI)=0:=by{rw[h];rfl};omega
def Lw.gI (t n:Int)(k:Nat):List Int:=(List.range k).map fun(i:Nat)=>t-n+1+(i:Int)
theorem Lw.xZ (t n:Int)(k:Nat):Lw.gI t n (k+1)=Lw.gI t n k++[t-n+1+(k:Int)]:=by unfold Lw.gI;rw[List.range_succ,List.map_append];rfl
theorem Kz {W:World}{a:Option Addr}{n k:Nat}{fs:List Fn}(h:FL W a n fs)(hk:k<n):∃b off,a=some ⟨b,off,none⟩/\b<W.heap.size/\∃ba bl bc,W.cell? ⟨b,off+k*4,none⟩=some (.int .i64 (fs.getD k .z).a)/\W.cell? ⟨b,off+k*4+1,none⟩=some (.int .i64 (fs.getD k .z).l)/\W.cell? ⟨b,off+k*4+2,none⟩=some (.int .i64 (fs.getD k .z).g)/\W.cell? ⟨b,off+k*4+3,none⟩=some (.slice ba bl bc):=by obtain⟨hl,hm,h0|⟨b,off,e,hb,hx⟩⟩:=h;{omega};obtain⟨x0,x1,x2,ba,bl,bc,x3,-⟩:=hx k hk;exact⟨b,off,e,hb,ba,bl,bc,x0,x1,x2,x3⟩
theorem OM {c:LX} {W0 W:World} {v vg:Value} {out:List (Ln×Int)} {P:Nat->Prop} (T:TX c W0) (K:MK c W0 W v vg out P) (fa:Option Addr) (fl fc:Nat) (d:ByteArray) (oa:Option Addr) (oc:Nat) (hF:FL W0 fa fl c.fs) (hO:IL W0 oa c.f.b.length c.O) (aI:Nat) (hat:aI<c.f.b.length) (hr:0<=c.H.getD aI 0) (hlen:out.length<=900) (p:Int) (hp:aG.op c.f.b aI=p) (hk:Hid (p=16)):Calls Tryz.prog 104 #[.pointer (some ⟨c.B,0,none⟩), .agg #[.slice fa fl fc, .string d], .slice oa c.f.b.length oc, .int .i64 aI] W fun e w'=>∃v' l6,e= .returned (.tuple #[])/\MK c W0 w' v' l6 (out++Lw.step c.fs c.f c.E c.O c.H aI) (fun g=>P g\/W.heap.size<=g)/\FX c v vg v' l6 W w':=by
 have hty:=T.acc.typ aI hat hr
 obtain⟨hH,hE,hS⟩:=T.il K
 have Gw:=hO.kept K.eY
 have hF1:=hF.kept K.eY
 have hLen:=T.ok.2.2.2.2.2
 have htop:=T.acc.jR aI hat
 have hW:=T.lt
 have hwd:0<=Lw.wd c.f/\Lw.wd c.f<=6:=by have:=T.ok;unfold Lw.wd;omega
 have HST:Hid (Lw.step c.fs c.f c.E c.O c.H aI=Lw.ic c.fs c.f c.E c.O c.H aI p (Hg.arg c.f.b aI) (Lw.bx c.f (c.H.getD aI 0-1))):=by show _=_;unfold Lw.step;rw[hp]
 have hbx0:=K.box
 unfold LX.eG at hbx0
 obtain⟨bl,hbl⟩:∃n,c.f.b.length=n:=⟨_,rfl⟩
 rw[hbl]at hH hE hS Gw hLen hat hbx0 ⊢
 have Tj:(aI:Int)<(bl:Int):=by omega
 have cS:∃b o,c.ba=some ⟨b,o,none⟩/\b<W.heap.size/\W.cell? ⟨b,o+aI*2,none⟩=some (.int .i64 (aG.op c.f.b aI))/\W.cell? ⟨b,o+aI*2+1,none⟩=some (.int .i64 (Hg.arg c.f.b aI)):=by obtain⟨hl,-,h3|⟨b,o,e,hb,hh⟩⟩:=hS;{omega};exact⟨b,o,e,hb,(hh aI hat).1,(hh aI hat).2⟩
 obtain⟨sb,so,es,lS,DX,cS2⟩:=cS
 have cH:∃b o,c.ha=some ⟨b,o,none⟩/\b<W.heap.size/\W.cell? ⟨b,o+aI,none⟩=some (.int .i64 (c.H.getD aI 0)):=by obtain⟨hl,-,h3|⟨b,o,e,hb,hh⟩⟩:=hH;{omega};exact⟨b,o,e,hb,hh aI hat⟩
 obtain⟨hb',ho',eh,lH,cH⟩:=cH
 have cE:∃b o,c.ea=some ⟨b,o,none⟩/\b<W.heap.size/\W.cell? ⟨b,o+aI,none⟩=some (.int .i64 (aG.aU c.E aI)):=by obtain⟨hl,-,h3|⟨b,o,e,hb,hh⟩⟩:=hE;{omega};refine⟨b,o,e,hb,?_⟩;rw[hh aI hat];unfold aG.aU;rw[ah,ah,ai (by omega)];rfl
 obtain⟨eb,eo,ee,lE,cE⟩:=cE
 have cO:∃b o,oa=some ⟨b,o,none⟩/\b<W.heap.size/\W.cell? ⟨b,o+aI,none⟩=some (.int .i64 (aG.aU c.O aI)):=by obtain⟨hl,-,h3|⟨b,o,e,hb,hh⟩⟩:=Gw;{omega};refine⟨b,o,e,hb,?_⟩;rw[hh aI hat];unfold aG.aU;rw[ah,ah,ai (by omega)];rfl
 obtain⟨ob,oo,rfl,lO,cO⟩:=cO
 rw[hp]at DX
 obtain⟨q,hq⟩:∃q,Hg.arg c.f.b aI=q:=⟨_,rfl⟩
 obtain⟨u,hu⟩:∃u,c.H.getD aI 0=u:=⟨_,rfl⟩
 rw[hq]at cS2 HST
 rw[hu]at cH htop hr HST
 have d2:=(hbx0.2 2 _ rfl).1
 have d3:=(hbx0.2 3 _ rfl).1
 have d4:=(hbx0.2 4 _ rfl).1
 have d5:=(hbx0.2 5 _ rfl).1
 have Gv:=hbx0.1
 rw[eh]at d3
 rw[ee]at d4
 rw[es]at d5
 have hB1:=aA W (.cells #[.slice fa fl fc, .string d] 84)
 have hA1:gY (W.alloc (.cells #[.slice fa fl fc, .string d] 84)) W.heap.size 84 [.slice fa fl fc, .string d]:=heap_alloc_last W _
 obtain⟨W1,hW1⟩:∃X,W.alloc (.cells #[.slice fa fl fc, .string d] 84)=X:=⟨_,rfl⟩
 rw[hW1]at hB1 hA1
 have hB2:=aA W1 (.cells #[.int .i64 (p), .int .i64 q] 127)
 have hA2:gY (W1.alloc (.cells #[.int .i64 (p), .int .i64 q] 127)) W1.heap.size 127 [.int .i64 (p), .int .i64 q]:=heap_alloc_last W1 _
 obtain⟨W2,hW2⟩:∃X,W1.alloc (.cells #[.int .i64 (p), .int .i64 q] 127)=X:=⟨_,rfl⟩
 rw[hW2]at hB2 hA2
 have hB:=hB1.trans (hB2.mono hB1.size)
 have K2:=K.kept hB
 have pG:=hA1.kept hB2
 have hcon:=iG T K2 (u-1) (by omega) (by omega)
 have Tk:-1<=Lw.bx c.f (u-1)/\Lw.bx c.f (u-1)<=26:=by unfold Lw.bx;omega
 obtain⟨tt,zG⟩:∃tt,Lw.bx c.f (u-1)=tt:=⟨_,rfl⟩
 rw[zG]at hcon Tk HST
 have c3:=aO hB1 d3
 have k3:=aO hB d3
 have k4:=aO hB d4
 have c5:=aO hB1 d5
 have c6:=aO hB1 DX
 have c7:=aO hB1 cS2
 have c8:=aO hB cH
 have sW:=aO hB cE
 have sZ:=aO hB cO
 have k2:=aO hB d2
 have s0:=hA2.cell (j:=0) rfl
 have s1:=hA2.cell (j:=1) rfl
 have m0:=pG.cell (j:=0) rfl
 have F0:FX c v vg v vg W W2:=FX.below hB
 have hF2:=hF1.kept hB
 have HQ:=ae (ak hp (ak hq (ak hbl (ak hu hty))))
 clear hH hE hS hO Gw hF hF1 d2 d3 d4 d5 DX cS2 cH cE cO hbx0 hA1 hB1 hB2 K hu zG hp hq hbl
 go_enter Tryz.func104,Tryz.ntmps104
 go_wp2_with fail
 refine hcon.mono ?_
 rintro e w3 ⟨rfl,aZ⟩
 subst w3
 dsimp only
 clear hcon
 obtain rfl:=hk.out
 have hq0:0<=q:=by have:=Lw.ED T (aI:=aI) (by rw[HQ.out.2.2.1];exact hat) HQ.out.1;rw[HQ.out.2.1]at this;exact this
 have hq1:q<c.fs.length:=by have:=HQ.out.2.2.2.2.call HQ.out.1;rw[HQ.out.2.1]at this;exact this
 have hfl:c.fs.length=fl:=hF2.1
 obtain⟨qn,rfl⟩:=Int.eq_ofNat_of_zero_le hq0
 have hqn:qn<fl:=by omega
 have hqZ:(qn:Int)<(fl:Int):=by omega
 obtain⟨fb,fo,rfl,lF,Vb,Vd,Ve,y0,y1,y2,y3⟩:=Kz hF2 hqn
 have Gx:=Mn.JN T.val (k:=qn) (by omega)
 have ae4:fl<=4:=by have:=T.val.len.2;omega
 unfold Mn.fn at Gx
 obtain⟨G,hG⟩:∃G,c.fs.getD qn .z=G:=⟨_,rfl⟩
 rw[hG]at Gx y0 y1 y2
 replace HST:Hid (Lw.step c.fs c.f c.E c.O c.H aI=[(⟨7,if G.g=1 then tt-G.a+1 else Lw.wd c.f+20,0,0,qn,Lw.args tt G.a⟩,-1)]):=by show _=_;rw[HST.out];show[((⟨7,if(c.fs.getD (qn:Int).toNat .z).g=1 then _ else _,0,0,_,Lw.args tt (c.fs.getD (qn:Int).toNat .z).a⟩:Ln),(-1:Int))]=_;rw[az,hG]
 obtain⟨ga,hga⟩:∃ga:Nat,G.a=(ga:Int):=Int.eq_ofNat_of_zero_le Gx.1
 have ae5:ga<=3:=by omega
 obtain⟨gg,hgg⟩:∃gg,G.g=gg:=⟨_,rfl⟩
 have Jg:gg=0\/gg=1:=by rw[←hgg];exact Gx.2.2.2.2.1
 obtain⟨gl,hgl⟩:∃gl,G.l=gl:=⟨_,rfl⟩
 have HAR:Hid (Lw.args tt G.a=Lw.gI tt ga ga):=by show _=_;rw[hga];rfl
 rw[hga]at y0 HST HAR
 rw[hgg]at y2 HST
 rw[hgl]at y1
 obtain⟨Mr,Tn⟩:∃Mr,Lw.wd c.f=Mr:=⟨_,rfl⟩
 rw[Tn]at k2 hwd HST
 have hBG:=aA W2 (.cells #[.int .i64 (ga:Int), .int .i64 gl, .int .i64 gg, .slice Vb Vd Ve] 120)
 have hAG:gY (W2.alloc (.cells #[.int .i64 (ga:Int), .int .i64 gl, .int .i64 gg, .slice Vb Vd Ve] 120)) W2.heap.size 120 [.int .i64 (ga:Int), .int .i64 gl, .int .i64 gg, .slice Vb Vd Ve]:=heap_alloc_last W2 _
 obtain⟨W3,hW3⟩:∃X,W2.alloc (.cells #[.int .i64 (ga:Int), .int .i64 gl, .int .i64 gg, .slice Vb Vd Ve] 120)=X:=⟨_,rfl⟩
 rw[hW3]at hBG hAG
 have j2:=aO hBG k2
 have t1:=aO hBG s1
 have hlB:c.B<W3.heap.size:=aj K2.sz hBG.size
 have hlS:=(hA2.kept hBG).lt
 have HKK:=ae (ak (K2.kept hBG) (ak (F0.trans (FX.below (c:=c) (v:=v) (vg:=vg) hBG)) hAG))
 clear c3 k3 k4 c5 c6 c7 c8 sW sZ pG hW1 hW2 hty hF2 hG hga hgg hgl Tn Gx hfl K2 F0 hB hA2
 go_wp2
 go_region
 all_goals
  clear j2 t1 y0 y1 y2 y3 k2 s0 s1 m0
  have Mt:=aA W3 (.cells #[.int .i64 7, .int .i64 (Mr+20), .int .i64 0, .int .i64 0, .int .i64 qn, .slice none 0 0] 59)
  have hBL:=Mt.trans ((Below.refl _ _).drew.mono Mt.size)
  have hAL:gY (W3.alloc (.cells #[.int .i64 7, .int .i64 (Mr+20), .int .i64 0, .int .i64 0, .int .i64 qn, .slice none 0 0] 59)).drew W3.heap.size 59 [.int .i64 7, .int .i64 (Mr+20), .int .i64 0, .int .i64 0, .int .i64 qn, .slice none 0 0]:=heap_alloc_last W3 _
  obtain⟨i0,hi,hz0,hz1,hz2⟩:=info_parts bU
  have HS:=ae (ak hAL hBL)
  clear Mt hAL hBL hW3
  go_wp2
  go_loopw [20] (fun vi wr=>∃(k:Nat)(lv:Value),vi= .int .i64 k/\k<=ga/\gY wr W3.heap.size 59 [.int .i64 7, .int .i64 (Mr+20), .int .i64 0, .int .i64 0, .int .i64 qn,lv]/\OI wr (W3.heap.size+1) lv (Lw.gI tt ga k)/\Below W3.heap.size W3 wr) (fun i _=>ga-(intOf i).toNat)
  case atStart=>exact⟨0,_,rfl,Nat.zero_le _,HS.out.1,OI.nil _ _,HS.out.2⟩
  case round=>
   obtain⟨k,lv,rfl,hk,hAr,hol,hBr⟩:=hrel
   clear HS
   have Vf:=HKK.out.2.2.kept hBr
   have g0:=Vf.cell (j:=0) rfl
   have g2:=Vf.cell (j:=2) rfl
   have hll:(Lw.gI tt ga k).length=k:=by unfold Lw.gI;simp
   have DY:wr.ownsRow (W3.heap.size+1) 2 1 lv k ((Lw.gI tt ga k).map iv):=by unfold OI at hol;rwa [hll]at hol
   obtain⟨la,lc,rfl⟩:=dE DY
   have DZ:∀g,(Value.slice la k lc).ownBlock=some g->W3.heap.size+1<=g:=fun g hg=>(bO DY hg).1
   have a5:=hAr.cell (j:=5) rfl
   have al:=hAr.lt
   by_cases hlt:k<ga
   · have bE:(k:Int)<(ga:Int):=by{omega};obtain⟨y,hy⟩:∃y,tt-(ga:Int)+1+(k:Int)=y:=⟨_,rfl⟩;have HY:=ae hy;clear hy;have nN:=aA wr (.cells #[.int .i64 (tt-(ga:Int)+1+(k:Int))] 2);have HO:=ae (aH DY nN);have HA:=ae (hAr.kept nN);have HBr:=ae (hBr.trans (nN.mono hBr.size));have aar:=hBr.size;clear nN hol DY hAr hBr Vf hll;go_wp2_with(at_builtin;refine wpList_append_own _ rfl _ _ 26 rfl (W3.heap.size+1) 2 i0 (.int .i64 0) 1 8 Tryz.underlying26 hi hz0 hz1 hz2 rfl (by decide) (.slice la k lc) k _ rfl HO.out ⟨wr.heap.size,0,none⟩ 1 1 [.int .i64 (tt-(ga:Int)+1+(k:Int))] rfl rfl (cell_one_new _ _ _) (by simp[Value.oneCell']) (by simp only[maxLen];omega) (by omega) (by simp;omega) ?_;intro v2 wB hown2 hgrow2 _;obtain⟨g2',cap2,rfl⟩:=ownsRow_succ hown2;have hA3:=HA.out.bS hgrow2 (fun e=>by have:=DZ W3.heap.size e.symm;omega);have b5:=hA3.cell (j:=5) rfl;have f5:=hA3.frozen 5;have l5:=hA3.lt;have jP:=ae (ak hown2 (ak hgrow2 hA3));clear hown2 hgrow2 hA3);go_roundw;(case rel=>obtain⟨o1,o2,o3⟩:=jP.out;have gs:=aF wB ⟨W3.heap.size,5,none⟩ (.slice (some ⟨g2',0,none⟩) (k+1) cap2);refine⟨k+1,_,by simp,hlt,o3.set 5 _,?_,?_⟩;{show World.ownsRow _ _ _ _ _ _ _;rw[Lw.xZ,List.map_append,List.length_append,List.length_singleton,show(Lw.gI tt ga k).length=k by unfold Lw.gI;simp];exact dA o1 gs (fun g e=>by have:=(bO o1 e).1;simp only[ne_eq,af];omega)};exact dB (dB HBr.out o2 (fun g e=>by have:=DZ g e;omega)) gs (fun g e=>by cases e;exact Nat.le_refl _));case measure=>simp[intOf];omega
   · have hke:k=ga:=by omega
     subst hke
     have bE:¬(k:Int)<(k:Int):=by omega
     have HX:=ae (ak (HKK.out.1.kept hBr) (HKK.out.2.1.trans (FX.below (c:=c) (v:=v) (vg:=vg) hBr)))
     have HBr:=ae hBr
     have Vg:=ae DY
     have HAr:=ae hAr
     have a0:=hAr.cell (j:=0) rfl
     have a1:=hAr.cell (j:=1) rfl
     have a2:=hAr.cell (j:=2) rfl
     have a3:=hAr.cell (j:=3) rfl
     have a4:=hAr.cell (j:=4) rfl
     have q1:=hAr.frozen 1
     have hKs:=HKK.out.1.zF
     have Tp:∀g,vg.ownBlock=some g->g<W3.heap.size:=fun g e=>(bO hKs e).2
     have hB3:c.B+1<=W3.heap.size:=HKK.out.1.sz
     have hWW:=HKK.out.2.1.size
     clear hol DY hAr hBr Vf hKs
     rcases Jg with rfl|rfl
     · have hadd:=aL c W0 wr v vg out (fun g=>P g\/W.heap.size<=g) hW (HX.out.1.eX (fun g h=> .inl h)) ⟨7,Mr+20,0,0,qn,Lw.gI tt k k⟩ la k lc (by
        show World.ownsRow _ _ _ _ _ _ _
        rw[hll]
        refine⟨Vg.out.1,?_⟩
        rcases Vg.out.2 with h'|⟨g',cap',cur,h',hb,r⟩
        · exact .inl h'
        · exact .inr ⟨g',cap',cur,h',by omega,r⟩) (fun g e=>⟨fun e2=>by have:=DZ g e;have:=Tp g e2;omega, .inr (by have:=DZ g e;omega)⟩) (-1) (by omega)
       go_wp2_with fail
       refine hadd.mono ?_
       rintro e X1 ⟨v1,iB,rfl,K1,F1⟩
       dsimp only
       have G1:=HX.out.2.trans F1
       clear hadd a0 a1 a2 a3 a4 a5 g0 g2
       go_wp2
       (try simp only[Exit.inBlock,Exit.then])
       refine bodyPost_end (results_none rfl _ _ _) rfl ⟨v1,iB,rfl,?_,G1⟩
       rw[HST.out,HAR.out]
       exact K1
     · have gs:=aF wr ⟨W3.heap.size,1,none⟩ (.int .i64 (tt-(k:Int)+1))
       have hAs:=HAr.out.set 1 (.int .i64 (tt-(k:Int)+1))
       have hBs:=dB HBr.out gs (fun g e=>by cases e;exact Nat.le_refl _)
       have hos:=dA Vg.out gs (fun g e=>by have:=(bO Vg.out e).1;simp only[ne_eq,af];omega)
       obtain⟨ws,hws⟩:∃ws,wr.setCell ⟨W3.heap.size,1,none⟩ (.int .i64 (tt-(k:Int)+1))=ws:=⟨_,rfl⟩
       rw[hws]at hAs hBs hos
       have b0:=hAs.cell (j:=0) rfl
       have b1:=hAs.cell (j:=1) rfl
       have b2:=hAs.cell (j:=2) rfl
       have b3:=hAs.cell (j:=3) rfl
       have b4:=hAs.cell (j:=4) rfl
       have b5:=hAs.cell (j:=5) rfl
       have hKx:=HKK.out.1.kept hBs
       have hFx:=HKK.out.2.1.trans (FX.below (c:=c) (v:=v) (vg:=vg) hBs)
       have hadd:=aL c W0 ws v vg out (fun g=>P g\/W.heap.size<=g) hW (hKx.eX (fun g h=> .inl h)) ⟨7,tt-(k:Int)+1,0,0,qn,Lw.gI tt k k⟩ la k lc (by
        show World.ownsRow _ _ _ _ _ _ _
        rw[hll]
        refine⟨hos.1,?_⟩
        rcases hos.2 with h'|⟨g',cap',cur,h',hb,r⟩
        · exact .inl h'
        · exact .inr ⟨g',cap',cur,h',by omega,r⟩) (fun g e=>⟨fun e2=>by have:=DZ g e;have:=Tp g e2;omega, .inr (by have:=DZ g e;omega)⟩) (-1) (by omega)
       go_wp2_with fail
       refine hadd.mono ?_
       rintro e X1 ⟨v1,iB,rfl,K1,F1⟩
       dsimp only
       have G1:=hFx.trans F1
       clear hadd a0 a1 a2 a3 a4 a5 g0 g2 b0 b1 b2 b3 b4 b5 hws
       go_wp2
       (try simp only[Exit.inBlock,Exit.then])
       refine bodyPost_end (results_none rfl _ _ _) rfl ⟨v1,iB,rfl,?_,G1⟩
       rw[HST.out,HAR.out]
       exact K1
theorem vV {c:LX}{W0 W:World}{v vg:Value}{out:List (Ln×Int)}{P:Nat->Prop}(T:TX c W0)(K:MK c W0 W v vg out P)(fa:Option Addr)(fl fc:Nat)(d:ByteArray)(oa:Option Addr)(oc:Nat)(hF:FL W0 fa fl c.fs)(hO:IL W0 oa c.f.b.length c.O)(aI:Nat)(hat:aI<c.f.b.length)(hr:0<=c.H.getD aI 0)(hlen:out.length<=900):Calls Tryz.prog 104 #[.pointer (some ⟨c.B,0,none⟩), .agg #[.slice fa fl fc, .string d], .slice oa c.f.b.length oc, .int .i64 aI] W fun e w'=>∃v' l6,e= .returned (.tuple #[])/\MK c W0 w' v' l6 (out++Lw.step c.fs c.f c.E c.O c.H aI) (fun g=>P g\/W.heap.size<=g)/\FX c v vg v' l6 W w':=by have hok:St.ok (aG.op c.f.b aI) (Hg.arg c.f.b aI)=true:=St.bu T.all hat;simp only[St.ok,au,Wd.dh]at hok;obtain⟨p,hp⟩:∃p,aG.op c.f.b aI=p:=⟨_,rfl⟩;rw[hp]at hok;have h3:(p=7\/p=8\/p=9\/p=12\/p=20\/p=1\/p=2\/p=3\/p=4\/p=5\/p=6\/p=17\/p=18\/p=19)\/(p=10\/p=11\/p=13\/p=15\/p=14)\/p=16:=by{omega};rcases h3 with h|h|h;{exact Ov T K fa fl fc d oa oc hF hO aI hat hr hlen p hp h};{exact Om T K fa fl fc d oa oc hF hO aI hat hr hlen p hp h};exact OM T K fa fl fc d oa oc hF hO aI hat hr hlen p hp h
namespace Lw
open Hg (arg)
theorem yN {fs:List Fn}{f:Fn}{E O H:List Int}(hA:Hg.Acc fs f E O H){n:Nat}(hn:n<f.b.length)(dp:Int):0<=(dX f E H n dp).1/\(dX f E H n dp).1<f.b.length:=by by_cases hlt:dp.toNat<(aG.cK f.b E n n).length;{obtain⟨t,et,htl,U8,-⟩:=aG.Bv hA.Te rfl hlt;rw[xg hlt (t:=t) et];have f3:=hA.Te.f3 t (by omega) (by omega);split;{exact⟨by simp only;omega,by simp only;omega⟩};split;{exact⟨by simp only;omega,by simp only;omega⟩};exact⟨by simp only;omega,by simp only;omega⟩};rw[Bw hlt];have:=hA.pos;exact⟨by simp only;omega,by simp only;omega⟩
theorem Dv {fs:List Fn}{f:Fn}{E O H:List Int}(hA:Hg.Acc fs f E O H){n:Nat}(hn:n<f.b.length)(hr:0<=H.getD n 0):∀x∈step fs f E O H n,-1<=x.2/\x.2<f.b.length:=by have hty:=hA.typ n hn hr;have hpos:=hA.pos;have one:∀(l:Ln)(x:Ln×Int),x∈[(l,(-1:Int))]->-1<=x.2/\x.2<f.b.length:=fun l x hx=>by{rw[List.mem_singleton]at hx;rw[hx];exact⟨Int.le_refl _,by simp only;omega⟩};intro x hx;unfold step ic at hx;obtain⟨p,hp⟩:∃p,aG.op f.b n=p:=⟨_,rfl⟩;rw[hp]at hx;by_cases h1:p=1;{rw[ay h1]at hx;exact one _ x hx};rw[ax h1]at hx;by_cases h2:p=2;{rw[ay h2]at hx;exact one _ x hx};rw[ax h2]at hx;by_cases h3:p=3\/p=4;{rw[ay h3]at hx;exact one _ x hx};rw[ax h3]at hx;by_cases h5:p=5;{rw[ay h5]at hx;exact one _ x hx};rw[ax h5]at hx;by_cases h6:p=6;{rw[ay h6]at hx;exact one _ x hx};rw[ax h6]at hx;by_cases h10:p=10;{rw[ay h10]at hx;have hi:=hty.iff (by rw[hp];exact h10);rcases List.mem_cons.1 hx with rfl|hx;{exact⟨Int.le_refl _,by simp only;omega⟩};rw[List.mem_singleton]at hx;rw[hx];simp only;split;{rcases hi with⟨-,a,-⟩|⟨a,-⟩;{omega};omega};rcases hi with⟨a,-⟩|⟨-,a,b,-⟩;{omega};omega};rw[ax h10]at hx;by_cases h11:p=11;{rw[ay h11]at hx;have hi:=hty.LF (by rw[hp];exact h11);rw[List.mem_singleton]at hx;rw[hx];simp only;omega};rw[ax h11]at hx;by_cases Pb:p=13\/p=15;{rw[ay Pb]at hx;have hg:=yN hA hn (if p=15 then 99 else arg f.b n);generalize dX f E H n (if p=15 then 99 else arg f.b n)=L at hx hg;simp only[List.mem_append,List.mem_singleton]at hx;rcases hx with hx|hx;{by_cases hc:L.2.2=1/\L.2.1≠bx f (H.getD n 0-1);{rw[ay hc]at hx;exact one _ x hx};rw[ax hc]at hx;cases hx};rw[hx];simp only;omega};rw[ax Pb]at hx;by_cases UW:p=14;{rw[ay UW]at hx;have hg:=yN hA hn (arg f.b n);have hnx:=hty.next (by omega) (by omega) (by omega) (by omega) (by omega);generalize dX f E H n (arg f.b n)=L at hx hg;simp only at hx;by_cases hc:L.2.2=1/\L.2.1≠bx f (H.getD n 0-1)-1;{rw[ay hc]at hx;rcases List.mem_cons.1 hx with rfl|hx;{exact⟨Int.le_refl _,by simp only;omega⟩};rcases List.mem_cons.1 hx with rfl|hx;{exact⟨by simp only;omega,by simp only;omega⟩};rcases List.mem_cons.1 hx with rfl|hx;{exact⟨Int.le_refl _,by simp only;omega⟩};rw[List.mem_singleton]at hx;rw[hx];simp only;omega};rw[ax hc,List.mem_singleton]at hx;rw[hx];simp only;omega};rw[ax UW]at hx;by_cases h16:p=16;{rw[ay h16]at hx;exact one _ x hx};rw[ax h16]at hx;by_cases V9:p=17;{rw[ay V9]at hx;exact one _ x hx};rw[ax V9]at hx;by_cases h18:p=18;{rw[ay h18]at hx;exact one _ x hx};rw[ax h18]at hx;by_cases h19:p=19;{rw[ay h19]at hx;exact one _ x hx};rw[ax h19]at hx;cases hx
theorem uL {fs:List Fn}{f:Fn}{E O H:List Int}(hA:Hg.Acc fs f E O H):∀n,n<=f.b.length->∀x∈(eD fs f E O H n).1,-1<=x.2/\x.2<f.b.length
 | 0,_,x,hx=>by
   unfold eD first at hx
   simp only[List.mem_map]at hx
   obtain⟨i,-,rfl⟩:=hx
   have:=hA.pos
   exact⟨Int.le_refl _,by simp only;omega⟩
 | n +1,hn,x,hx=>by
   unfold eD at hx
   simp only[List.mem_append]at hx
   rcases hx with hx|hx
   · exact uL hA n (by omega) x hx
   · split at hx
     · exact Dv hA (by omega) (by assumption) x hx
     · cases hx
theorem Fj {fs:List Fn}{f:Fn}{E O H:List Int}(hA:Hg.Acc fs f E O H):∀x∈raw fs f E O H,-1<=x.2/\x.2<f.b.length:=fun x hx=>by
 unfold raw at hx
 rcases List.mem_append.1 hx with hx|hx
 · exact uL hA _ (Nat.le_refl _) x hx
 · have:=hA.pos
   unfold last at hx
   split at hx
   · rcases List.mem_cons.1 hx with rfl|hx
     · exact⟨Int.le_refl _,by simp only;omega⟩
     · rw[List.mem_singleton]at hx
       rw[hx]
       exact⟨Int.le_refl _,by simp only;omega⟩
   · rw[List.mem_singleton]at hx
     rw[hx]
     exact⟨Int.le_refl _,by simp only;omega⟩
end Lw
theorem qW:∀(xs:List Lv)(k:Nat)(y:Int),k<xs.length->cZ (xs.set k ((xs.getD k eP).1,(xs.getD k eP).2.1,(xs.getD k eP).2.2.1,(xs.getD k eP).2.2.2.1,y,(xs.getD k eP).2.2.2.2.2))=(cZ xs).set (k*6+4) (.int .i64 y)
 |[],k,y,h=>by simp at h
 |x::xs,0,y,h=>rfl
 | x::xs,k+1,y,h=>by
   have ih:=qW xs k y (by simpa using h)
   have e:(x::xs).getD (k+1) eP=xs.getD k eP:=rfl
   rw[e,List.set_cons_succ,fG,ih,fG,show(k+1)*6+4=k*6+4+1+1+1+1+1+1 by omega]
   simp only[List.set_cons_succ]
section
structure LM (w:World)(R M D:Nat)(d:ByteArray)(B:Nat)(a:Option Addr)(len cap:Nat)(zs:List Int)(F nf cv:Nat)(W:World):Prop where
 ix:w.heap.size<=R/\R<M/\M<F/\F<D/\D<W.heap.size/\B<w.heap.size
 nb:0<nf/\nf<=3/\nf<=cv/\cv<=maxLen
 bR:bi W R [.slice none 0 0, .string ⟨#[]⟩]
 bM:bi W D [.slice (some ⟨F,0,none⟩) nf cv, .string d]
 fd:∀j,j<nf->xQ W M F j True
 fz:∀k,W.frozen? ⟨F,k,none⟩=false
 dr:aM w W B a len cap zs
variable {w W W' : World} {R M D : Nat} {d : ByteArray} {B : Nat} {a : Option Addr} {len cap : Nat} {zs : List Int} {F nf cv : Nat}
theorem LM.kb (h:LM w R M D d B a len cap zs F nf cv W)(hk:KB W.heap.size B W W')(hc:gG W' B a len cap zs):LM w R M D d B a len cap zs F nf cv W':=by have ix:=h.ix;have hs:=hk.size;have box:∀{b:Nat}{vs:List Value},bi W b vs->b≠B->bi W' b vs:=fun{b vs} hb hne=>by{have e:=hk.block b hb.1 hne;refine⟨by have:=hb.1;omega,fun i x hx=>?_⟩;obtain⟨h1,h2⟩:=hb.2 i x hx;exact⟨(World.cell?_of_block e).trans h1,(World.frozen?_of_block e).trans h2⟩};exact⟨by omega,h.nb,box h.bR (by omega),box h.bM (by omega),fun j hj=>(h.fd j hj).of hs (fun k a b=>hk.block k a (by omega)) (by omega) (by omega),fun k=>(World.frozen?_of_block (hk.block F (by omega) (by omega))).trans (h.fz k),hc,⟨hk.os.trans h.dr.2.os,hk.tape.trans h.dr.2.tape,hk.output.trans h.dr.2.output,Nat.le_trans h.dr.2.size hs,fun k h1 h2=>(hk.block k (by have:=h.dr.2.size;omega) (fun e=>h2 (by rw[e]))).trans (h.dr.2.block k h1 h2)⟩⟩
theorem LM.drawn (h:LM w R M D d B a len cap zs F nf cv W)(hd:aM W W' B a len cap zs):LM w R M D d B a len cap zs F nf cv W':=
 h.kb ⟨hd.2.os,hd.2.tape,hd.2.output,hd.2.size,fun k h1 h2=>hd.2.block k h1 (by simpa using h2)⟩ hd.1
theorem LM.kept (h:LM w R M D d B a len cap zs F nf cv W)(hB:Below W.heap.size W W'):LM w R M D d B a len cap zs F nf cv W':=
 h.kb (KB.below hB (Nat.le_refl _)) (h.dr.1.kept (row:=none) ⟨hB.os,hB.tape,hB.output,hB.size,fun k hk _=>hB.block k hk⟩ (by simp) (.inr (by simp)))
def V8 (W:World)(M F nf:Nat):Prop:=∀j,j<nf->xQ W M F j False
def FM (w:World)(B:Nat)(a:Option Addr)(len cap:Nat)(zs:List Int)(F nf cv:Nat)(W:World):Prop:=
 ∃M,w.heap.size<=M/\M<F/\F<W.heap.size/\(0<nf/\nf<=3/\nf<=cv/\cv<=maxLen)/\V8 W M F nf/\aM w W B a len cap zs
theorem xQ.eX {j:Nat}{f:Prop}(h:xQ W M F j f):xQ W M F j False:=by obtain⟨p,q,g,ba,bl,bc,xs,h0,h1,h2,h3,h4,h5,h6,h7⟩:=h;exact⟨p,q,g,ba,bl,bc,xs,h0,h1,h2,h3,h4,h5,h6,fun h=>h.elim⟩
structure CH (x:World)(B F j:Nat)(W:World):Prop where
 os:W.os=x.os
 tape:W.tape=x.tape
 output:W.output=x.output
 size:x.heap.size<=W.heap.size
 blk:∀k,k<x.heap.size->k≠B->k≠F->W.heap[k]?=x.heap[k]?
 cell:∀o,o≠j*4+1->o≠j*4+2->o≠j*4+3->W.cell? ⟨F,o,none⟩=x.cell? ⟨F,o,none⟩
 fz:∀o,W.frozen? ⟨F,o,none⟩=x.frozen? ⟨F,o,none⟩
theorem CH.kQ {x:World}{j:Nat}(hB:Below x.heap.size x W)(hF:F<x.heap.size):CH x B F j W:=
 ⟨hB.os,hB.tape,hB.output,hB.size,fun k h1 _ _=>hB.block k h1,fun o _ _ _=>World.cell?_of_block (hB.block F hF),fun o=>World.frozen?_of_block (hB.block F hF)⟩
theorem gG.put {W:World}(h:gG W B a len cap zs)(p:Addr)(hp:B<p.block)(v:Value):gG (W.setCell p v) B a len cap zs:=
 h.kept (aF W p v) (by simp only[ne_eq,af];omega) (h.2.1.imp_right fun hx y e e'=>by have:=hx y e;simp only[af]at e';omega)
theorem CH.kb {x:World}{j:Nat}(h:CH x B F j W)(hk:KB W.heap.size B W W')(hF:F<x.heap.size)(SH:F≠B):CH x B F j W':=by have hs:=h.size;have e:=hk.block F (by omega) SH;exact⟨hk.os.trans h.os,hk.tape.trans h.tape,hk.output.trans h.output,Nat.le_trans h.size hk.size,fun k h1 h2 h3=>(hk.block k (by omega) h2).trans (h.blk k h1 h2 h3),fun o h1 h2 h3=>(World.cell?_of_block e).trans (h.cell o h1 h2 h3),fun o=>(World.frozen?_of_block e).trans (h.fz o)⟩
theorem CH.drawn {x:World}{j:Nat}(h:CH x B F j W)(hd:aM W W' B a len cap zs)(hF:F<x.heap.size)(SH:F≠B):CH x B F j W':=
 h.kb ⟨hd.2.os,hd.2.tape,hd.2.output,hd.2.size,fun k h1 h2=>hd.2.block k h1 (by simpa using h2)⟩ hF SH
theorem CH.box {x:World}{j b:Nat}{vs:List Value}(h:CH x B F j W)(hb:bi x b vs)(h1:b≠B)(h2:b≠F):bi W b vs:=by have e:=h.blk b hb.1 h1 h2;refine⟨by have:=hb.1;have:=h.size;omega,fun i x hx=>?_⟩;obtain⟨k1,k2⟩:=hb.2 i x hx;exact⟨(World.cell?_of_block e).trans k1,(World.frozen?_of_block e).trans k2⟩
theorem Aw.tail {gb off bl:Nat}{xs:List (Int×Int)}(h:Aw W M F (some ⟨gb,off,none⟩) bl xs)(hb:0<bl):Aw W M F (some ⟨gb,off+2,none⟩) (bl-1) (xs.drop 1):=by obtain⟨h1,h2,h3|⟨b,o,e,h4,h5,h6,h7⟩⟩:=h;{omega};cases e;refine⟨by rw[List.length_drop,h1],by omega, .inr ⟨gb,off+2,rfl,h4,h5,h6,fun j hj=>?_⟩⟩;have:=h7 (j+1) (by omega);rw[show off+(j+1)*2=off+2+j*2 by omega]at this;rw[ah,List.getElem?_drop,show 1+j=j+1 by omega,←ah];exact this
theorem LM.change {x:World}{j:Nat}(h:LM w R M D d B a len cap zs F nf cv x)(hc:CH x B F j W)(kV:gG W B a len cap zs){q g:Int}{ba:Option Addr}{bl bc:Nat}{xs:List (Int×Int)}(h1:W.cell? ⟨F,j*4+1,none⟩=some (.int .i64 q))(h2:W.cell? ⟨F,j*4+2,none⟩=some (.int .i64 g))(h3:W.cell? ⟨F,j*4+3,none⟩=some (.slice ba bl bc))(h4:Aw W M F ba bl xs)(v1 v2:Value):FM w B a len cap zs F nf cv ((W.setCell ⟨R,0,none⟩ v1).setCell ⟨R,1,none⟩ v2):=by have ix:=h.ix;have hs:=hc.size;have hdw:aM w W B a len cap zs:=⟨kV,hc.os.trans h.dr.2.os,hc.tape.trans h.dr.2.tape,hc.output.trans h.dr.2.output,Nat.le_trans h.dr.2.size hc.size,fun k hk hne=>(hc.blk k (by have:=h.dr.2.size;omega) (fun e=>hne (by rw[e])) (by omega)).trans (h.dr.2.block k hk hne)⟩;refine⟨M,by omega,by omega,by simp[World.setCell];omega,h.nb,fun i hi=>?_,(hdw.put ix.2.2.2.2.2 ⟨R,0,none⟩ (by simp only;omega) _).put ix.2.2.2.2.2 ⟨R,1,none⟩ (by simp only;omega) _⟩;have hW:xQ W M F i False:=by{obtain⟨p',q',g',ba',U5,bc',xs',k0,k1,k2,k3,k4,k5,k6,-⟩:=h.fd i hi;by_cases e:i=j;{subst e;exact⟨p',q,g,ba,bl,bc,xs,k0,k1,(hc.cell _ (by omega) (by omega) (by omega)).trans k2,h1,h2,h3,h4,fun h=>h.elim⟩};exact⟨p',q',g',ba',U5,bc',xs',k0,k1,(hc.cell _ (by omega) (by omega) (by omega)).trans k2,(hc.cell _ (by omega) (by omega) (by omega)).trans k3,(hc.cell _ (by omega) (by omega) (by omega)).trans k4,(hc.cell _ (by omega) (by omega) (by omega)).trans k5,k6.of hc.size (fun k a b c=>hc.blk k a (by omega) c),fun h=>h.elim⟩};exact(hW.set ⟨R,0,none⟩ _ (by simp only;omega) (by omega)).set ⟨R,1,none⟩ _ (by simp only;omega) (by omega)
theorem LM.fin (h:LM w R M D d B a len cap zs F nf cv W)(v1 v2:Value):FM w B a len cap zs F nf cv ((W.setCell ⟨R,0,none⟩ v1).setCell ⟨R,1,none⟩ v2):=by have ix:=h.ix;exact⟨M,by omega,by omega,by simp[World.setCell];omega,h.nb,fun j hj=>(((h.fd j hj).eX).set ⟨R,0,none⟩ _ (by simp only;omega) (by omega)).set ⟨R,1,none⟩ _ (by simp only;omega) (by omega),(h.dr.put ix.2.2.2.2.2 ⟨R,0,none⟩ (by simp only;omega) _).put ix.2.2.2.2.2 ⟨R,1,none⟩ (by simp only;omega) _⟩
def UT (B F D nf cv:Nat):Nat->Value->World->Prop
 |0,y,_=>y= .pointer (some ⟨D,0,none⟩)
 |1,y,_=>y= .slice (some ⟨F,0,none⟩) nf cv
 |2,y,_=>y= .pointer (some ⟨B,0,none⟩)
 |3,y,_=>y= .pointer (some ⟨D,0,none⟩)
 |4,y,_=>y= .slice (some ⟨F,0,none⟩) nf cv
 |5,y,_=>y= .int .i64 nf
 |6,y,_=>∃j:Nat,j<nf/\y= .int .i64 j
 |7,y,_=>∃j:Nat,j<nf/\y= .pointer (some ⟨F,j*4,none⟩)
 |_,_,_=>True
theorem UT.fC {B F D nf cv k:Nat}{y:Value}{x x':World}(hf:UT B F D nf cv k y x):UT B F D nf cv k y x':=by unfold UT at hf ⊢;split at hf;all_goals exact hf
def UO (B F j gb bl cb:Nat):Nat->Value->World->Prop
 |0,y,_=>y= .pointer (some ⟨F,j*4,none⟩)
 |1,y,_=>y= .pointer (some ⟨F,j*4,none⟩)
 |2,y,_=>y= .pointer (some ⟨F,j*4+3,none⟩)
 |3,y,_=>y= .slice (some ⟨gb,0,none⟩) bl cb
 |4,y,_=>y= .pointer (some ⟨B,0,none⟩)
 |5,y,_=>y= .pointer (some ⟨F,j*4,none⟩)
 |6,y,_=>y= .pointer (some ⟨F,j*4,none⟩)
 |7,y,_=>y= .pointer (some ⟨F,j*4+3,none⟩)
 |8,y,_=>y= .slice (some ⟨gb,0,none⟩) bl cb
 |9,y,_=>y= .int .i64 bl
 |10,y,_=>∃i:Nat,i<bl/\y= .int .i64 i
 |11,y,_=>y= .pointer (some ⟨B,0,none⟩)
 |12,y,_=>∃op z:Int,y= .agg #[.int .i64 op, .int .i64 z]
 |_,_,_=>True
theorem UO.fC {B F j gb bl cb k:Nat}{y:Value}{x x':World}(hf:UO B F j gb bl cb k y x):UO B F j gb bl cb k y x':=by unfold UO at hf ⊢;split at hf;all_goals exact hf
end
theorem V8.fl {W:World}{M F nf:Nat}(h:V8 W M F nf)(hF:F<W.heap.size)(hn:nf<=3):∃fs,FL W (some ⟨F,0,none⟩) nf fs:=by
 have H:∀m,m<=nf->∃fs:List Fn,fs.length=m/\∀j,j<m->W.cell? ⟨F,0+j*4,none⟩=some (.int .i64 (fs.getD j .z).a)/\W.cell? ⟨F,0+j*4+1,none⟩=some (.int .i64 (fs.getD j .z).l)/\W.cell? ⟨F,0+j*4+2,none⟩=some (.int .i64 (fs.getD j .z).g)/\
     ∃ba bl bc,W.cell? ⟨F,0+j*4+3,none⟩=some (.slice ba bl bc)/\SL W ba bl (fs.getD j .z).b:=by
   intro m
   induction m with
   |zero=>exact fun _=>⟨[],rfl,fun j hj=>by omega⟩
   | succ m ih=>
     intro hm
     obtain⟨fs,hl,hx⟩:=ih (by omega)
     obtain⟨p,q,g,ba,bl,bc,xs,-,-,k0,k1,k2,k3,k4,-⟩:=h m (by omega)
     refine⟨fs++[(⟨p,q,g,xs⟩:Fn)],by simp[hl],fun j hj=>?_⟩
     by_cases e:j<m
     · have e1:(fs++[(⟨p,q,g,xs⟩:Fn)]).getD j .z=fs.getD j .z:=by rw[ah,ah,List.getElem?_append_left (by omega)]
       rw[e1]
       exact hx j e
     · have e':j=m:=by omega
       subst e'
       have e1:(fs++[(⟨p,q,g,xs⟩:Fn)]).getD j .z=⟨p,q,g,xs⟩:=by
         rw[ah,List.getElem?_append_right (by omega),hl,Nat.sub_self]
         rfl
       rw[e1]
       simp only[Nat.zero_add]
       exact⟨k0,k1,k2,ba,bl,bc,k3,k4.sl⟩
 obtain⟨fs,hl,hx⟩:=H nf (Nat.le_refl _)
 exact⟨fs,hl,by simp only[maxLen];omega, .inr ⟨F,0,rfl,hF,hx⟩⟩
theorem bX {n:Nat}{w w1 w2:World}{B:Nat}{a:Option Addr}{len cap:Nat}{zs:List Int}(h:Below n w w1)(hd:aM w1 w2 B a len cap zs)(hB:n<=B)(hn:n<=w1.heap.size):Below n w w2:=
 ⟨hd.2.os.trans h.os,hd.2.tape.trans h.tape,hd.2.output.trans h.output,Nat.le_trans h.size hd.2.size,fun k hk=>(hd.2.block k (by omega) (by simp only[ne_eq,af];omega)).trans (h.block k hk)⟩
section
open Go.RowKit
set_option linter.unusedSimpArgs false
namespace Hp
open Sp
open Hm (Bx Inv hold late go dn val dG eu bQ)
def eb (a b:S):Bool:=decide (b.t<a.t)||(decide (a.t=b.t)&&decide (b.b<a.b))
def Cs:S:=⟨-1,-1,-1,false⟩
def free (L:List S)(s:S):Nat->Nat->Int
 |0,_=>-1
 |n+1,k=>if bH s (L.getD k .z)=false then(k:Int)else free L s n (k+1)
def jk (L:List S):Nat->Nat
 |0=>0
 |k+1=>if eb (L.getD k .z) (L.getD (jk L k) .z)=true then k else jk L k
structure P where
 L:List S
 h:List Int
def dR (p:P)(s:S):P:=⟨p.L,p.h.set s.b.toNat 100⟩
def kR (p:P)(s:S)(k:Nat):P:=⟨p.L.set k s,p.h.set s.b.toNat (k:Int)⟩
def iF (p:P)(s:S):P:=
 if eb s (p.L.getD (jk p.L 5) .z)=true then dR p s else kR (dR p (p.L.getD (jk p.L 5) .z)) s (jk p.L 5)
def qL (p:P)(s:S):P:=
 if s.c=true then dR p s
 else if free p.L s 5 0=-1 then iF p s else kR p s (free p.L s 5 0).toNat
def new:P:=⟨List.replicate 5 Cs,List.replicate 40 (-1)⟩
def aI (l:List S):Nat->P
 |0=>new
 |n+1=>qL (aI l n) (l.getD ((Hm.ord l l.length).getD n 0) .z)
def tp (h:List Int):Nat->Nat
 |0=>0
 |b+1=>if 100<=h.getD b 0 then tp h b+1 else tp h b
def kE (h:List Int)(b:Nat):Int:=if 100<=h.getD b 0 then 100+(tp h b:Int)else h.getD b 0
def told (h:List Int):List Int:=(List.range 40).map (kE h)
def xH (x:Int):Int:=if x=-2 then 100 else x
theorem Br (L:List S)(k j:Nat)(s:S)(hk:k<L.length):(L.set k s).getD j .z=if k=j then s else L.getD j .z:=by rw[ah,List.getElem?_set];by_cases e:k=j;{rw[ay e,ay hk,ay e];rfl};rw[ax e,ax e,←ah]
structure R (l:List S)(n:Nat)(r:List Int)(p:P):Prop where
 len:p.L.length=5
 hlen:p.h.length=40
 Kk:∀k,k<l.length->p.h.getD (l.getD k .z).b.toNat 0=xH (r.getD k 0)
 non:∀b:Nat,b<40->(∀k,k<l.length->(l.getD k .z).b≠(b:Int))->p.h.getD b 0=-1
 ND:∀sh:Nat,sh<5->(p.L.getD sh .z=Cs/\∀k,dn l n k->r.getD k 0≠(sh:Int))\/
   ∃z,dn l n z/\p.L.getD sh .z=l.getD z .z/\r.getD z 0=(sh:Int)/\∀k,dn l n k->k≠z->r.getD k 0=(sh:Int)->(l.getD k .z).t<(l.getD z .z).f
theorem R.zero (l:List S)(hB:Bx l):R l 0 (Hm.run l 0) new:=by refine⟨by simp[new],by simp[new],fun k hk=>?_,fun b hb _=>?_,fun sh hsh=> .inl ⟨?_,?_⟩⟩;{have h1:=hB.lo k hk;have e:(Hm.run l 0).getD k 0=-1:=by{show(List.replicate l.length (-1:Int)).getD k 0=-1;rw[ah,List.getElem?_replicate,ay hk];rfl};rw[e];show(List.replicate 40 (-1:Int)).getD _ 0=_;rw[ah,List.getElem?_replicate,ay (by omega)];rfl};{show(List.replicate 40 (-1:Int)).getD _ 0=_;rw[ah,List.getElem?_replicate,ay hb];rfl};{show(List.replicate 5 Cs).getD _ .z=_;rw[ah,List.getElem?_replicate,ay hsh];rfl};rintro k ⟨j,h1,-⟩;omega
theorem Il {l:List S}{n:Nat}{r:List Int}{p:P}(hI:Inv l n r)(hR:R l n r p)(hn:n<l.length)(h0:∀k,k<l.length->0<=(l.getD k .z).f/\(l.getD k .z).f<=(l.getD k .z).t)(sh:Nat)(hsh:sh<5):(bH (l.getD ((Hm.ord l l.length).getD n 0) .z) (p.L.getD sh .z)=false/\hold l r ((Hm.ord l l.length).getD n 0) (sh:Int) l.length<0)\/(bH (l.getD ((Hm.ord l l.length).getD n 0) .z) (p.L.getD sh .z)=true/\¬hold l r ((Hm.ord l l.length).getD n 0) (sh:Int) l.length<0/\dn l n (hold l r ((Hm.ord l l.length).getD n 0) (sh:Int) l.length).toNat/\p.L.getD sh .z=l.getD (hold l r ((Hm.ord l l.length).getD n 0) (sh:Int) l.length).toNat .z/\r.getD (hold l r ((Hm.ord l l.length).getD n 0) (sh:Int) l.length).toNat 0=(sh:Int)):=by have hbef:=fun k hk=>Hm.Ak (k:=k) hn hk;have hil:(Hm.ord l l.length).getD n 0<l.length:=Hm.kT ⟨n,Nat.lt_succ_self n,hn,rfl⟩;generalize(Hm.ord l l.length).getD n 0=i at hbef hil;have hdn:∀k,k<l.length->0<=r.getD k 0->dn l n k:=fun k hk h0=>by{refine Classical.byContradiction fun hc=>?_;have:=hI.un k hk hc;omega};have hi:=h0 i hil;rcases hR.ND sh hsh with⟨e,hno⟩|⟨z,hz,e,hrz,hlast⟩;{refine .inl ⟨?_,Classical.byContradiction fun hc=>?_⟩;{rw[e];unfold bH Cs;simp only[Bool.and_eq_false_iff,decide_eq_false_iff_not];omega};obtain⟨h1,h2,h3⟩:=Hm.kD hc;exact hno _ (hdn _ h1 (by omega)) h2};have hzl:=Hm.kT hz;have aat:∀k,k<l.length->r.getD k 0=(sh:Int)->bH (l.getD k .z) (l.getD i .z)=true->k=z:=fun k hk e1 e2=>by{refine Classical.byContradiction fun hne=>?_;have h1:=hlast k (hdn k hk (by omega)) hne e1;have h2:=hbef z hz;unfold bH at e2;simp only[au,decide_eq_true_eq]at e2;omega};by_cases hc:hold l r i (sh:Int) l.length<0;{refine .inl ⟨?_,hc⟩;rw[e,meet_comm];exact Hm.qg hc z hzl hrz};obtain⟨h1,h2,h3⟩:=Hm.kD hc;have h4:=aat _ h1 h2 h3;refine .inr ⟨?_,hc,?_,?_,h2⟩;{rw[e,meet_comm,←h4];exact h3};{rw[h4];exact hz};rw[h4];exact e
theorem IJ (l:List S)(k j:Nat):late l k j=eb (l.getD k .z) (l.getD j .z):=rfl
theorem oQ {a b:S}:eb a b=true↔b.t<a.t\/a.t=b.t/\b.b<a.b:=by unfold eb;simp only[Bool.or_eq_true,au,decide_eq_true_eq]
theorem wZ {l:List S}{r:List Int}{i z:Nat}:∀{n:Nat}{sh:Int}{last:Nat},go l r i n sh last=(none,z)->
   ¬eb (l.getD last .z) (l.getD z .z)=true/\∀y,sh<=y->y<sh+n->¬eb (l.getD (hold l r i y l.length).toNat .z) (l.getD z .z)=true
 | 0,sh,last,hg=>by
   simp only[go,Prod.mk.injEq,true_and]at hg
   subst hg
   exact⟨by rw[oQ];omega,fun y h1 h2=>absurd h2 (by omega)⟩
 | n + 1,sh,last,hg=>by
   unfold go at hg
   split at hg
   · simp at hg
   · obtain⟨h1,h2⟩:=wZ hg
     rw[IJ]at h1
     refine⟨?_,fun y hy1 hy2=>?_⟩
     · split at h1
       · rename_i hx
         rw[oQ]at*
         omega
       · exact h1
     · by_cases e:y=sh
       · subst e
         split at h1
         · exact h1
         · rename_i hx
           rw[oQ]at*
           omega
       · exact h2 y (by omega) (by omega)
theorem qy (L:List S):∀k,jk L k<=k-1
 |0=>Nat.le_refl _
 | k+1=>by
   have:=qy L k
   unfold jk
   split<;>omega
theorem xu (L:List S):∀k y,y<k->¬eb (L.getD y .z) (L.getD (jk L k) .z)=true
 |0,y,hy=>absurd hy (by omega)
 | k + 1,y,hy=>by
   unfold jk
   split
   · rename_i hx
     by_cases e:y=k
     · rw[e,oQ];omega
     · have:=xu L k y (by omega)
       rw[oQ]at*
       omega
   · rename_i hx
     by_cases e:y=k
     · rw[e];exact hx
     · exact xu L k y (by omega)
theorem BU {l:List S}{r:List Int}{i:Nat}{L:List S}{s:S}(hh:∀sh:Nat,sh<5->(bH s (L.getD sh .z)=false↔hold l r i (sh:Int) l.length<0)):
   ∀(n k last:Nat),k+n=5->(∃(x z:Nat),go l r i n (k:Int) last=(some (x:Int),z)/\free L s n k=(x:Int)/\x<5)\/(∃z,go l r i n (k:Int) last=(none,z)/\free L s n k=-1)
 |0,k,last,_=> .inr ⟨last,rfl,rfl⟩
 | n +1,k,last,hk=>by
   unfold go free
   by_cases h1:hold l r i (k:Int) l.length<0
   · rw[ay h1,ay ((hh k (by omega)).2 h1)]
     exact .inl ⟨k,last,rfl,rfl,by omega⟩
   · rw[ax h1,ax (fun e=>h1 ((hh k (by omega)).1 e))]
     exact BU hh n (k+1) _ (by omega)
section
variable {l : List S} {n : Nat} {r : List Int} {p : P}
theorem mq (hB:Bx l){j k:Nat}(hj:j<l.length)(hk:k<l.length)(h:(l.getD j .z).b.toNat=(l.getD k .z).b.toNat):j=k:=by have h1:=hB.lo j hj;have h2:=hB.lo k hk;rcases Nat.lt_trichotomy j k with h3|h3|h3;{have:=hB.one j k h3 hk;omega};{exact h3};have:=hB.one k j h3 hj;omega
theorem BV (hB:Bx l)(hR:R l n r p)(hrl:r.length=l.length){i:Nat}(hi:i<l.length)(x:Int):(∀k,k<l.length->(p.h.set (l.getD i .z).b.toNat (xH x)).getD (l.getD k .z).b.toNat 0=xH ((r.set i x).getD k 0))/\(∀b:Nat,b<40->(∀k,k<l.length->(l.getD k .z).b≠(b:Int))->(p.h.set (l.getD i .z).b.toNat (xH x)).getD b 0=-1):=by have h1:=hB.lo i hi;refine⟨fun k hk=>?_,fun b hb hno=>?_⟩;{rw[bQ _ _ _ _ (by rw[hR.hlen];omega),bQ _ _ _ _ (by omega)];by_cases e:i=k;{rw[ay (by rw[e]),ay e]};rw[ax (fun h=>e (mq hB hi hk h)),ax e];exact hR.Kk k hk};have h2:=hno i hi;rw[bQ _ _ _ _ (by rw[hR.hlen];omega),ax (by omega)];exact hR.non b hb hno
theorem R.next (hB:Bx l) (hI:Inv l n r) (hR:R l n r p) (hn:n<l.length) (h0:∀k,k<l.length->0<=(l.getD k .z).f/\(l.getD k .z).f<=(l.getD k .z).t):R l (n+1) (Hm.put l r ((Hm.ord l l.length).getD n 0)) (qL p (l.getD ((Hm.ord l l.length).getD n 0) .z)):=by
 have hH:=Il hI hR hn h0
 have hnew:=Hm.zU hn
 have hbef:=fun k hk=>Hm.Ak (k:=k) hn hk
 have hsucc:=fun k=>Hm.Bp (k:=k) hn
 have hil:(Hm.ord l l.length).getD n 0<l.length:=Hm.kT ⟨n,Nat.lt_succ_self n,hn,rfl⟩
 generalize(Hm.ord l l.length).getD n 0=i at hnew hbef hsucc hil hH
 have hrl:=hI.len
 have hi1:=hI.un i hil hnew
 have hrs:=fun(x:Int) k=>bQ r i k x (by omega)
 have stay:∀(x:Int),x<0->∀sh:Nat,sh<5->(p.L.getD sh .z=Cs/\∀k,dn l (n+1) k->(r.set i x).getD k 0≠(sh:Int))\/
     ∃z,dn l (n+1) z/\p.L.getD sh .z=l.getD z .z/\(r.set i x).getD z 0=(sh:Int)/\∀k,dn l (n+1) k->k≠z->(r.set i x).getD k 0=(sh:Int)->(l.getD k .z).t<(l.getD z .z).f:=by
   intro x hx sh hsh
   rcases hR.ND sh hsh with⟨e,hno⟩|⟨z,hz,e,hrz,hlast⟩
   · refine .inl ⟨e,fun k hk=>?_⟩
     rw[hrs]
     split
     · omega
     · rename_i hne
       rcases(hsucc k).1 hk with h|h
       · exact hno k h
       · exact absurd h.symm hne
   · have hzi:i≠z:=fun h=>hnew (h▸hz)
     refine .inr ⟨z,(hsucc z).2 (.inl hz),e,by rw[hrs,ax hzi];exact hrz,fun k hk hkz=>?_⟩
     rw[hrs]
     split
     · omega
     · rename_i hne
       rcases(hsucc k).1 hk with h|h
       · exact hlast k h hkz
       · exact absurd h.symm hne
 have zH:R l (n+1) (r.set i (-2)) (dR p (l.getD i .z)):=by obtain⟨h1,h2⟩:=BV hB hR hrl hil (-2);exact⟨hR.len,by show(List.set _ _ _).length=40;rw[List.length_set];exact hR.hlen,h1,h2,stay (-2) (by omega)⟩
 unfold Hm.put qL
 split
 · exact zH
 · rename_i hc
   have hcf:(l.getD i .z).c=false:=by simpa using hc
   have hiff:∀sh:Nat,sh<5->(bH (l.getD i .z) (p.L.getD sh .z)=false↔hold l r i (sh:Int) l.length<0):=fun sh hsh=>by rcases hH sh hsh with⟨h1,h2⟩|⟨h1,h2,-⟩;{exact⟨fun _=>h2,fun _=>h1⟩};exact⟨fun h=>absurd (h1.symm.trans h) (by decide),fun h=>absurd h h2⟩
   rcases BU hiff 5 0 i (by omega)with⟨x,z,hg,hf,hx5⟩|⟨z,hg,hf⟩
   ·
     have hg':go l r i 5 0 i=(some (x:Int),z):=hg
     rw[hg',hf,ax (by omega),az]
     show R l (n+1) (r.set i (x:Int)) (kR p (l.getD i .z) x)
     have hxe:xH (x:Int)=(x:Int):=by unfold xH;rw[ax (by omega)]
     obtain⟨h1,h2⟩:=BV hB hR hrl hil (x:Int)
     rw[hxe]at h1 h2
     have hfree:=(hiff x hx5)
     obtain⟨g1,g2,g3⟩:=Hm.lu hg'
     have hno:=Hm.qg g3
     refine⟨by show(List.set _ _ _).length=5;rw[List.length_set];exact hR.len,by show(List.set _ _ _).length=40;rw[List.length_set];exact hR.hlen,h1,h2,fun sh hsh=>?_⟩
     show(((p.L.set x (l.getD i .z)).getD sh .z=Cs/\_)\/∃z,_/\(p.L.set x (l.getD i .z)).getD sh .z=_/\_)
     rw[Br _ _ _ _ (by rw[hR.len];exact hx5)]
     by_cases hxs:x=sh
     · rw[ay hxs]
       refine .inr ⟨i,(hsucc i).2 (.inr rfl),rfl,by rw[hrs,ay rfl,hxs],fun k hk hki=>?_⟩
       rw[hrs,ax (fun h=>hki h.symm)]
       intro hks
       have hkd:dn l n k:=by
         rcases(hsucc k).1 hk with h|h
         · exact h
         · exact absurd h hki
       have hkl:=Hm.kT hkd
       have hm:=hno k hkl (by rw[hks,hxs])
       have h3:=hbef k hkd
       have h4:=h0 k hkl
       have h5:=h0 i hil
       unfold bH at hm
       simp only[Bool.and_eq_false_iff,decide_eq_false_iff_not]at hm
       omega
     · rw[ax hxs]
       rcases hR.ND sh hsh with⟨e,hno'⟩|⟨z,hz,e,hrz,hlast⟩
       · refine .inl ⟨e,fun k hk=>?_⟩
         rw[hrs]
         split
         · omega
         · rename_i hne
           rcases(hsucc k).1 hk with h|h
           · exact hno' k h
           · exact absurd h.symm hne
       · have hzi:i≠z:=fun h=>hnew (h▸hz)
         refine .inr ⟨z,(hsucc z).2 (.inl hz),e,by rw[hrs,ax hzi];exact hrz,fun k hk hkz=>?_⟩
         rw[hrs]
         split
         · omega
         · rename_i hne
           rcases(hsucc k).1 hk with h|h
           · exact hlast k h hkz
           · exact absurd h.symm hne
   ·
     have hg':go l r i 5 0 i=(none,z):=hg
     rw[hg',hf,ay rfl]
     obtain⟨g1,g2⟩:=Hm.nA hg'
     obtain⟨m1,m2⟩:=wZ hg'
     have hq:jk p.L 5<5:=by have:=qy p.L 5;omega
     have hmax:=xu p.L 5
     show R l (n+1) (if z≠i then(r.set i (r.getD z 0)).set z (-2)else r.set i (-2)) (iF p (l.getD i .z))
     unfold iF
     generalize jk p.L 5=q at hq hmax
     have hall:∀sh:Nat,sh<5->dn l n (hold l r i (sh:Int) l.length).toNat/\p.L.getD sh .z=l.getD (hold l r i (sh:Int) l.length).toNat .z/\r.getD (hold l r i (sh:Int) l.length).toNat 0=(sh:Int):=fun sh hsh=>by
       rcases hH sh hsh with⟨h1,h2⟩|⟨h1,h2,h3,h4,h5⟩
       · exact absurd h2 (g1 (sh:Int) (by omega) (by omega))
       · exact⟨h3,h4,h5⟩
     obtain⟨q1,q2,q3⟩:=hall q hq
     have Mv:=Hm.kT q1
     have hqi:(hold l r i (q:Int) l.length).toNat≠i:=fun h=>hnew (h▸q1)
     have m3:=m2 (q:Int) (by omega) (by omega)
     by_cases hgt:eb (l.getD i .z) (p.L.getD q .z)=true
     · have hzi:z=i:=by
         rcases g2 with h|⟨y,hy1,hy2,h⟩
         · exact h
         · obtain⟨y',rfl⟩:∃y':Nat,y=(y':Int):=⟨y.toNat,by omega⟩
           obtain⟨-,w2,-⟩:=hall y' (by omega)
           have w3:=hmax y' (by omega)
           rw[w2,←h]at w3
           rw[oQ]at*
           omega
       rw[hzi,ax (fun h=>h rfl),ay hgt]
       exact zH
     · have hzq:z=(hold l r i (q:Int) l.length).toNat:=by
         rcases g2 with h|⟨y,hy1,hy2,h⟩
         · exfalso
           rw[h]at m3
           rw[q2]at hgt
           rw[oQ]at m3 hgt
           exact hqi (mq hB Mv hil (by omega))
         · obtain⟨y',rfl⟩:∃y':Nat,y=(y':Int):=⟨y.toNat,by omega⟩
           obtain⟨w1,w2,-⟩:=hall y' (by omega)
           have w3:=hmax y' (by omega)
           rw[w2,q2]at w3
           rw[h]at m3 ⊢
           rw[oQ]at m3 w3
           exact(mq hB (Hm.kT w1) Mv (by omega))
       rw[ax hgt,hzq,q2]
       generalize(hold l r i (q:Int) l.length).toNat=o at q1 q2 q3 Mv hqi
       rw[ay hqi,q3]
       have D5:∀k,((r.set i (q:Int)).set o (-2)).getD k 0=if o=k then -2 else if i=k then(q:Int)else r.getD k 0:=fun k=>by
         rw[bQ _ o k _ (by rw[List.length_set];omega),hrs]
       have Vh:=hB.lo o Mv
       have hbi:=hB.lo i hil
       have Tq:∀b,((p.h.set (l.getD o .z).b.toNat 100).set (l.getD i .z).b.toNat (q:Int)).getD b 0=if(l.getD i .z).b.toNat=b then(q:Int)else if(l.getD o .z).b.toNat=b then 100 else p.h.getD b 0:=fun b=>by
         rw[bQ _ _ b _ (by rw[List.length_set,hR.hlen];omega),bQ _ _ b _ (by rw[hR.hlen];omega)]
       refine⟨?_,?_,fun k hk=>?_,fun b hb hno=>?_,fun sh hsh=>?_⟩
       · show(List.set _ _ _).length=5;rw[List.length_set];exact hR.len
       · show(List.set (List.set _ _ _) _ _).length=40;rw[List.length_set,List.length_set];exact hR.hlen
       · show((p.h.set (l.getD o .z).b.toNat 100).set (l.getD i .z).b.toNat (q:Int)).getD _ 0=_
         rw[Tq,D5]
         by_cases e1:o=k
         · rw[ax (fun h=>hqi (e1.trans (mq hB hil hk h).symm)),ay (by rw[e1]),ay e1]
           rfl
         · by_cases e2:i=k
           · rw[ay (by rw[e2]),ax e1,ay e2]
             unfold xH
             rw[ax (by omega)]
           · rw[ax (fun h=>e2 (mq hB hil hk h)),ax (fun h=>e1 (mq hB Mv hk h)),ax e1,ax e2]
             exact hR.Kk k hk
       · show((p.h.set (l.getD o .z).b.toNat 100).set (l.getD i .z).b.toNat (q:Int)).getD _ 0=_
         have n1:=hno i hil
         have n2:=hno o Mv
         rw[Tq,ax (by omega),ax (by omega)]
         exact hR.non b hb hno
       · show (((p.L.set q (l.getD i .z)).getD sh .z=Cs/\_)\/∃z,_/\(p.L.set q (l.getD i .z)).getD sh .z=_/\_)
         rw[Br _ _ _ _ (by rw[hR.len];exact hq)]
         by_cases Vi:q=sh
         · rw[ay Vi]
           refine .inr ⟨i,(hsucc i).2 (.inr rfl),rfl,by rw[D5,ax hqi,ay rfl,Vi],fun k hk hki=>?_⟩
           rw[D5]
           by_cases e1:o=k
           · rw[ay e1];omega
           · rw[ax e1,ax (fun h=>hki h.symm)]
             intro hks
             have hkd:dn l n k:=by
               rcases(hsucc k).1 hk with h|h
               · exact h
               · exact absurd h hki
             have hkl:=Hm.kT hkd
             rcases hR.ND q hq with⟨e,hno'⟩|⟨z',hz',e,hrz,hlast⟩
             · exact absurd q3 (hno' o q1)
             · have Tt:z'=o:=by
                 have aau:=Hm.kT hz'
                 refine mq hB aau Mv ?_
                 rw[←e,q2]
               have h3:=hlast k hkd (by rw[Tt];exact fun h=>e1 h.symm) (by rw[hks,Vi])
               have h4:=hbef o q1
               rw[Tt]at h3
               omega
         · rw[ax Vi]
           rcases hR.ND sh hsh with⟨e,hno'⟩|⟨z',hz',e,hrz,hlast⟩
           · refine .inl ⟨e,fun k hk=>?_⟩
             rw[D5]
             split
             · omega
             · split
               · omega
               · rename_i hne
                 rcases(hsucc k).1 hk with h|h
                 · exact hno' k h
                 · exact absurd h.symm hne
           · have hzi:i≠z':=fun h=>hnew (h▸hz')
             have hzo:o≠z':=by
               intro h
               rw[←h,q3]at hrz
               omega
             refine .inr ⟨z',(hsucc z').2 (.inl hz'),e,by rw[D5,ax hzo,ax hzi];exact hrz,fun k hk hkz=>?_⟩
             rw[D5]
             split
             · omega
             · split
               · omega
               · rename_i hne
                 rcases(hsucc k).1 hk with h|h
                 · exact hlast k h hkz
                 · exact absurd h.symm hne
end
theorem R.all {l:List S}(hB:Bx l)(h0:∀k,k<l.length->0<=(l.getD k .z).f/\(l.getD k .z).f<=(l.getD k .z).t):∀n,n<=l.length->R l n (Hm.run l n) (aI l n)
 |0,_=>R.zero l hB
 |n+1,hn=>R.next hB (Inv.run l n (by omega)) (R.all hB h0 n (by omega)) (by omega) h0
theorem rq (h:List Int):(told h).length=40:=by simp[told]
theorem F8 {l:List S}{r:List Int}{h:List Int}(hB:Bx l)(Kk:∀k,k<l.length->h.getD (l.getD k .z).b.toNat 0=xH (r.getD k 0))(hr:∀k,k<l.length->r.getD k 0<100)
   (non:∀b:Nat,b<40->(∀k,k<l.length->(l.getD k .z).b≠(b:Int))->h.getD b 0=-1):
   ∀(b k:Nat),b<=40->k<=l.length->(∀j,j<k->(l.getD j .z).b<(b:Int))->(∀j,k<=j->j<l.length->(b:Int)<=(l.getD j .z).b)->tp h b=dG r k
 | 0,k,hb,hk,h1,h2=>by
   cases k with
   |zero=>rfl
   |succ k=>have:=h1 k (by omega);have:=hB.lo k (by omega);omega
 | b + 1,k,hb,hk,h1,h2=>by
   by_cases hx:0<k/\(l.getD (k-1) .z).b=(b:Int)
   · obtain⟨hk0,hxb⟩:=hx
     obtain⟨k',rfl⟩:∃k',k=k'+1:=⟨k-1,by omega⟩
     rw[Nat.add_sub_cancel]at hxb
     have ih:=F8 hB Kk hr non b k' (by omega) (by omega) (fun j hj=>by have:=hB.one j k' hj (by omega);omega) (fun j hj hjl=>by
       by_cases e:j=k'
       · rw[e];omega
       · have:=hB.one k' j (by omega) hjl;omega)
     have h3:=Kk k' (by omega)
     rw[hxb,az]at h3
     have h4:=hr k' (by omega)
     unfold tp dG
     rw[ih,h3]
     unfold xH
     by_cases e:r.getD k' 0=-2
     · rw[ay e,ay (by omega),ay e]
     · rw[ax e,ax (by omega),ax e]
   · have hlo:∀j,j<k->(l.getD j .z).b<(b:Int):=fun j hj=>by
       have a1:=h1 j hj
       by_cases e:j=k-1
       · subst e
         have:(l.getD (k-1) .z).b≠(b:Int):=fun h=>hx ⟨by omega,h⟩
         omega
       · have:=hB.one j (k-1) (by omega) (by omega)
         have:=h1 (k-1) (by omega)
         omega
     have ih:=F8 hB Kk hr non b k (by omega) hk hlo (fun j hj hjl=>by have:=h2 j hj hjl;omega)
     have h3:=non b (by omega) (fun j hj=>by
       by_cases e:j<k
       · have:=hlo j e;omega
       · have:=h2 j (by omega) hj;omega)
     unfold tp
     rw[h3,ax (by omega)]
     exact ih
theorem Ia {l:List S}(hB:Bx l)(h0:∀k,k<l.length->0<=(l.getD k .z).f/\(l.getD k .z).f<=(l.getD k .z).t):told (aI l l.length).h=eu l (Hm.run l l.length) l.length:=by
 have hR:=R.all hB h0 l.length (Nat.le_refl _)
 have hI:=Inv.run l l.length (Nat.le_refl _)
 generalize Hm.run l l.length=r at hR hI
 generalize aI l l.length=p at hR
 have hr:∀k,k<l.length->r.getD k 0<100:=fun k hk=>by rcases hI.val k (Hm.FQ hk)with h|⟨h1,h2,-⟩<;>omega
 refine List.ext_getElem (by rw[rq,Hm.gm]) fun b h1 h2=>?_
 rw[rq]at h1
 rw[←Hm.qi h2]
 have e1:(told p.h)[b]'(by rw[rq];exact h1)=kE p.h b:=by simp[told]
 rw[e1]
 by_cases hx:∃k,k<l.length/\(l.getD k .z).b=(b:Int)
 · obtain⟨k,hk,hkb⟩:=hx
   have h3:=hR.Kk k hk
   have h4:=Hm.nu (h:=r) hB l.length (Nat.le_refl _) k hk
   rw[hkb,az]at h3 h4
   have h5:=F8 hB hR.Kk hr hR.non b k (by omega) (by omega) (fun j hj=>by have:=hB.one j k hj hk;omega) (fun j hj hjl=>by
    by_cases e:j=k
    · rw[e];omega
    · have:=hB.one k j (by omega) hjl;omega)
   rw[h4]
   unfold kE val
   rw[h3,h5]
   have h6:=hr k hk
   unfold xH
   by_cases e:r.getD k 0=-2
   · rw[ay e,ay (by omega),ay e]
   · rw[ax e,ax (by omega),ax e]
 · have hno:∀k,k<l.length->(l.getD k .z).b≠(b:Int):=fun k hk h=>hx ⟨k,hk,h⟩;rw[Hm.jK hB l.length (Nat.le_refl _) b h1 hno];unfold kE;rw[hR.non b h1 hno,ax (by omega)]
end Hp
end
section
open Go.RowKit
set_option linter.unusedSimpArgs false
namespace Hp
open Sp
open Hm (Bx Inv dn)
theorem xR (L:List S)(s:S):∀n k,free L s n k=-1\/((k:Int)<=free L s n k/\free L s n k<(k:Int)+n)
 |0,k=> .inl rfl
 | n +1,k=>by
   unfold free
   split
   · exact .inr ⟨by omega,by omega⟩
   · rcases xR L s n (k+1)with h|⟨h1,h2⟩
     · exact .inl h
     · exact .inr ⟨by omega,by omega⟩
theorem Bl (L:List S)(s:S):∀n k,free L s n k=-1->∀j,k<=j->j<k+n->bH s (L.getD j .z)=true
 |0,k,h,j,h1,h2=>absurd h2 (by omega)
 | n +1,k,h,j,h1,h2=>by
   unfold free at h
   split at h
   · omega
   · rename_i hx
     by_cases e:j=k
     · rw[e];simpa using hx
     · exact Bl L s n (k+1) h j (by omega) (by omega)
theorem ET {s:S}(h:0<=s.f):bH s Cs=false:=by unfold bH Cs;simp only[Bool.and_eq_false_iff,decide_eq_false_iff_not];omega
theorem JP (ls:List Ln):∀k,k<(out ls 40).length->0<=((out ls 40).getD k .z).f/\((out ls 40).getD k .z).f<=((out ls 40).getD k .z).t:=fun k hk=>by
 obtain⟨b,f,t,hI⟩:=Cb (Hm.at_mem hk)
 have:=hI.fr
 have:=hI.to
 have:=hI.le
 omega
theorem R.box {l:List S}{n:Nat}{r:List Int}{p:P}(hB:Bx l)(hR:R l n r p){s:S}(hs:0<=s.f)(hf:free p.L s 5 0=-1):0<=(p.L.getD (jk p.L 5) .z).b/\(p.L.getD (jk p.L 5) .z).b<40:=by have hq:jk p.L 5<5:=by{have:=qy p.L 5;omega};rcases hR.ND _ hq with⟨e,-⟩|⟨z,hz,e,-⟩;{have h:=Bl p.L s 5 0 hf _ (Nat.zero_le _) (by omega);rw[e,ET hs]at h;cases h};rw[e];exact hB.lo z (Hm.kT hz)
theorem Le {l:List S}{k:Nat}(h:k<l.length):(Hm.ord l l.length).getD k 0<l.length:=Hm.kT ⟨k,Nat.lt_succ_self k,h,rfl⟩
theorem Hy {ls:List Ln}{k:Nat}(h:k<(out ls 40).length):(0<=((out ls 40).getD ((Hm.ord (out ls 40) (out ls 40).length).getD k 0) .z).b/\((out ls 40).getD ((Hm.ord (out ls 40) (out ls 40).length).getD k 0) .z).b<40)/\(free (aI (out ls 40) k).L ((out ls 40).getD ((Hm.ord (out ls 40) (out ls 40).length).getD k 0) .z) 5 0=-1->0<=((aI (out ls 40) k).L.getD (jk (aI (out ls 40) k).L 5) .z).b/\((aI (out ls 40) k).L.getD (jk (aI (out ls 40) k).L 5) .z).b<40)/\(free (aI (out ls 40) k).L ((out ls 40).getD ((Hm.ord (out ls 40) (out ls 40).length).getD k 0) .z) 5 0=-1\/0<=free (aI (out ls 40) k).L ((out ls 40).getD ((Hm.ord (out ls 40) (out ls 40).length).getD k 0) .z) 5 0/\free (aI (out ls 40) k).L ((out ls 40).getD ((Hm.ord (out ls 40) (out ls 40).length).getD k 0) .z) 5 0<5):=by have hB:=Hm.kJ ls;have h0:=JP ls;have hi:=Le h;have hR:=R.all hB h0 k (by omega);refine⟨hB.lo _ hi,fun hf=>hR.box hB (h0 _ hi).1 hf,?_⟩;rcases xR (aI (out ls 40) k).L ((out ls 40).getD ((Hm.ord (out ls 40) (out ls 40).length).getD k 0) .z) 5 0 with h1|⟨h1,h2⟩;{exact .inl h1};exact .inr ⟨by omega,by omega⟩
theorem Eo {ls:List Ln}(hok:Ln.isOk ls=true):Hm.homes ls=told (aI (out ls 40) (out ls 40).length).h:=by have e:df ls=out ls 40:=by{unfold df;rw[ay hok]};unfold Hm.homes;rw[ay hok,e,Ia (Hm.kJ ls) (JP ls)]
end Hp
end
section
open Go.RowKit
set_option linter.unusedSimpArgs false
namespace Sp
def zM (s:S):S:=if s.f<0 then⟨s.b,-1,-1,false⟩else s
def rc (n:Int)(s:S):S:=if s.f<0 then⟨s.b,n,n,s.c⟩else⟨s.b,s.f,n,s.c⟩
def xd (s:S):S:=⟨s.b,s.f,s.t,true⟩
def on (F:S->S)(l:List S)(b:Int):List S:=l.set b.toNat (F (l.getD b.toNat .z))
def rows (ls:List Ln)(i:Nat):List S:=(List.range 40).map fun b=>zM (row ls b i)
theorem kN (ls:List Ln)(i:Nat):(rows ls i).length=40:=by simp[rows]
theorem mP (ls:List Ln)(i:Nat){b:Nat}(hb:b<40):(rows ls i).getD b .z=zM (row ls b i):=by unfold rows;rw[ah,List.getElem?_map,List.getElem?_range hb];rfl
theorem AP (F:S->S)(l:List S)(b:Int):(on F l b).length=l.length:=by simp[on]
theorem rW (F:S->S):∀(bs:List Int)(l:List S),(bs.foldl (on F) l).length=l.length
 |[],l=>rfl
 |b::bs,l=>by rw[List.foldl_cons,rW F bs,AP]
theorem F7 (F:S->S)(l:List S)(b:Int)(h0:0<=b)(h1:b<(l.length:Int))(j:Nat):(on F l b).getD j .z=if b=(j:Int)then F (l.getD j .z)else l.getD j .z:=by unfold on;rw[ah,List.getElem?_set];by_cases e:b.toNat=j;{rw[ay e,ay (show b.toNat<l.length by omega),ay (by omega),←e];rfl};rw[ax e,ax (by omega),←ah]
theorem wI (F:S->S):∀(bs:List Int)(l:List S)(j:Nat),bs.Nodup->(∀b∈bs,0<=b/\b<(l.length:Int))->(bs.foldl (on F) l).getD j .z=if(j:Int)∈bs then F (l.getD j .z)else l.getD j .z
 |[],l,j,_,_=>by simp
 | b ::bs,l,j,hn,hb=>by
   have hb0:=hb b (by simp)
   rw[List.foldl_cons,wI F bs _ j (List.nodup_cons.1 hn).2 (fun x hx=>by rw[AP];exact hb x (by simp[hx])),F7 F l b hb0.1 hb0.2]
   by_cases e:b=(j:Int)
   · have hj:¬(j:Int)∈bs:=by rw[←e];exact(List.nodup_cons.1 hn).1
     rw[ax hj,ay e,ay (by simp[e])]
   · rw[ax e]
     by_cases hj:(j:Int)∈bs
     · rw[ay hj,ay (by simp[hj])]
     · rw[ax hj,ax (by simp only[List.mem_cons,not_or];exact⟨fun h=>e h.symm,hj⟩)]
theorem uz (F:S->S){bs:List Int}{k:Nat}(hk:k<bs.length)(l:List S):(bs.take (k+1)).foldl (on F) l=on F ((bs.take k).foldl (on F) l) (bs.getD k 0):=by rw[List.take_add_one,ai hk,List.foldl_append,ah,ai hk];rfl
theorem uy (m:Nat):∀k,(Fl.vH m k).Nodup
 |0=>by simp[Fl.vH]
 | k +1=>by
   have ih:=uy m k
   unfold Fl.vH
   split
   · rw[List.nodup_append]
     refine⟨ih,by simp,fun x hx y hy=>?_⟩
     have h:=(Fl.qj m x k).1 hx
     have e:y=(k:Int):=by simpa using hy
     omega
   · exact ih
theorem uB (m:Nat):(Fl.mg m).Nodup:=uy m 40
theorem BH (m:Nat){b:Nat}(hb:b<40):((b:Int)∈Fl.mg m)↔m.testBit b=true:=by rw[←Fl.qC,Fl.KQ m hb]
theorem wR (m:Nat):∀b∈Fl.mg m,0<=b/\b<40:=fun b hb=>by
 have h:=(Fl.qj m b 40).1 hb
 exact⟨h.1,h.2.1⟩
theorem OE {ls:List Ln}{b k:Nat}(h:(row ls b k).f<0):(row ls b k).c=false:=by have hT:=je ls b k;rcases hT.at_ with⟨-,-,h3⟩|⟨f,t,h3,-⟩;{rw[hT.iP,List.any_eq_false];intro i hi;have:=h3 i (List.mem_range.1 hi);rcases e:cr ls b i with _|_;{simp};rw[EJ e]at this;cases this};omega
theorem JO (ls:List Ln)(b k:Nat):(row ls b k).b=(b:Int):=(je ls b k).bx
def more (ls:List Ln)(i:Nat)(l:List S):List S:=(Fl.mg (((Fl.live ls).getD i 0|||Fl.ou ls (Fl.live ls) i)|||Fl.sm (ls.getD i .z))).foldl (on (rc (i:Int))) l
def iP (ls:List Ln)(i:Nat)(l:List S):List S:=if(ls.getD i .z).k=7 then(Fl.mg (Fl.an (Fl.ou ls (Fl.live ls) i) (Fl.sm (ls.getD i .z)))).foldl (on xd) l else l
theorem Em (s:S):((zM s).f<0↔s.f<0)/\(zM s).b=s.b:=by unfold zM;split;{exact⟨⟨fun _=>by assumption,fun _=>by show(-1:Int)<0;decide⟩,rfl⟩};exact⟨Iff.rfl,rfl⟩
theorem Dt {ls:List Ln}(hok:Ln.isOk ls=true){i:Nat}(hi:i<ls.length):rows ls (i+1)=iP ls i (more ls i (rows ls i)):=by have AZ:(more ls i (rows ls i)).length=40:=by{unfold more;rw[rW,kN]};have hcl:(iP ls i (more ls i (rows ls i))).length=40:=by{unfold iP;split;{rw[rW,AZ]};exact AZ};have key:∀j,j<40->(iP ls i (more ls i (rows ls i))).getD j .z=zM (row ls j (i+1)):=by{intro j hj;have hm:(more ls i (rows ls i)).getD j .z=if ha ls j i=true then rc (i:Int) (zM (row ls j i))else zM (row ls j i):=by{unfold more;rw[wI _ _ _ _ (uB _) (fun b hb=>by rw[kN];exact wR _ b hb),mP ls i hj];have e:((j:Int)∈Fl.mg (((Fl.live ls).getD i 0|||Fl.ou ls (Fl.live ls) i)|||Fl.sm (ls.getD i .z)))↔ha ls j i=true:=by{rw[BH _ hj,Nat.testBit_or,Fl.EP (Ln.jE hok hi)];exact Iff.rfl};by_cases h:ha ls j i=true;{rw[ay h,ay (e.2 h)]};rw[ax h,ax (fun h2=>h (e.1 h2))]};have hc:(iP ls i (more ls i (rows ls i))).getD j .z=if cr ls j i=true then xd ((more ls i (rows ls i)).getD j .z)else(more ls i (rows ls i)).getD j .z:=by{unfold iP;by_cases h7:(ls.getD i .z).k=7;{rw[ay h7,wI _ _ _ _ (uB _) (fun b hb=>by rw[AZ];exact wR _ b hb)];have e:((j:Int)∈Fl.mg (Fl.an (Fl.ou ls (Fl.live ls) i) (Fl.sm (ls.getD i .z))))↔cr ls j i=true:=by{rw[BH _ hj,Fl.nQ,Fl.EP (Ln.jE hok hi)];unfold cr;rw[decide_eq_true h7,Bool.true_and,decide_not];rw[Bool.and_comm]};by_cases h:cr ls j i=true;{rw[ay h,ay (e.2 h)]};rw[ax h,ax (fun h2=>h (e.1 h2))]};rw[ax h7,ax];unfold cr;rw[decide_eq_false h7];simp};rw[hc,hm];show _=zM (ic ls j i (row ls j i));have hcz:=@OE ls j i;generalize row ls j i=r at hcz ⊢;obtain⟨b,f,t,c⟩:=r;dsimp only at hcz;unfold ic;by_cases h:ha ls j i=true;{rw[ay h,ay h];by_cases hf:f<0;{have hcz:=hcz hf;subst hcz;rcases hx:cr ls j i with _|_;{simp[zM,rc,hf,xd]};simp[zM,rc,hf,xd]};rcases hx:cr ls j i with _|_;{simp[zM,rc,hf,xd]};simp[zM,rc,hf,xd]};rw[ax h,ax h];rw[ax];intro hx;exact h (EJ hx)};refine List.ext_getElem (by rw[kN,hcl]) fun j h1 h2=>?_;have hj:j<40:=by{rw[kN]at h1;exact h1};have a:=mP ls (i+1) hj;have b:=key j hj;rw[ah,ai h1]at a;rw[ah,ai h2]at b;exact a.trans b.symm
theorem De (ls:List Ln):rows ls 0=(List.range 40).map fun(b:Nat)=>⟨(b:Int),-1,-1,false⟩:=rfl
structure Vs (l:List S):Prop where
 len:l.length=40
 bx:∀b:Nat,b<40->(l.getD b .z).b=(b:Int)
 un:∀b:Nat,b<40->(l.getD b .z).f<0->l.getD b .z=⟨(b:Int),-1,-1,false⟩
theorem xe (ls:List Ln)(i:Nat):Vs (rows ls i):=by refine⟨kN ls i,fun b hb=>?_,fun b hb h=>?_⟩;{rw[mP ls i hb,(Em _).2,JO]};rw[mP ls i hb]at h ⊢;unfold zM;rw[ay ((Em _).1.1 h),JO]
theorem Vs.on {F:S->S}{l:List S}(h:Vs l){b:Int}(h0:0<=b)(h1:b<40)(hb:∀s,(F s).b=s.b)(hf:∀s,0<=(F s).f\/(F s).f<0/\s.f<0/\F s=s):Vs (Sp.on F l b):=by have hl:=h.len;refine⟨by rw[AP,hl],fun j hj=>?_,fun j hj hn=>?_⟩;{rw[F7 F l b h0 (by omega)];split;{rw[hb,h.bx j hj]};exact h.bx j hj};rw[F7 F l b h0 (by omega)]at hn ⊢;split at hn;{rcases hf (l.getD j .z)with h2|⟨_,h2,h3⟩;{omega};rw[ay (by assumption),h3];exact h.un j hj h2};rw[ax (by assumption)];exact h.un j hj hn
theorem Vs.fold {F:S->S}(hb:∀s,(F s).b=s.b)(hf:∀s,0<=(F s).f\/(F s).f<0/\s.f<0/\F s=s):∀(bs:List Int)(l:List S),(∀b∈bs,0<=b/\b<40)->Vs l->Vs (bs.foldl (Sp.on F) l)
 |[],l,_,h=>h
 |b::bs,l,hi,h=>Vs.fold hb hf bs _ (fun x hx=>hi x (by simp[hx])) (h.on (hi b (by simp)).1 (hi b (by simp)).2 hb hf)
theorem V3 (n:Int)(s:S):(rc n s).b=s.b:=by unfold rc;split<;>rfl
theorem VT {n:Int}(hn:0<=n)(s:S):0<=(rc n s).f\/(rc n s).f<0/\s.f<0/\rc n s=s:=by unfold rc;split;{exact .inl hn};refine .inl ?_;dsimp only;omega
def bg (l:List S):Nat->List S
 |0=>[]
 |k+1=>if 0<=(l.getD k .z).f then bg l k++[l.getD k .z]else bg l k
theorem Fy (l:List S):∀k,(bg l k).length<=k
 |0=>by simp[bg]
 | k+1=>by
   have:=Fy l k
   unfold bg
   split
   · rw[List.length_append];simp;omega
   · omega
theorem Aq (ls:List Ln):∀k,k<=40->bg (rows ls ls.length) k=out ls k
 |0,_=>rfl
 | k +1,h=>by
   unfold bg out
   rw[Aq ls k (by omega),mP ls _ (by omega)]
   by_cases hf:(row ls k ls.length).f<0
   · have h1:=(Em (row ls k ls.length)).1.2 hf
     rw[ax (by omega),ax (by omega)]
   · have e:zM (row ls k ls.length)=row ls k ls.length:=by unfold zM;rw[ax hf]
     rw[e]
end Sp
end
section
set_option linter.unusedSimpArgs false
def JA (b:Int):Value:= .agg #[.int .i64 b, .int .i64 (-1), .int .i64 (-1), .bool false]
theorem eF:∀(l:List Sp.S)(k:Nat)(y:Sp.S),k<l.length->aW (l.set k y)=((((aW l).set (k*4) (.int .i64 y.b)).set (k*4+1) (.int .i64 y.f)).set (k*4+2) (.int .i64 y.t)).set (k*4+3) (.bool y.c)
 |[],k,y,h=>by simp at h
 |s::l,0,y,_=>rfl
 | s::l,k+1,y,h=>by
   have ih:=eF l k y (by simpa using h)
   rw[List.set_cons_succ,ik,ik,show(k+1)*4=k*4+1+1+1+1 by omega,show k*4+1+1+1+1+1=(k*4+1)+1+1+1+1 by omega,show k*4+1+1+1+1+2=(k*4+2)+1+1+1+1 by omega,show k*4+1+1+1+1+3=(k*4+3)+1+1+1+1 by omega]
   simp only[List.set_cons_succ]
   rw[ih]
theorem jM {α:Type _}{l:List α}{j:Nat}{x:α}(h:l[j]?=some x):l.set j x=l:=by obtain⟨h1,h2⟩:=List.getElem?_eq_some_iff.1 h;rw[←h2];exact List.set_getElem_self h1
theorem vU {α:Type _}{l:List α}{i j:Nat}{x:α}(h:i≠j):(l.set i x)[j]?=l[j]?:=List.getElem?_set_ne h
def SA (W:World)(g:Nat)(l:List Sp.S):Prop:=l.length=40/\gY W g 111 (aW l)
theorem SA.lt {W:World}{g:Nat}{l:List Sp.S}(h:SA W g l):g<W.heap.size:=h.2.lt
theorem SA.kept {W W':World}{g:Nat}{l:List Sp.S}(h:SA W g l)(hB:Below W.heap.size W W'):SA W' g l:=⟨h.1,h.2.kept hB⟩
theorem SA.bS {W W':World}{g:Nat}{l:List Sp.S}{row:Option Nat}(h:SA W g l)(hg:W.grownBy W' row)(hne:some g≠row):SA W' g l:=⟨h.1,h.2.bS hg hne⟩
theorem SA.frozen {W:World}{g:Nat}{l:List Sp.S}(h:SA W g l)(j:Nat):W.frozen? ⟨g,j,none⟩=false:=h.2.frozen j
theorem SA.cell {W:World}{g:Nat}{l:List Sp.S}(h:SA W g l){j:Nat}(hj:j<40):W.cell? ⟨g,j*4,none⟩=some (.int .i64 (l.getD j .z).b)/\W.cell? ⟨g,j*4+1,none⟩=some (.int .i64 (l.getD j .z).f)/\W.cell? ⟨g,j*4+2,none⟩=some (.int .i64 (l.getD j .z).t)/\W.cell? ⟨g,j*4+3,none⟩=some (.bool (l.getD j .z).c):=by obtain⟨h0,h1,h2,h3⟩:=fK l j (by rw[h.1];exact hj);exact⟨h.2.cell h0,h.2.cell h1,h.2.cell h2,h.2.cell h3⟩
theorem SA.put {W:World}{g:Nat}{l:List Sp.S}(h:SA W g l){j:Nat}(hj:j<40)(b f t:Int)(c:Bool):SA ((((W.setCell ⟨g,j*4,none⟩ (.int .i64 b)).setCell ⟨g,j*4+1,none⟩ (.int .i64 f)).setCell ⟨g,j*4+2,none⟩ (.int .i64 t)).setCell ⟨g,j*4+3,none⟩ (.bool c)) g (l.set j ⟨b,f,t,c⟩):=by refine⟨by rw[List.length_set];exact h.1,?_⟩;rw[eF l j ⟨b,f,t,c⟩ (by rw[h.1];exact hj)];exact(((h.2.set _ _).set _ _).set _ _).set _ _
theorem SA.to {W:World}{g:Nat}{l:List Sp.S}(h:SA W g l){j:Nat}(hj:j<40)(t:Int):SA (W.setCell ⟨g,j*4+2,none⟩ (.int .i64 t)) g (l.set j ⟨(l.getD j .z).b,(l.getD j .z).f,t,(l.getD j .z).c⟩):=by refine⟨by rw[List.length_set];exact h.1,?_⟩;have hlt:j<l.length:=by{rw[h.1];exact hj};rw[eF l j _ hlt];obtain⟨h0,h1,h2,h3⟩:=fK l j hlt;rw[jM h0,jM h1];have e:(((aW l).set (j*4+2) (.int .i64 t)).set (j*4+3) (.bool (l.getD j .z).c))=(aW l).set (j*4+2) (.int .i64 t):=jM (by rw[vU (by omega)];exact h3);dsimp only;rw[e];exact h.2.set _ _
theorem SA.fr {W:World}{g:Nat}{l:List Sp.S}(h:SA W g l){j:Nat}(hj:j<40)(f:Int):SA (W.setCell ⟨g,j*4+1,none⟩ (.int .i64 f)) g (l.set j ⟨(l.getD j .z).b,f,(l.getD j .z).t,(l.getD j .z).c⟩):=by refine⟨by rw[List.length_set];exact h.1,?_⟩;have hlt:j<l.length:=by{rw[h.1];exact hj};rw[eF l j _ hlt];obtain⟨h0,h1,h2,h3⟩:=fK l j hlt;rw[jM h0];dsimp only;have e2:((aW l).set (j*4+1) (.int .i64 f)).set (j*4+2) (.int .i64 (l.getD j .z).t)=(aW l).set (j*4+1) (.int .i64 f):=jM (by rw[vU (by omega)];exact h2);rw[e2];have e3:((aW l).set (j*4+1) (.int .i64 f)).set (j*4+3) (.bool (l.getD j .z).c)=(aW l).set (j*4+1) (.int .i64 f):=jM (by rw[vU (by omega)];exact h3);rw[e3];exact h.2.set _ _
theorem SA.cr {W:World}{g:Nat}{l:List Sp.S}(h:SA W g l){j:Nat}(hj:j<40):SA (W.setCell ⟨g,j*4+3,none⟩ (.bool true)) g (l.set j (Sp.xd (l.getD j .z))):=by refine⟨by rw[List.length_set];exact h.1,?_⟩;have hlt:j<l.length:=by{rw[h.1];exact hj};unfold Sp.xd;rw[eF l j _ hlt];obtain⟨h0,h1,h2,h3⟩:=fK l j hlt;rw[jM h0];dsimp only;rw[jM h1,jM h2];exact h.2.set _ _
theorem CJ {l:List Sp.S}{j:Nat}(hj:j<l.length)(y:Sp.S):(l.set j y).getD j .z=y:=by rw[ah,List.getElem?_set_self hj];rfl
theorem SA.both {W:World}{g:Nat}{l:List Sp.S}(h:SA W g l){j:Nat}(hj:j<40)(f t:Int):SA ((W.setCell ⟨g,j*4+1,none⟩ (.int .i64 f)).setCell ⟨g,j*4+2,none⟩ (.int .i64 t)) g (l.set j ⟨(l.getD j .z).b,f,t,(l.getD j .z).c⟩):=by have h1:=(h.fr hj f).to hj t;have e:∀y,(l.set j y).getD j .z=y:=fun y=>CJ (by rw[h.1];exact hj) y;simp only[e,List.set_set]at h1;exact h1
theorem gV (W:World)(g a b c d:Nat)(u v x y:Value):W.grownBy ((((W.setCell ⟨g,a,none⟩ u).setCell ⟨g,b,none⟩ v).setCell ⟨g,c,none⟩ x).setCell ⟨g,d,none⟩ y) (some g):=
 (((aF W ⟨g,a,none⟩ u).trans (aF _ ⟨g,b,none⟩ v)).trans (aF _ ⟨g,c,none⟩ x)).trans (aF _ ⟨g,d,none⟩ y)
theorem Af (W:World)(g a b:Nat)(u v:Value):W.grownBy ((W.setCell ⟨g,a,none⟩ u).setCell ⟨g,b,none⟩ v) (some g):=(aF W ⟨g,a,none⟩ u).trans (aF _ ⟨g,b,none⟩ v)
theorem mh {W W1 W2:World}{g:Nat}(hB:Below W.heap.size W W1)(hg:W1.grownBy W2 (some g)):W.grownBy W2 (some g):=
 ⟨hg.os.trans hB.os,hg.tape.trans hB.tape,hg.output.trans hB.output,Nat.le_trans hB.size hg.size,fun k hk hne=>(hg.block k (aj hk hB.size) hne).trans (hB.block k hk)⟩
theorem bY {W W1:World}{n:Nat}(hB:Below (W.drewN n).heap.size (W.drewN n) W1):Below W.heap.size W W1:=⟨hB.os,hB.tape,hB.output,hB.size,fun k hk=>hB.block k hk⟩
def NL (k:Nat):List Sp.S:=(List.range 40).map fun(b:Nat)=>if b<k then⟨(b:Int),-1,-1,false⟩else⟨0,0,0,false⟩
theorem LQ:NL 40=(List.range 40).map fun(b:Nat)=>⟨(b:Int),-1,-1,false⟩:=by refine List.map_congr_left fun b hb=>?_;rw[ay (List.mem_range.1 hb)]
theorem Ih (k:Nat)(hk:k<40):NL (k+1)=(NL k).set k ⟨(k:Int),-1,-1,false⟩:=by refine List.ext_getElem? fun j=>?_;by_cases h:k=j;{subst h;rw[List.getElem?_set_self (by simp[NL];exact hk)];simp[NL,hk]};rw[List.getElem?_set_ne h];unfold NL;rw[List.getElem?_map,List.getElem?_map];by_cases hj:j<40;{rw[List.getElem?_range hj];simp only[Option.map_some];by_cases h2:j<k;{rw[ay (by omega),ay h2]};rw[ax (by omega),ax h2]};rw[List.getElem?_eq_none (by simp;omega)];rfl
theorem ed (b:Int)(w:World):Calls Tryz.prog 45 #[.int .i64 b] w fun e w'=>e= .returned (JA b)/\Below w.heap.size w w':=by go_enter Tryz.func45,Tryz.ntmps45;go_wp2;refine bodyPost_ret (v:=JA b) ?_ rfl ⟨rfl,aA w _⟩;rw[aC rfl];go_simp;rfl
theorem EM:Tryz.prog.built 111 []=some (aW (NL 0)).toArray:=by kernel_rfl
theorem zV {ops:Array Oper}{rest:List Oper}{o:Oper}{a:Act}{w:World}{Q:Exit->Act->World->Prop}(hgd:o.guard=none)(ho:o.op= .build 111 #[])(zs:List Value)(hz:aW (NL 0)=zs)(h:wpList Tryz.prog ops Q rest (a.put o.dst (.agg zs.toArray)) w):wpList Tryz.prog ops Q (o::rest) a w:=by refine wpList_plain hgd fun K hK=>?_;have hrun:=run_build (P:=Tryz.prog) w 111 #[] _ EM;rw[hz]at hrun;unfold Oper.wp execOp;simp only[ho,Sem.run_bind];rw[show(Array.map (fun x:Nat×Operand=>(x.fst,a.eval x.snd)) #[])=#[]from by simp,hrun];simp only[Result.andThen_ok];exact hK _ _ h
theorem jl (w:World):Calls Tryz.prog 42 #[] w fun e w'=>∃g,e= .returned (.pointer (some ⟨g,0,none⟩))/\w.heap.size<=g/\SA w' g (NL 40)/\Below w.heap.size w w':=by obtain⟨zs,hzs⟩:∃zs,aW (NL 0)=zs:=⟨_,rfl⟩;have HZ:=ae hzs;go_enter Tryz.func42,Tryz.ntmps42;go_wp2_with(refine sD 111 _ rfl ?_);refine⟨?_⟩;refine zV rfl rfl zs hzs ?_;go_wp2_with(refine yG 111 _ rfl ?_);refine⟨?_⟩;refine oU rfl _ _ rfl zs rfl ?_;intro g1 w1 hg1 hA1 hB1;have HA:=ae (show SA w1 g1 (NL 0)/\Below w.heap.size w w1 from⟨⟨by simp[NL],by rw[HZ.out];exact hA1⟩,hB1⟩);have hge:w.heap.size<=g1:=Nat.le_of_eq hg1.out.symm;clear hg1 hA1 hB1 hzs HZ;go_wp2;go_loopg [5] 40 (fun gk vi wr=>∃(k:Nat),gk=40-k/\k<=40/\vi= .int .i64 (k:Int)/\SA wr g1 (NL k)/\Below w.heap.size w wr);(case atStart=>exact⟨0,rfl,by omega,rfl,HA.out.1,HA.out.2⟩);case round=>obtain⟨k,mJ,hk,rfl,hs,hB⟩:=hrel;clear HA;have HH:=ae (ak hs hB);by_cases hlt:k<40;{have bE:(k:Int)<40:=by{omega};have hgl:=hs.lt;have hfz:=hs.frozen;have aZ:=hB.size;obtain⟨d0,d1,d2,d3⟩:=hs.cell hlt;clear hs hB;go_wp2_with fail;go_region_with (go_at_call 45;refine(ed _ _).mono ?_;rintro e w4 ⟨rfl,hB4⟩;unfold JA;have hs4:=HH.out.1.kept (bY hB4);have bI:=HH.out.2.trans ((bY hB4).mono aZ);have Jh:=hs4.lt;have Ji:=hs4.frozen;obtain⟨e0,e1,e2,e3⟩:=hs4.cell hlt;have Ed:=ae (ak hs4 bI);clear hs4 bI hB4);have HF:=ae (ak (Ed.out.1.put hlt (k:Int) (-1) (-1) false) (aB Ed.out.2 (gV _ g1 (k*4) (k*4+1) (k*4+2) (k*4+3) (.int .i64 (k:Int)) (.int .i64 (-1)) (.int .i64 (-1)) (.bool false)) hge));rw[←Ih k hlt]at HF;go_wp2;go_roundg (40-(k+1));(case measure=>omega);case rel=>exact⟨k+1,rfl,hlt,by simp,HF.out.1,HF.out.2⟩};have hke:k=40:=by{omega};subst hke;clear hs hB;go_wp2;go_ret;exact⟨g1,rfl,hge,HH.out.1,HH.out.2⟩
theorem zZ (l:List Sp.S)(hv:Sp.Vs l)(j:Nat)(hj:j<40)(n:Int)(g:Nat)(w:World)(hs:SA w g l):Calls Tryz.prog 75 #[.pointer (some ⟨g,0,none⟩), .int .i64 (j:Int), .int .i64 n] w fun e w'=>e= .returned (.tuple #[])/\SA w' g (Sp.on (Sp.rc n) l (j:Int))/\w.grownBy w' (some g):=by have I7:(j:Int)<40:=by{omega};have HH:=ae hs;have hgl:=hs.lt;have hfz:=hs.frozen;obtain⟨d0,d1,d2,d3⟩:=hs.cell hj;have Mw:Hid (Sp.on (Sp.rc n) l (j:Int)=l.set j (Sp.rc n (l.getD j .z))):=rfl;have hbx:=hv.bx j hj;have hun:=hv.un j hj;have HX:Hid (∀W t,SA W g l->SA (W.setCell ⟨g,j*4+2,none⟩ (.int .i64 t)) g (l.set j ⟨(l.getD j .z).b,(l.getD j .z).f,t,(l.getD j .z).c⟩)):=fun W t h=>h.to hj t;have HY:Hid (∀W f t,SA W g l->SA ((W.setCell ⟨g,j*4+1,none⟩ (.int .i64 f)).setCell ⟨g,j*4+2,none⟩ (.int .i64 t)) g (l.set j ⟨(l.getD j .z).b,f,t,(l.getD j .z).c⟩)):=fun W f t h=>h.both hj f t;have HCE:Hid (∀W,SA W g l->W.cell? ⟨g,j*4,none⟩=some (.int .i64 (l.getD j .z).b)/\W.cell? ⟨g,j*4+1,none⟩=some (.int .i64 (l.getD j .z).f)/\W.cell? ⟨g,j*4+2,none⟩=some (.int .i64 (l.getD j .z).t)/\W.cell? ⟨g,j*4+3,none⟩=some (.bool (l.getD j .z).c)):=fun W h=>h.cell hj;generalize l.getD j .z=s at d0 d1 d2 d3 hbx hun HX HY Mw HCE;obtain⟨l2,hl2⟩:∃l2,Sp.on (Sp.rc n) l (j:Int)=l2:=⟨_,rfl⟩;rw[hl2]at Mw ⊢;obtain⟨sb,sf,st,sc⟩:=s;dsimp only at hbx hun d0 d1 d2 d3;subst hbx;clear hs hv hl2;by_cases hf:sf<0;{have h2:=hun hf;injection h2 with _ h3 h4 h5;subst h3 h4 h5;clear hun hf;go_enter Tryz.func75,Tryz.ntmps75;go_wp2;go_region_with (go_at_call 45;refine(ed _ _).mono ?_;rintro e w4 ⟨rfl,hB4⟩;unfold JA;have hs4:=HH.out.kept (bY hB4);have Jh:=hs4.lt;have Ji:=hs4.frozen;obtain⟨e0,e1,e2,e3⟩:=HCE.out _ hs4;have Ed:=ae (ak hs4 (bY hB4));clear hs4 hB4);all_goals go_wp2;refine bodyPost_end (results_none rfl _ _ _) rfl ⟨rfl,?_,mh Ed.out.2 (Af _ _ _ _ _ _)⟩;rw[Mw.out];have e:Sp.rc n ⟨(j:Int),-1,-1,false⟩=⟨(j:Int),n,n,false⟩:=by{unfold Sp.rc;rw[ay (show(-1:Int)<0 by decide)]};rw[e];exact HY.out _ n n Ed.out.1};have hq:¬sf=-1:=by{omega};have HRC:Hid (Sp.rc n ⟨(j:Int),sf,st,sc⟩=⟨(j:Int),sf,n,sc⟩):=by{show _=_;unfold Sp.rc;rw[ax (by simpa using hf)]};clear hun hf;go_enter Tryz.func75,Tryz.ntmps75;go_wp2;go_region_with (go_at_call 45;refine(ed _ _).mono ?_;rintro e w4 ⟨rfl,hB4⟩;unfold JA;have hs4:=HH.out.kept (bY hB4);have Jh:=hs4.lt;have Ji:=hs4.frozen;obtain⟨e0,e1,e2,e3⟩:=HCE.out _ hs4;have Ed:=ae (ak hs4 (bY hB4));clear hs4 hB4);all_goals go_wp2;refine bodyPost_end (results_none rfl _ _ _) rfl ⟨rfl,?_,mh Ed.out.2 (aF _ ⟨g,j*4+2,none⟩ _)⟩;rw[Mw.out,HRC.out];exact HX.out _ n Ed.out.1
end
theorem uw (x y:Sp.S)(w:World):Calls Tryz.prog 33 #[.agg #[.int .i64 x.b, .int .i64 x.f, .int .i64 x.t, .bool x.c], .agg #[.int .i64 y.b, .int .i64 y.f, .int .i64 y.t, .bool y.c]] w fun e w'=>e= .returned (.bool (Sp.bH x y))/\Below w.heap.size w w':=by
 have HM:Hid (Sp.bH x y=decide (max x.f y.f<=min x.t y.t)):=by show _=_;unfold Sp.bH;rw[Bool.eq_iff_iff];simp only[au,decide_eq_true_eq];omega
 obtain⟨xb,xf,xt,xc⟩:=x
 obtain⟨yb,yf,yt,yc⟩:=y
 dsimp only at HM ⊢
 obtain⟨q,hq⟩:∃q,Sp.bH ⟨xb,xf,xt,xc⟩ ⟨yb,yf,yt,yc⟩=q:=⟨_,rfl⟩
 rw[hq]at HM ⊢
 clear hq
 have hal:=aA w (.cells #[.int .i64 xb, .int .i64 xf, .int .i64 xt, .bool xc] 45)
 have HB:=ae (hal.trans ((aA (w.alloc (.cells #[.int .i64 xb, .int .i64 xf, .int .i64 xt, .bool xc] 45)) (.cells #[.int .i64 yb, .int .i64 yf, .int .i64 yt, .bool yc] 45)).mono hal.size))
 clear hal
 go_enter Tryz.func33,Tryz.ntmps33
 go_wp2
 all_goals
  go_ret
  refine⟨?_,HB.out⟩
  first
    |exact(show Ending.returned (.bool (decide (max xf yf<=min xt yt)))=Ending.returned (.bool q)from by rw[HM.out])
    |exact(show Ending.returned (.bool (decide (xf<=xt)))=Ending.returned (.bool q)from by rw[HM.out,show decide (xf<=xt)=decide (max xf yf<=min xt yt)from decide_eq_decide.2 (by omega)])
    |exact(show Ending.returned (.bool (decide (xf<=yt)))=Ending.returned (.bool q)from by rw[HM.out,show decide (xf<=yt)=decide (max xf yf<=min xt yt)from decide_eq_decide.2 (by omega)])
    |exact(show Ending.returned (.bool (decide (yf<=xt)))=Ending.returned (.bool q)from by rw[HM.out,show decide (yf<=xt)=decide (max xf yf<=min xt yt)from decide_eq_decide.2 (by omega)])
    |exact(show Ending.returned (.bool (decide (yf<=yt)))=Ending.returned (.bool q)from by rw[HM.out,show decide (yf<=yt)=decide (max xf yf<=min xt yt)from decide_eq_decide.2 (by omega)])
section
set_option linter.unusedSimpArgs false
structure lK (W W':World)(a b:Nat):Prop where
 os:W'.os=W.os
 tape:W'.tape=W.tape
 output:W'.output=W.output
 size:W.heap.size<=W'.heap.size
 block:∀k,k<W.heap.size->k≠a->k≠b->W'.heap[k]?=W.heap[k]?
theorem lK.kQ {W W':World}(h:Below W.heap.size W W')(a b:Nat):lK W W' a b:=⟨h.os,h.tape,h.output,h.size,fun k hk _ _=>h.block k hk⟩
theorem lK.BJ {W W':World}{a:Nat}(h:W.grownBy W' (some a))(b:Nat):lK W W' a b:=⟨h.os,h.tape,h.output,h.size,fun k hk hne _=>h.block k hk (by simpa using hne)⟩
theorem lK.yV {W W':World}{b:Nat}(h:W.grownBy W' (some b))(a:Nat):lK W W' a b:=⟨h.os,h.tape,h.output,h.size,fun k hk _ hne=>h.block k hk (by simpa using hne)⟩
theorem lK.trans {W W' W'':World}{a b:Nat}(h:lK W W' a b)(h':lK W' W'' a b):lK W W'' a b:=
 ⟨h'.os.trans h.os,h'.tape.trans h.tape,h'.output.trans h.output,Nat.le_trans h.size h'.size,fun k hk h1 h2=>(h'.block k (aj hk h.size) h1 h2).trans (h.block k hk h1 h2)⟩
theorem lK.below {W0 W W':World}{a b n:Nat}(hB:Below n W0 W)(h:lK W W' a b)(hn:n<=W.heap.size)(ha:n<=a)(hb:n<=b):Below n W0 W':=
 ⟨h.os.trans hB.os,h.tape.trans hB.tape,h.output.trans hB.output,Nat.le_trans hB.size h.size,fun k hk=>(h.block k (by omega) (by omega) (by omega)).trans (hB.block k hk)⟩
theorem gY.two {W W':World}{g a b:Nat}{t:TypeId}{vs:List Value}(h:gY W g t vs)(hT:lK W W' a b)(ha:g≠a)(hb:g≠b):gY W' g t vs:=(hT.block g h.lt ha hb).trans h
theorem SG.xM {W W':World}{n₀ g n c:Nat}{l:List Sp.S}(h:SG W n₀ g n c l)(hb:W'.heap[g]?=W.heap[g]?):SG W' n₀ g n c l:=by refine⟨h.1,h.2.1,?_⟩;rcases h.2.2 with⟨e,-⟩|⟨g',cap,cur,e,h1,h2,r⟩;{cases e};cases e;exact .inr ⟨g,c,cur,rfl,h1,hb.trans h2,r⟩
theorem SG.two {W W':World}{n₀ g n c a b:Nat}{l:List Sp.S}(h:SG W n₀ g n c l)(hT:lK W W' a b)(ha:g≠a)(hb:g≠b):SG W' n₀ g n c l:=h.xM (hT.block g h.lt.2 ha hb)
theorem SG.under {W W':World}{n₀ g n c m:Nat}{l:List Sp.S}(h:SG W n₀ g n c l)(hB:Below m W W')(hg:g<m):SG W' n₀ g n c l:=h.xM (hB.block g hg)
theorem SG.frozen {W:World}{n₀ g n c:Nat}{l:List Sp.S}(h:SG W n₀ g n c l)(j:Nat):W.frozen? ⟨g,j,none⟩=false:=by rcases h.2.2 with⟨e,-⟩|⟨g',cap,cur,e,h1,h2,r⟩;{cases e};cases e;exact frozen_of_row W g j _ _ h2
theorem SG.take {W:World}{n₀ g n c:Nat}{l:List Sp.S}(h:SG W n₀ g n c l){m:Nat}(hm:m<=n):SG W n₀ g m c (l.take m):=by have hl:(l.take m).length=m:=by{rw[List.length_take,h.1];omega};refine⟨hl,by rw[gP,hl],?_⟩;rcases h.2.2 with⟨e,-⟩|⟨g',cap,cur,e,h1,h2,h3,h4,h5,h6⟩;{cases e};cases e;refine .inr ⟨g,c,cur,rfl,h1,h2,by omega,h4,h5,?_⟩;have e1:aW l=aW (l.take m)++aW (l.drop m):=by{rw[←jI,List.take_append_drop]};have e2:(aW (l.take m)).length=m*4:=by{rw[gP,hl]};have e3:cur.toList.take (m*4)=(cur.toList.take (n*4)).take (m*4):=by{rw[List.take_take,Nat.min_eq_left (by omega)]};rw[e3,h6,e1,List.take_append_of_le_length (by omega),List.take_of_length_le (by omega)]
theorem SG.put {W:World}{n₀ g n c:Nat}{l:List Sp.S}(h:SG W n₀ g n c l){j:Nat}(hj:j<n)(y:Sp.S):SG ((((W.setCell ⟨g,j*4,none⟩ (.int .i64 y.b)).setCell ⟨g,j*4+1,none⟩ (.int .i64 y.f)).setCell ⟨g,j*4+2,none⟩ (.int .i64 y.t)).setCell ⟨g,j*4+3,none⟩ (.bool y.c)) n₀ g n c (l.set j y):=by refine⟨by rw[List.length_set];exact h.1,by rw[gP,List.length_set,h.1],?_⟩;rcases h.2.2 with⟨e,-⟩|⟨g',cap,cur,e,h1,h2,h3,h4,h5,h6⟩;{cases e};cases e;have st:∀(W:World)(cur:Array Value)(k:Nat)(v:Value),W.heap[g]?=some (.cells cur 45 (0,0))->(W.setCell ⟨g,k,none⟩ v).heap[g]?=some (.cells (cur.setIfInBounds k v) 45 (0,0)):=fun W cur k v h=>heap_setCell_same W g k cur _ v h;refine .inr ⟨g,c,_,rfl,h1,st _ _ _ _ (st _ _ _ _ (st _ _ _ _ (st _ _ _ _ h2))),h3,h4,by simp[h5],?_⟩;rw[eF l j y (by rw[h.1];exact hj),←h6];simp only[Array.toList_setIfInBounds,List.take_set]
def WH (W:World)(n₀ gp g c:Nat)(l:List Sp.S):Prop:=gY W gp 63 [.slice (some ⟨g,0,none⟩) l.length c]/\SG W n₀ g l.length c l/\gp≠g/\n₀<=gp
theorem WH.cell {W:World}{n₀ gp g c:Nat}{l:List Sp.S}(h:WH W n₀ gp g c l):W.cell? ⟨gp,0,none⟩=some (.slice (some ⟨g,0,none⟩) l.length c):=h.1.cell rfl
theorem WH.frozen {W:World}{n₀ gp g c:Nat}{l:List Sp.S}(h:WH W n₀ gp g c l):W.frozen? ⟨gp,0,none⟩=false:=h.1.frozen 0
theorem WH.kept {W W':World}{n₀ gp g c:Nat}{l:List Sp.S}(h:WH W n₀ gp g c l)(hB:Below W.heap.size W W'):WH W' n₀ gp g c l:=⟨h.1.kept hB,h.2.1.kept hB,h.2.2⟩
theorem WH.two {W W':World}{n₀ gp g c a b:Nat}{l:List Sp.S}(h:WH W n₀ gp g c l)(hT:lK W W' a b)(h1:gp≠a)(h2:gp≠b)(h3:g≠a)(h4:g≠b):WH W' n₀ gp g c l:=⟨h.1.two hT h1 h2,h.2.1.two hT h3 h4,h.2.2⟩
theorem WH.sw {W W':World}{n₀ gp g c:Nat}{l:List Sp.S}(h:WH W n₀ gp g c l){i j:Nat}(hs:SG W' n₀ g l.length c (Hp.sw l i j))(hg:W.grownBy W' (some g)):WH W' n₀ gp g c (Hp.sw l i j):=by refine⟨?_,?_,h.2.2⟩;{rw[Hp.bT];exact h.1.bS hg (by simpa using h.2.2.1)};rw[Hp.bT];exact hs
theorem Iz (gp:Nat)(w:World):(method 333 36 (.pointer (some ⟨gp,0,none⟩)) "Push").run Tryz.prog w= .ok (164, .pointer (some ⟨gp,0,none⟩)) w:=by kernel_rfl
theorem KI (gp:Nat)(w:World):(method 333 36 (.pointer (some ⟨gp,0,none⟩)) "Pop").run Tryz.prog w= .ok (163, .pointer (some ⟨gp,0,none⟩)) w:=by kernel_rfl
theorem ll {gp:Nat}{w:World}{v:Value}(h:w.cell? ⟨gp,0,none⟩=some v):(method 333 36 (.pointer (some ⟨gp,0,none⟩)) "Less").run Tryz.prog w= .ok (162,v) w:=by have e:(method 333 36 (.pointer (some ⟨gp,0,none⟩)) "Less").run Tryz.prog w=Sem.run Tryz.prog (Sem.load .plain ⟨gp,0,none⟩ fun v=> .pure (162,v)) w:=by{kernel_rfl};rw[e];simp[Sem.run,h]
theorem mZ {gp:Nat}{w:World}{v:Value}(h:w.cell? ⟨gp,0,none⟩=some v):(method 333 36 (.pointer (some ⟨gp,0,none⟩)) "Swap").run Tryz.prog w= .ok (165,v) w:=by have e:(method 333 36 (.pointer (some ⟨gp,0,none⟩)) "Swap").run Tryz.prog w=Sem.run Tryz.prog (Sem.load .plain ⟨gp,0,none⟩ fun v=> .pure (165,v)) w:=by{kernel_rfl};rw[e];simp[Sem.run,h]
theorem Fg {gp:Nat}{w:World}{v:Value}(h:w.cell? ⟨gp,0,none⟩=some v):(method 333 36 (.pointer (some ⟨gp,0,none⟩)) "Len").run Tryz.prog w= .ok (22,v) w:=by have e:(method 333 36 (.pointer (some ⟨gp,0,none⟩)) "Len").run Tryz.prog w=Sem.run Tryz.prog (Sem.load .plain ⟨gp,0,none⟩ fun v=> .pure (22,v)) w:=by{kernel_rfl};rw[e];simp[Sem.run,h]
theorem Ff (args:Array Value)(w:World):(callFunc 22 args).run Tryz.prog w= .ok (.enter 22 args) w:=enters_of (P:=Tryz.prog) Tryz.func22 (by kernel_rfl) rfl args w
theorem BD (args:Array Value)(w:World):(callFunc 162 args).run Tryz.prog w= .ok (.enter 162 args) w:=enters_of (P:=Tryz.prog) Tryz.func162 (by kernel_rfl) rfl args w
theorem wQ (args:Array Value)(w:World):(callFunc 165 args).run Tryz.prog w= .ok (.enter 165 args) w:=enters_of (P:=Tryz.prog) Tryz.func165 (by kernel_rfl) rfl args w
theorem H6 (args:Array Value)(w:World):(callFunc 164 args).run Tryz.prog w= .ok (.enter 164 args) w:=enters_of (P:=Tryz.prog) Tryz.func164 (by kernel_rfl) rfl args w
theorem Lh (args:Array Value)(w:World):(callFunc 163 args).run Tryz.prog w= .ok (.enter 163 args) w:=enters_of (P:=Tryz.prog) Tryz.func163 (by kernel_rfl) rfl args w
theorem mW (a:Option Addr)(n c:Nat)(w:World):Calls Tryz.prog 22 #[.slice a n c] w fun e w'=>e= .returned (.int .i64 n)/\w'=w:=by go_enter Tryz.func22,Tryz.ntmps22;go_wp2;go_ret;exact⟨rfl,rfl⟩
theorem jw (n₀ g n c:Nat)(l:List Sp.S)(i j:Nat)(hi:i<n)(hj:j<n)(w:World)(hs:SG w n₀ g n c l):Calls Tryz.prog 162 #[.slice (some ⟨g,0,none⟩) n c, .int .i64 (i:Int), .int .i64 (j:Int)] w fun e w'=>e= .returned (.bool (Hp.lt (l.getD i .z) (l.getD j .z)))/\Below w.heap.size w w':=by obtain⟨d0,d1,d2,d3⟩:=hs.cell hi;obtain⟨e0,e1,e2,e3⟩:=hs.cell hj;have Pm:(i:Int)<(n:Int):=by{omega};have I7:(j:Int)<(n:Int):=by{omega};have hcap:=hs.cap;have HL:Hid (Hp.lt (l.getD i .z) (l.getD j .z)=if(l.getD i .z).f=(l.getD j .z).f then decide ((l.getD i .z).b<(l.getD j .z).b)else decide ((l.getD i .z).f<(l.getD j .z).f)):=rfl;generalize Hp.lt (l.getD i .z) (l.getD j .z)=r at HL ⊢;generalize l.getD i .z=s at d0 d1 d2 d3 HL;generalize l.getD j .z=t at e0 e1 e2 e3 HL;obtain⟨sb,sf,st,sc⟩:=s;obtain⟨tb,tf,tt,tc⟩:=t;dsimp only at d0 d1 d2 d3 e0 e1 e2 e3 HL;clear hs;by_cases hf:sf=tf;{subst hf;have HR:Hid (r=decide (sb<tb)):=by{show _=_;rw[HL.out,ay rfl]};clear HL;go_enter Tryz.func162,Tryz.ntmps162;go_wp2_with fail;go_region;go_wp2_with fail;go_region;all_goals go_wp2;go_ret;exact⟨by rw[HR.out]<;>rfl,(Below.refl _ _).drew.drew⟩};have HR:Hid (r=decide (sf<tf)):=by{show _=_;rw[HL.out,ax hf]};clear HL;go_enter Tryz.func162,Tryz.ntmps162;go_wp2_with fail;go_region;go_wp2_with fail;go_region;all_goals go_wp2;go_ret;exact⟨by rw[HR.out]<;>rfl,(Below.refl _ _).drew.drew⟩
end
end Go.Proofs.YthamlonlgnjljaaGreat
