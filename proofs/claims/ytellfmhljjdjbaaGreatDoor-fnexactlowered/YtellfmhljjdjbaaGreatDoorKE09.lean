/-
  Own texts for a law: Pile5 Lo0 Lo1 QTail Phi Phi2 PhiW Low2 Low3
-/
import Derived.Test.YtellfmhljjdjbaaGreatDoorKE08
import Derived.StillTail
namespace Go.Proofs.YtellfmhljjdjbaaGreatDoor
open Go.RowKit Go.Shelf
set_option linter.all false
set_option maxRecDepth 100000
set_option maxHeartbeats 16000000
theorem nY (S:List Nat):(dE S).length=S.length:=by simp[dE]
theorem zH (S:List Nat)(k:Nat)(hk:k<S.length):(dE S.reverse).getD k 0=(dE S).getD (S.length-1-k) 0:=by simp only[dE,ai,List.map_reverse];rw[List.getElem?_reverse (by simpa using hk)];simp
theorem o8 {w:World}{m0 N gE gO:Nat}{a:Option Addr}{len cap:Nat}{E O:List Int}{S:List Nat}{b:Bool}{W:World}(hs:PS w m0 N gE gO a len cap E O S b W)(hS:S.length<=80):Calls Tryz.prog 164 #[.pointer (some ⟨N,1,none⟩)] W fun e w'=>∃v,e= .returned v/\OI w' W.heap.size v (dE S)/\Below W.heap.size W w':=by obtain⟨i0,hi,hz0,hz1,hz2⟩:=info_parts bW;obtain⟨v,hb,hr⟩:=hs.st;obtain⟨av,cv,rfl⟩:=aQ hr;obtain⟨h0,⟨c0,c1,c2,c3,c4⟩,f0,f1,f2,f3,f4⟩:=hb;obtain⟨n,hn⟩:∃n,S.length=n:=⟨_,rfl⟩;rw[hn]at hr c1 hS;have hmk:=run_make (P:=Tryz.prog) W 39 2 i0 _ Tryz.underlying39 hi hz0 .i64 .i64 0 (n:Int) (by omega) (by omega) (by rw[hz2];omega) (by omega);rw[hz1]at hmk;simp only[aA,Int.toNat_zero]at hmk;have dQ:=ni (World.ownsRow_lit (base:=W.heap.size) (size:=1) (e:=2) W (madeCells (Value.int .i64 0).cells (n*1)) n (Nat.le_refl _) (by simp only[maxLen];omega) (size_madeCells _ _)) 0 (Nat.zero_le _);rw[List.take_zero]at dQ;have hB0:=aB W (.cells (madeCells (Value.int .i64 0).cells (n*1)) 2);obtain⟨wm,Bo⟩:∃wm,W.alloc (.cells (madeCells (Value.int .i64 0).cells (n*1)) 2)=wm:=⟨_,rfl⟩;rw[Bo]at hmk dQ hB0;have d1:=(hB0.cell (p:=⟨N,1,none⟩) h0).trans c1;clear Bo hs c0 c2 c3 c4 f0 f1 f2 f3 f4;go_enter Tryz.func164,Tryz.ntmps164;go_wp2;go_loopw [3,4] (fun v i wr=>∃(k g c:Nat),i= .int .i64 ((k:Int)-1)/\k<=n/\v= .slice (some ⟨g,0,none⟩) (n-k) c/\wr.ownsRow W.heap.size 2 1 (.slice (some ⟨g,0,none⟩) (n-k) c) (n-k) (((dE S).take (n-k)).map iv)/\Below W.heap.size W wr) (fun _ i _=>(intOf i+1).toNat);(case atStart=>refine⟨n,_,n,rfl,Nat.le_refl _,by rw[Nat.sub_self],?_,hB0⟩;rw[Nat.sub_self,List.take_zero];exact dQ);case round=>obtain⟨k,g,c,rfl,hk,rfl,hown,hB⟩:=hrel;clear dQ hB0 hmk d1;have HN:=af hn;clear hn;rcases Nat.eq_zero_or_pos k with rfl|hkp;{have HOW:=af hown;clear hown hr;go_wp2;go_ret;refine⟨_,rfl,?_,hB⟩;have h:=HOW.out;rw[Nat.sub_zero,List.take_of_length_le (by rw[nY,HN.out];exact Nat.le_refl _)]at h;unfold OI;rw[nY,HN.out];exact h};obtain⟨j,rfl⟩:∃j,k=j+1:=⟨k-1,by omega⟩;have hij:((j+1:Nat):Int)-1=(j:Int):=by{omega};rw[hij];rcases hr.2 with⟨-,h0'⟩|⟨gv,cap',cur,e',-⟩;{omega};cases e';have hx:=dx (xs:=dE S.reverse) hr (k:=j) (by omega) 0;have hgv:=(hr.lt gv rfl).2;rw[zH S j (by rw[HN.out];omega),HN.out]at hx;obtain⟨x,gD⟩:∃x,(dE S).getD (n-1-j) 0=x:=⟨_,rfl⟩;rw[gD]at hx;have e1:=(hB.cell (p:=⟨N,1,none⟩) h0).trans c1;have e2:=(hB.cell (p:=⟨gv,j,none⟩) hgv).trans hx;have hBx:=hB.alloc hB.size (.cells #[.int .i64 x] 2);have HRW:=af (hown.alloc (.cells #[.int .i64 x] 2));have hsz:=hB.size;have HX:=af gD;obtain⟨m,hm⟩:∃m,n-(j+1)=m:=⟨_,rfl⟩;rw[hm]at HRW ⊢;have X5:m<=80:=by{omega};have HM:=af hm;clear hr hown hB gD hx hm;go_wp2_with(at_builtin;refine wpList_append_own _ rfl _ _ 39 rfl W.heap.size 2 i0 (.int .i64 0) 1 8 Tryz.underlying39 hi hz0 hz1 hz2 rfl (by decide) _ _ _ rfl HRW.out ⟨wr.heap.size,0,none⟩ 1 1 [.int .i64 x] rfl rfl (dW _ _ _ _ rfl) (by simp[Value.oneCell']) (by simp only[maxLen];omega) (by omega) (by simp;omega) ?_;intro v' wA hown' hgrow _;have hB4:=dz HRW.out hBx (by simp;omega) hgrow;obtain⟨g',cap',rfl⟩:=ownsRow_succ hown');go_roundw;(case rel=>have hm:=HM.out;have e:n-j=m+1:=by{omega};have e':(dE S).take (m+1)=(dE S).take m++[x]:=by{have hl:=nY S;have hn:=HN.out;have gD:=HX.out;rw[List.take_add_one,aj (by omega)];rw[ai,aj (by omega)]at gD;have:n-1-j=m:=by{omega};simp only[this,Option.getD_some]at gD;rw[gD];rfl};refine⟨j,g',cap',rfl,by omega,by rw[e],?_,hB4⟩;rw[e,e',List.map_append];exact hown');case measure=>first|(simp[intOf];done)|(simp[intOf];omega)
theorem PI.eT {xs:List (Int×Int)}{n:Nat}{E O:List Int}{S:List Nat}{b:Bool}(h:PI xs n E O S b)(hok:aC.isOk xs=true)(hn:n<xs.length):aC.eT xs n=dE S:=by have h2:(aC.all xs).2.2=true:=by{rw[aC.isOk,ax]at hok;exact hok.2};rcases b with _|_;{obtain⟨hi,hg⟩:=h.inv rfl;have:=hi.eT (Ef:=(aC.all xs).1) (Of:=(aC.all xs).2.1) (by rw[←hg,←h2]);rw[aC.eT,az ⟨hok,by omega,by omega⟩,aA,aC.ends,az hok];exact this};rw[h.Ui hn]at h2;cases h2
theorem tQ (a:Option Addr)(len cap:Nat)(xs:List (Int×Int))(at':Int)(w:World)(hs:SL w a len xs):Calls Tryz.prog 146 #[.slice a len cap, .int .i64 at'] w fun e w'=>∃v,e= .returned v/\OI w' w.heap.size v (aC.eT xs at')/\Below w.heap.size w w':=by have hcon:=sV a len cap xs w hs;have hl:=hs.1;have hm:=hs.2.1;unfold maxLen at hm;rcases h:aC.isOk xs with _|_;{rw[h]at hcon;have he:aC.eT xs at'=[]:=by{rw[aC.eT,ay (by simp[h])]};rw[he];clear he h;go_enter Tryz.func146,Tryz.ntmps146;go_wp2_with fail;refine hcon.mono ?_;rintro e w1 ⟨rfl,hB⟩;clear hcon;go_wp2;go_ret;exact⟨_,rfl,(OI.empty w1).mono hB.size,hB.alloc hB.size _⟩};rw[h]at hcon;have hg:decide (xs.length<=80)=true/\St.aR xs=true:=by{have h':=h;rw[aC.isOk,ax,ax]at h';exact h'.1};have h80:len<=80:=by{have:=of_decide_eq_true hg.1;omega};have HG:=af hg.2;have HI:=af h;rcases hin:Wd.eY at' 0 ((len:Int)-1)with _|_;{have he:aC.eT xs at'=[]:=by{rw[aC.eT,ay];rintro⟨-,q1,q2⟩;rw[Wd.aW.2 ⟨q1,by omega⟩]at hin;cases hin};rw[he];clear he h hg;go_enter Tryz.func146,Tryz.ntmps146;go_wp2_with fail;refine hcon.mono ?_;rintro e w1 ⟨rfl,hB⟩;clear hcon;go_wp2_with(go_at_call 33;refine(aY _ _ _ _).mono ?_;rintro e w' ⟨rfl,dw⟩;subst w');go_ret;exact⟨_,rfl,(OI.empty w1).mono hB.size,hB.alloc hB.size _⟩};have hin':=Wd.aW.1 hin;obtain⟨n,rfl⟩:∃n:Nat,at'=n:=⟨at'.toNat,by omega⟩;have hnl:n<len:=by{omega};clear h hg;go_enter Tryz.func146,Tryz.ntmps146;go_wp2_with fail;refine hcon.mono ?_;rintro e w1 ⟨rfl,hB⟩;clear hcon;have hs1:=hs.kept hB;go_wp2_with(go_at_call 33;refine(aY _ _ _ _).mono ?_;rintro e w' ⟨rfl,dw⟩;subst w');refine(dV a len cap h80 w1).mono ?_;rintro e w2 ⟨m0,N,gE,gO,rfl,hps⟩;have eX:=lg hs1 HG.out h80 n (by omega) hps;clear hps;go_wp2_with fail;refine eX.mono ?_;rintro e w3 (⟨E',O',S',b',rfl,hs3,hp3⟩|⟨rfl,hno,hB3⟩);{clear eX;have hB4:=hB.trans (hs3.bA.mono hB.size);have hsl:=hp3.sl;have jV:=o8 hs3 (by omega);have HP:=af (hp3.eT HI.out (by omega));clear hp3 hs3;go_wp2_with fail;refine jV.mono ?_;rintro e w4 ⟨v,rfl,hoi,di⟩;clear jV;obtain⟨av,cv,rfl,-⟩:=hoi.slice;have FJ:=af (hoi.mono hB4.size);have bC:=hB4.trans (di.mono hB4.size);clear hoi;go_wp2;go_ret;rw[HP.out];exact⟨_,rfl,FJ.out,bC⟩};exfalso;have h2:=HI.out;rw[aC.isOk,hno,Bool.and_false]at h2;cases h2
structure LY where
 B:Nat
 fa:Option Addr
 fl:Nat
 fc:Nat
 ba:Option Addr
 bc:Nat
 Nb:Nat
 ea:Option Addr
 ec:Nat
 oa:Option Addr
 oc:Nat
 ha:Option Addr
 hc:Nat
 fs:List Fn
 f:Fn
 E:List Int
 O:List Int
 H:List Int
def LY.ku (c:LY)(v vg:Value):List Value:=
 [.slice c.fa c.fl c.fc, .int .i64 c.f.a, .int .i64 c.f.l, .int .i64 c.f.g, .slice c.ba c.f.b.length c.bc, .int .i64 (Lw.wd c.f), .pointer (some ⟨c.Nb,0,none⟩), .slice c.ha c.f.b.length c.hc,vg,v]
structure TY (c:LY)(W0:World):Prop where
 lt:W0.heap.size<=c.B
 hF:FL W0 c.fa c.fl c.fs
 hH:IL W0 c.ha c.f.b.length c.H
 hN:∃v0 v1 v4,iR W0 c.Nb v0 v1 (.slice c.ea c.f.b.length c.ec) (.slice c.oa c.f.b.length c.oc) v4
 hE:IL W0 c.ea c.f.b.length c.E
 hO:IL W0 c.oa c.f.b.length c.O
 hS:SL W0 c.ba c.f.b.length c.f.b
 acc:Hg.Acc c.fs c.f c.E c.O c.H
 ok:0<=c.f.a/\c.f.a<=3/\0<=c.f.l/\c.f.l<=3/\(c.f.g=0\/c.f.g=1)/\c.f.b.length<=80
 all:St.aR c.f.b=true
 val:Mn.Nu c.fs
 io:aC.isOk c.f.b=true
 eE:c.E=aC.ends c.f.b
 Sq:∀j,-1<=aC.aO c.O j
 Su:∀j,j<c.f.b.length->-1<=c.H.getD j 0
def Ih (p q:Nat):Value:= .func (.func 145) #[] #[.pointer (some ⟨p,0,none⟩), .pointer (some ⟨q,0,none⟩)]
def Oj (p:Nat):Value:= .func (.func 147) #[] #[.pointer (some ⟨p,0,none⟩)]
def Uf (p:Nat):Value:= .func (.func 117) #[] #[.pointer (some ⟨p,0,none⟩)]
def Uh (p:Nat):Value:= .func (.func 144) #[] #[.pointer (some ⟨p,0,none⟩)]
def Uk (p q:Nat):Value:= .func (.func 162) #[] #[.pointer (some ⟨p,0,none⟩), .pointer (some ⟨q,0,none⟩)]
def Ec:Value->Nat
 | .slice (some a) _ _=>a.block
 |_=>0
def nz (c:LY)(st:List Int)(W:World)(D:Nat->Prop)(pv:Value)(t:Int):Prop:=
 (∃p q,pv=Ih p q/\D p/\D q/\W.cell? ⟨p,0,none⟩=some (.pointer (some ⟨c.B,0,none⟩))/\W.cell? ⟨q,0,none⟩=some (.int .i64 t))\/
 (∃p,pv=Oj p/\D p/\W.cell? ⟨p,0,none⟩=some (.int .i64 (st.getD t.toNat 0)))
def vI (c:LY)(st:List Int)(W:World)(D:Nat->Prop)(cv u:Value)(x:Ln×Int):Prop:=
 (∃p,cv=Uf p/\x.2=-1/\(1<=x.1.k/\x.1.k<=11)/\Ln.cn x.1=x.1/\D p/\W.cell? ⟨p,0,none⟩=some (CU x.1 u)/\(x.1.k=7->∃g n k,u= .slice (some ⟨g,0,none⟩) n k/\D g/\OI W (c.B+1) u x.1.l))\/
 (∃p pv,cv=Uh p/\x.1=⟨5,0,0,0,0,[]⟩/\(0<=x.2/\x.2<st.length)/\D p/\W.cell? ⟨p,0,none⟩=some pv/\nz c st W D pv x.2)\/
 (∃p q pv a,cv=Uk p q/\x.1=⟨6,0,a,0,0,[]⟩/\(0<=x.2/\x.2<st.length)/\D p/\D q/\W.cell? ⟨p,0,none⟩=some (.int .i64 a)/\W.cell? ⟨q,0,none⟩=some pv/\nz c st W D pv x.2)
theorem fI {W W':World}{b i:Nat}(h:W'.heap[b]?=W.heap[b]?):W'.cell? ⟨b,i,none⟩=W.cell? ⟨b,i,none⟩:=World.cell?_of_block h
theorem zR {W W':World}{n₀ e k n g m c:Nat}{xs:List Value}(h:W.ownsRow n₀ e k (.slice (some ⟨g,0,none⟩) m c) n xs)(hs:W'.heap[g]?=W.heap[g]?):W'.ownsRow n₀ e k (.slice (some ⟨g,0,none⟩) m c) n xs:=by refine⟨h.1,?_⟩;rcases h.2 with h'|⟨g',cap',cur,h',h1,h2,r⟩;{exact .inl h'};cases h';exact .inr ⟨g,_,cur,rfl,h1,hs.trans h2,r⟩
theorem nz.same {c:LY}{st:List Int}{W W':World}{D D':Nat->Prop}{pv:Value}{t:Int}(h:nz c st W D pv t)(hs:∀g,D g->W'.heap[g]?=W.heap[g]?)(hD:∀g,D g->D' g):nz c st W' D' pv t:=by rcases h with⟨p,q,e,hp,hq,h1,h2⟩|⟨p,e,hp,h1⟩;{exact .inl ⟨p,q,e,hD p hp,hD q hq,(fI (hs p hp)).trans h1,(fI (hs q hq)).trans h2⟩};exact .inr ⟨p,e,hD p hp,(fI (hs p hp)).trans h1⟩
theorem vI.same {c:LY}{st:List Int}{W W':World}{D D':Nat->Prop}{cv u:Value}{x:Ln×Int}(h:vI c st W D cv u x)(hs:∀g,D g->W'.heap[g]?=W.heap[g]?)(hD:∀g,D g->D' g):vI c st W' D' cv u x:=by rcases h with⟨p,e,h1,h2,h3,hp,h4,h5⟩|⟨p,pv,e,h1,h2,hp,h3,h4⟩|⟨p,q,pv,a,e,h1,h2,hp,hq,h3,h4,h5⟩;{refine .inl ⟨p,e,h1,h2,h3,hD p hp,(fI (hs p hp)).trans h4,fun h7=>?_⟩;obtain⟨g,n,k,rfl,hg,ho⟩:=h5 h7;exact⟨g,n,k,rfl,hD g hg,zR ho (hs g hg)⟩};{exact .inr (.inl ⟨p,pv,e,h1,h2,hD p hp,(fI (hs p hp)).trans h3,h4.same hs hD⟩)};exact .inr (.inr ⟨p,q,pv,a,e,h1,h2,hD p hp,hD q hq,(fI (hs p hp)).trans h3,(fI (hs q hq)).trans h4,h5.same hs hD⟩)
def Oo (c:LY)(st:List Int)(W:World)(v vg:Value)(out:List (Ln×Int))(P:Nat)(D:Nat->Prop)(cs us:List Value):Prop:=
 W.ownsRow (c.B+1) 89 1 v out.length cs/\cs.length=out.length/\us.length=out.length/\(∀j,j<out.length->vI c st W D (cs.getD j undef) (us.getD j undef) (out.getD j (.z,0)))/\
 (∀g,D g->c.B+1<=g/\g<W.heap.size/\v.ownBlock≠some g/\vg.ownBlock≠some g)/\
 (∀j,j<out.length->(out.getD j (.z,0)).1.k=7->Ec (us.getD j undef)<P/\∀i,i<j->(out.getD i (.z,0)).1.k=7->Ec (us.getD i undef)<Ec (us.getD j undef))
structure MY (c:LY)(st:List Int)(W0 W:World)(v vg:Value)(out:List (Ln×Int))(bg:List Int)(P:Nat):Prop where
 bA:Below W0.heap.size W0 W
 box:bN W c.B (c.ku v vg)
 sz:c.B+1<=W.heap.size
 row:∃(D:Nat->Prop)(cs us:List Value),Oo c st W v vg out P D cs us
 yZ:OI W (c.B+1) vg bg
structure FY (B:Nat)(v v':Value)(W W':World):Prop where
 os:W'.os=W.os
 tape:W'.tape=W.tape
 out:W'.output=W.output
 size:W.heap.size<=W'.heap.size
 blk:∀i,i<W.heap.size->i≠B->v.ownBlock≠some i->W'.heap[i]?=W.heap[i]?
 v1:v'.ownBlock=v.ownBlock\/∃g,v'.ownBlock=some g/\W.heap.size<=g
theorem FY.refl (B:Nat)(v:Value)(W:World):FY B v v W W:=⟨rfl,rfl,rfl,Nat.le_refl _,fun _ _ _ _=>rfl, .inl rfl⟩
theorem FY.trans {B:Nat}{v v' v2:Value}{W W' W2:World}(h:FY B v v' W W')(k:FY B v' v2 W' W2):FY B v v2 W W2:=by refine⟨k.os.trans h.os,k.tape.trans h.tape,k.out.trans h.out,Nat.le_trans h.size k.size,fun i hi hB hv=>?_,?_⟩;{refine(k.blk i (ak hi h.size) hB ?_).trans (h.blk i hi hB hv);rcases h.v1 with e|⟨g,e,hge⟩;{rw[e];exact hv};rw[e];simp only[ne_eq,ah];omega};rcases k.v1 with e|⟨g,e,hge⟩;{rw[e];exact h.v1};exact .inr ⟨g,e,Nat.le_trans h.size hge⟩
theorem FY.below {B:Nat}{v:Value}{W W':World}(h:Below W.heap.size W W'):FY B v v W W':=⟨h.os,h.tape,h.output,h.size,fun i hi _ _=>h.block i hi, .inl rfl⟩
theorem MY.kept {c:LY}{st:List Int}{W0 W W':World}{v vg:Value}{out:List (Ln×Int)}{bg:List Int}{P:Nat}(h:MY c st W0 W v vg out bg P)(hB:Below W.heap.size W W'):MY c st W0 W' v vg out bg P:=by obtain⟨D,cs,us,r1,r2,r3,r4,r5,r6⟩:=h.row;exact⟨h.bA.trans (hB.mono h.bA.size),h.box.kept hB,Nat.le_trans h.sz hB.size,⟨D,cs,us,aD r1 hB,r2,r3,fun j hj=>(r4 j hj).same (fun g hg=>hB.block g (r5 g hg).2.1) (fun g hg=>hg),fun g hg=>⟨(r5 g hg).1,ak (r5 g hg).2.1 hB.size,(r5 g hg).2.2⟩,r6⟩,h.yZ.kept hB⟩
theorem MY.tight {c:LY}{st:List Int}{W0 W:World}{v vg:Value}{out:List (Ln×Int)}{bg:List Int}{P:Nat}(h:MY c st W0 W v vg out bg P):MY c st W0 W v vg out bg W.heap.size:=by obtain⟨D,cs,us,r1,r2,r3,r4,r5,r6⟩:=h.row;refine⟨h.bA,h.box,h.sz,⟨D,cs,us,r1,r2,r3,r4,r5,fun j hj h7=>⟨?_,(r6 j hj h7).2⟩⟩,h.yZ⟩;rcases r4 j hj with⟨p,e,h1,h2,h3,hp,h4,h5⟩|⟨p,pv,e,h1,h2,hp,h3,h4⟩|⟨p,q,pv,a,e,h1,h2,hp,hq,h3,h4,h5⟩;{obtain⟨g,n,k,e,hg,ho⟩:=h5 h7;rw[e];exact(r5 g hg).2.1};{rw[h1]at h7;simp at h7};rw[h1]at h7;simp at h7
theorem fG {W W':World}{b:Nat}{v0 v1 v2 v3 v4:Value}(h:iR W b v0 v1 v2 v3 v4)(hB:Below W.heap.size W W'):iR W' b v0 v1 v2 v3 v4:=by obtain⟨h0,⟨c0,c1,c2,c3,c4⟩,f0,f1,f2,f3,f4⟩:=h;have hb:=hB.block b h0;have hc:∀i,W'.cell? ⟨b,i,none⟩=W.cell? ⟨b,i,none⟩:=fun i=>World.cell?_of_block (a:=⟨b,i,none⟩) hb;have hf:∀i,W'.frozen? ⟨b,i,none⟩=W.frozen? ⟨b,i,none⟩:=fun i=>World.frozen?_of_block (a:=⟨b,i,none⟩) hb;exact⟨ak h0 hB.size,⟨(hc 0).trans c0,(hc 1).trans c1,(hc 2).trans c2,(hc 3).trans c3,(hc 4).trans c4⟩,(hf 0).trans f0,(hf 1).trans f1,(hf 2).trans f2,(hf 3).trans f3,(hf 4).trans f4⟩
theorem TY.il {c:LY}{W0 W:World}(T:TY c W0)(hB:Below W0.heap.size W0 W):FL W c.fa c.fl c.fs/\IL W c.ha c.f.b.length c.H/\(∃v0 v1 v4,iR W c.Nb v0 v1 (.slice c.ea c.f.b.length c.ec) (.slice c.oa c.f.b.length c.oc) v4)/\IL W c.ea c.f.b.length c.E/\IL W c.oa c.f.b.length c.O/\SL W c.ba c.f.b.length c.f.b:=by obtain⟨v0,v1,v4,hb⟩:=T.hN;exact⟨T.hF.kept hB,T.hH.kept hB,⟨v0,v1,v4,fG (W:=W0) hb (hB)⟩,T.hE.kept hB,T.hO.kept hB,T.hS.kept hB⟩
theorem MY.Ak {c:LY}{st:List Int}{W0 W W1 W2:World}{v vg v':Value}{out:List (Ln×Int)}{bg:List Int}{P:Nat}(K:MY c st W0 W v vg out bg P)(hW:W0.heap.size<=c.B)(hB1:Below W.heap.size W W1)(D:Nat->Prop)(cs us:List Value)(hr:Oo c st W v vg out P D cs us)(D1:Nat->Prop)(cv u:Value)(x:Ln×Int)(hx:vI c st W1 D1 cv u x)(hD1:∀g,D1 g->c.B+1<=g/\g<W1.heap.size/\v.ownBlock≠some g/\vg.ownBlock≠some g)(hP:x.1.k=7->P<=Ec u)(hrow:W2.ownsRow (c.B+1) 89 1 v' (out.length+1) (cs++[cv]))(hg:W1.grownBy W2 v.ownBlock)(hat:v'.ownBlock=v.ownBlock\/v'.ownBlock=some W1.heap.size):MY c st W0 (W2.setCell ⟨c.B,9,none⟩ v') v' vg (out++[x]) bg (W2.setCell ⟨c.B,9,none⟩ v').heap.size/\FY c.B v v' W (W2.setCell ⟨c.B,9,none⟩ v'):=by
 obtain⟨r1,r2,r3,r4,r5,r6⟩:=hr
 have vB:∀g,v.ownBlock=some g->c.B+1<=g:=fun g hg=>(aS r1 hg).1
 have gs:=aL W2 ⟨c.B,9,none⟩ v'
 have FI:=((K.box.kept hB1).gz hg (fun e=>by have:=vB c.B e;omega)).set 9 v'
 have hint:2≠89:=by decide
 have gB:∀g,vg.ownBlock=some g->c.B+1<=g:=fun g hg=>(aS K.yZ hg).1
 have Dh:OI W1 (c.B+1) vg bg:=K.yZ.kept hB1
 have r1':=aD r1 hB1
 have Sm:OI W2 (c.B+1) vg bg:=bL Dh hg (fun g e=>dR Dh r1' hint e)
 have Sn:OI (W2.setCell ⟨c.B,9,none⟩ v') (c.B+1) vg bg:=bL Sm gs (fun g e=>by have:=gB g e;simp only[ne_eq,ah];omega)
 have hr3:=bL hrow gs (fun g e=>by have:=(aS hrow e).1;simp only[ne_eq,ah];omega)
 have b1:=K.bA.trans (hB1.mono K.bA.size)
 have b2:=aV b1 hg (fun g e=>by have:=vB g e;omega)
 have b3:=aV b2 gs (fun g e=>by cases e;exact hW)
 have pK:W1.heap.size<=(W2.setCell ⟨c.B,9,none⟩ v').heap.size:=Nat.le_trans hg.size gs.size
 have same:∀g,g<W1.heap.size->c.B+1<=g->v.ownBlock≠some g->(W2.setCell ⟨c.B,9,none⟩ v').heap[g]?=W1.heap[g]?:=fun g h1 h2 h3=>
  (gs.block g (ak h1 hg.size) (by simp only[ne_eq,ah];omega)).trans (hg.block g h1 (fun e=>h3 e.symm))
 have hv':∀g,g<W1.heap.size->v.ownBlock≠some g->v'.ownBlock≠some g:=fun g h1 h2=>by rcases hat with e|e;{rw[e];exact h2};rw[e];simp only[ne_eq,ah];omega
 have hdn:∀j,j<out.length->vI c st (W2.setCell ⟨c.B,9,none⟩ v') (fun g=>D g\/D1 g) (cs.getD j undef) (us.getD j undef) (out.getD j (.z,0)):=fun j hj=>
  (r4 j hj).same (fun g hg'=>by
   obtain⟨a1,a2,a3,-⟩:=r5 g hg'
   exact(same g (ak a2 hB1.size) a1 a3).trans (hB1.block g a2)) (fun g h=> .inl h)
 have X6:vI c st (W2.setCell ⟨c.B,9,none⟩ v') (fun g=>D g\/D1 g) cv u x:=hx.same (fun g hg'=>by
  obtain⟨a1,a2,a3,-⟩:=hD1 g hg'
  exact same g a2 a1 a3) (fun g h=> .inr h)
 have X7:∀j,j<out.length->(cs++[cv]).getD j undef=cs.getD j undef:=fun j hj=>by rw[ai,List.getElem?_append_left (by omega),←ai]
 have Nz:∀j,j<out.length->(us++[u]).getD j undef=us.getD j undef:=fun j hj=>by rw[ai,List.getElem?_append_left (by omega),←ai]
 have NA:∀j,j<out.length->(out++[x]).getD j (.z,0)=out.getD j (.z,0):=fun j hj=>by rw[ai,List.getElem?_append_left hj,←ai]
 have X8:(cs++[cv]).getD out.length undef=cv:=by rw[ai,List.getElem?_append_right (by omega),r2];simp
 have U3:(us++[u]).getD out.length undef=u:=by rw[ai,List.getElem?_append_right (by omega),r3];simp
 have U4:(out++[x]).getD out.length (.z,0)=x:=by rw[ai,List.getElem?_append_right (Nat.le_refl _)];simp
 have hub:x.1.k=7->Ec u<W1.heap.size:=fun h7=>by rcases hx with⟨p,e,h1,h2,h3,hp,h4,h5⟩|⟨p,pv,e,h1,h2,hp,h3,h4⟩|⟨p,q,pv,a,e,h1,h2,hp,hq,h3,h4,h5⟩;{obtain⟨g,n,k,rfl,hg',ho⟩:=h5 h7;exact(hD1 g hg').2.1};{rw[h1]at h7;simp at h7};rw[h1]at h7;simp at h7
 have Gz:∀j,j<out.length->(out.getD j (.z,0)).1.k=7->Ec (us.getD j undef)<W1.heap.size:=fun j hj h7=>by rcases r4 j hj with⟨p,e,h1,h2,h3,hp,h4,h5⟩|⟨p,pv,e,h1,h2,hp,h3,h4⟩|⟨p,q,pv,a,e,h1,h2,hp,hq,h3,h4,h5⟩;{obtain⟨g,n,k,e,hg',ho⟩:=h5 h7;rw[e];exact ak (r5 g hg').2.1 hB1.size};{rw[h1]at h7;simp at h7};rw[h1]at h7;simp at h7
 refine⟨⟨b3,FI,?_,⟨fun g=>D g\/D1 g,cs++[cv],us++[u],?_,?_,?_,fun j hj=>?_,fun g hg'=>?_,fun j hj h7=>?_⟩,Sn⟩,⟨(gs.os.trans hg.os).trans hB1.os,(gs.tape.trans hg.tape).trans hB1.tape,(gs.output.trans hg.output).trans hB1.output,Nat.le_trans hB1.size pK,fun i hi hb hv=>?_,?_⟩⟩
 · exact Nat.le_trans K.sz (Nat.le_trans hB1.size pK)
 · rw[List.length_append,List.length_singleton];exact hr3
 · rw[List.length_append,List.length_append,r2];rfl
 · rw[List.length_append,List.length_append,r3];rfl
 · rw[List.length_append,List.length_singleton]at hj;by_cases hjl:j<out.length;{rw[X7 j hjl,Nz j hjl,NA j hjl];exact hdn j hjl};have ej:j=out.length:=by{omega};subst ej;rw[X8,U3,U4];exact X6
 · rcases hg' with h|h;{obtain⟨a1,a2,a3,a4⟩:=r5 g h;exact⟨a1,ak a2 (Nat.le_trans hB1.size pK),hv' g (ak a2 hB1.size) a3,a4⟩};obtain⟨a1,a2,a3,a4⟩:=hD1 g h;exact⟨a1,ak a2 pK,hv' g a2 a3,a4⟩
 · rw[List.length_append,List.length_singleton]at hj;by_cases hjl:j<out.length;{rw[NA j hjl]at h7;rw[Nz j hjl];refine⟨ak (Gz j hjl h7) pK,fun i hi Ca=>?_⟩;rw[NA i (by omega)]at Ca;rw[Nz i (by omega)];exact(r6 j hjl h7).2 i hi Ca};have ej:j=out.length:=by{omega};subst ej;rw[U4]at h7;rw[U3];refine⟨ak (hub h7) pK,fun i hi Ca=>?_⟩;rw[NA i hi]at Ca;rw[Nz i hi];exact ak (r6 i hi Ca).1 (hP h7)
 · exact(gs.block i (ak hi (Nat.le_trans hB1.size hg.size)) (by simpa using hb)).trans ((hg.block i (ak hi hB1.size) (fun e=>hv e.symm)).trans (hB1.block i hi))
 · rcases hat with e|e;{exact .inl e};exact .inr ⟨_,e,hB1.size⟩
section
variable {c : LY} {st : List Int} {W0 W : World} {v vg : Value} {out : List (Ln × Int)} {bg : List Int} {P : Nat}
theorem bJ (T:TY c W0)(K:MY c st W0 W v vg out bg P)(h:Int)(h1:-100<=h)(h2:h<=100):Calls Tryz.prog 118 #[.pointer (some ⟨c.B,0,none⟩), .int .i64 h] W fun e w'=>e= .returned (.int .i64 (Lw.bx c.f h))/\w'=W:=by have d5:=(K.box.2 5 _ rfl).1;have hok:=T.ok;have HW:Hid (Lw.bx c.f h=Lw.wd c.f+h):=rfl;have hw1:0<=Lw.wd c.f/\Lw.wd c.f<=6:=by{unfold Lw.wd;omega};generalize Lw.wd c.f=u at d5 HW hw1;clear T K hok;go_enter Tryz.func118,Tryz.ntmps118;go_wp2;go_ret;exact⟨by rw[HW.out]<;>rfl,rfl⟩
theorem pY (T:TY c W0)(K:MY c st W0 W v vg out bg P):Calls Tryz.prog 127 #[.pointer (some ⟨c.B,0,none⟩)] W fun e w'=>e= .returned (.int .i64 (Lw.wd c.f+20))/\w'=W:=by have hcon:=bJ T K 20 (by decide) (by decide);have HW:Hid (Lw.bx c.f 20=Lw.wd c.f+20):=rfl;generalize Lw.bx c.f 20=u at hcon HW;clear T K;go_enter Tryz.func127,Tryz.ntmps127;go_wp2_with fail;refine hcon.mono ?_;rintro e w2 ⟨rfl,rfl⟩;dsimp only;go_wp2;go_ret;exact⟨by rw[HW.out]<;>rfl,rfl⟩
theorem kV (K:MY c st W0 W v vg out bg P)(hl:out.length<=1000):Calls Tryz.prog 61 #[.pointer (some ⟨c.B,0,none⟩)] W fun e w'=>e= .returned (.int .i64 (out.length:Int))/\w'=W:=by obtain⟨D,cs,us,r1,-⟩:=K.row;obtain⟨av,cv,rfl⟩:=aQ r1;have d9:=(K.box.2 9 _ rfl).1;generalize out.length=n at d9 hl ⊢;clear K r1;go_enter Tryz.func61,Tryz.ntmps61;go_wp2;go_ret;exact⟨rfl,rfl⟩
theorem dP (B:Nat)(t:Int)(W:World):Calls Tryz.prog 121 #[.pointer (some ⟨B,0,none⟩), .int .i64 t] W fun e w'=>e= .returned (.func (.func 145) #[] #[.pointer (some ⟨W.heap.size,0,none⟩), .pointer (some ⟨W.heap.size+1,0,none⟩)])/\w'=(W.alloc (.cells #[.pointer (some ⟨B,0,none⟩)] 82)).alloc (.cells #[.int .i64 t] 2):=by go_enter Tryz.func121,Tryz.ntmps121;go_wp2;go_ret;exact⟨rfl,rfl⟩
theorem gP (c:LY)(st:List Int)(t:Int)(W:World){w':World}(hw:w'=(W.alloc (.cells #[.pointer (some ⟨c.B,0,none⟩)] 82)).alloc (.cells #[.int .i64 t] 2)):nz c st w' (fun g=>W.heap.size<=g/\g<w'.heap.size) (Ih W.heap.size (W.heap.size+1)) t/\Below W.heap.size W w':=by subst hw;have b1:=Boxed.new W 82 (.pointer (some ⟨c.B,0,none⟩));have b2:=Boxed.new (W.alloc (.cells #[.pointer (some ⟨c.B,0,none⟩)] 82)) 2 (.int .i64 t);have c1:=(b1.alloc (.cells #[.int .i64 t] 2)).cell;have c2:=b2.cell;simp only[World.size_alloc]at c2;have hB:=aB W (.cells #[.pointer (some ⟨c.B,0,none⟩)] 82);exact⟨.inl ⟨_,_,rfl,⟨Nat.le_refl _,by simp<;>omega⟩,⟨by omega,by simp<;>omega⟩,c1,c2⟩,hB.trans ((aB _ _).mono hB.size)⟩
theorem EL (p:Nat)(s:Value)(W:World)(h:W.cell? ⟨p,0,none⟩=some s):Calls Tryz.prog 117 #[.pointer (some ⟨p,0,none⟩)] W fun e w'=>e= .returned s/\w'=W:=by go_enter Tryz.func117,Tryz.ntmps117;go_wp2;go_ret;exact⟨rfl,rfl⟩
theorem nC (p:Nat)(t:Int)(W:World)(h:W.cell? ⟨p,0,none⟩=some (.int .i64 t)):Calls Tryz.prog 147 #[.pointer (some ⟨p,0,none⟩)] W fun e w'=>e= .returned (.int .i64 t)/\w'=W:=by go_enter Tryz.func147,Tryz.ntmps147;go_wp2;go_ret;exact⟨rfl,rfl⟩
theorem nK (c:LY)(p q:Nat)(t:Nat)(W:World)(h:W.cell? ⟨p,0,none⟩=some (.pointer (some ⟨c.B,0,none⟩)))(h2:W.cell? ⟨q,0,none⟩=some (.int .i64 (t:Int)))(ba:Option Addr)(bn bc:Nat)(xs:List Int)(h3:W.cell? ⟨c.B,8,none⟩=some (.slice ba bn bc))(hx:IL W ba bn xs)(ht:t<bn):Calls Tryz.prog 145 #[.pointer (some ⟨p,0,none⟩), .pointer (some ⟨q,0,none⟩)] W fun e w'=>e= .returned (.int .i64 (xs.getD t 0))/\Below W.heap.size W w':=by obtain⟨hl,hm,h0|⟨b,off,e,hb,hc⟩⟩:=hx;{omega};have hct:=hc t ht;subst e;generalize xs.getD t 0=y at hct ⊢;unfold maxLen at hm;clear hc hl;go_enter Tryz.func145,Tryz.ntmps145;go_wp2;go_quiet (fail);go_wp2;go_ret;exact⟨rfl,dD _ _⟩
theorem dh {W W':World}{p:Addr}{v:Value}(hB:Below W.heap.size W W')(h:W.cell? p=some v):W'.cell? p=some v:=(hB.cell (p:=p) (World.block_lt_of_cell? _ _ h)).trans h
theorem Da {D:Nat->Prop}{pv:Value}{t:Int}(p:Nat)(hq:W.cell? ⟨p,0,none⟩=some pv)(h:nz c st W D pv t)(ht:0<=t/\t<st.length)(hbx:W.cell? ⟨c.B,8,none⟩=some vg)(hbg:OI W (c.B+1) vg st):Calls Tryz.prog 144 #[.pointer (some ⟨p,0,none⟩)] W fun e w'=>e= .returned (.iface 218 (.agg #[.int .i64 (st.getD t.toNat 0)]))/\Below W.heap.size W w':=by obtain⟨ba,bc,rfl,hil⟩:=hbg.slice;rcases h with⟨p1,q1,rfl,-,-,h1,h2⟩|⟨p1,rfl,-,h1⟩;{obtain⟨n,rfl⟩:=Int.eq_ofNat_of_zero_le ht.1;have hc:=nK c p1 q1 n W h1 h2 ba _ bc st hbx hil (by omega);unfold Ih at hq;simp only[aA];generalize st.getD n 0=N at hc ⊢;clear hil hbg;go_enter Tryz.func144,Tryz.ntmps144;go_wp2_with fail;refine hc.mono ?_;rintro e w2 ⟨rfl,hB⟩;dsimp only;go_wp2;go_ret;exact⟨rfl,hB⟩};have hc:=nC p1 _ W h1;unfold Oj at hq;generalize st.getD t.toNat 0=N at hc ⊢;clear hil hbg;go_enter Tryz.func144,Tryz.ntmps144;go_wp2_with fail;refine hc.mono ?_;rintro e w2 ⟨rfl,dw⟩;subst dw;dsimp only;go_wp2;go_ret;exact⟨rfl,Below.refl _ _⟩
theorem GV {D:Nat->Prop}{pv:Value}{t a:Int}(p q:Nat)(ha:W.cell? ⟨p,0,none⟩=some (.int .i64 a))(hq:W.cell? ⟨q,0,none⟩=some pv)(h:nz c st W D pv t)(ht:0<=t/\t<st.length)(hbx:W.cell? ⟨c.B,8,none⟩=some vg)(hbg:OI W (c.B+1) vg st):Calls Tryz.prog 162 #[.pointer (some ⟨p,0,none⟩), .pointer (some ⟨q,0,none⟩)] W fun e w'=>e= .returned (.iface 245 (.agg #[.int .i64 a, .int .i64 (st.getD t.toNat 0)]))/\Below W.heap.size W w':=by obtain⟨ba,bc,rfl,hil⟩:=hbg.slice;rcases h with⟨p1,q1,rfl,-,-,h1,h2⟩|⟨p1,rfl,-,h1⟩;{obtain⟨n,rfl⟩:=Int.eq_ofNat_of_zero_le ht.1;have hc:=fun(p:dA W)=>nK c p1 q1 n p.to (dh p.h h1) (dh p.h h2) ba _ bc st (dh p.h hbx) (hil.kept p.h) (by omega);have hA:=fun(p:dA W)=>dh p.h ha;have hQ:=fun(p:dA W)=>dh p.h hq;unfold Ih at hQ;simp only[aA];generalize st.getD n 0=N at hc ⊢;clear hil hbg ha hq hbx h1 h2;have hne:=dA.any W;go_enter Tryz.func162,Tryz.ntmps162;go_wp2;refine bU (by kernel_rfl) (by kernel_rfl) ?_;(repeat(go_big_quiet_step (exact iU (hc _))));refine wpQuiet_nil ?_;rintro _ ⟨pw,rfl⟩;have hB:=pw.h;generalize pw.to=w2 at hB ⊢;clear hA hQ hc hne;go_wp2;go_ret;exact⟨rfl,hB⟩};have hc:=fun(p:dA W)=>nC p1 _ p.to (dh p.h h1);have hA:=fun(p:dA W)=>dh p.h ha;have hQ:=fun(p:dA W)=>dh p.h hq;unfold Oj at hQ;generalize st.getD t.toNat 0=N at hc ⊢;clear hil hbg ha hq hbx h1;have hne:=dA.any W;go_enter Tryz.func162,Tryz.ntmps162;go_wp2;refine bU (by kernel_rfl) (by kernel_rfl) ?_;(repeat(go_big_quiet_step (exact eP (hc _))));refine wpQuiet_nil ?_;rintro _ ⟨pw,rfl⟩;have hB:=pw.h;generalize pw.to=w2 at hB ⊢;clear hA hQ hc hne;go_wp2;go_ret;exact⟨rfl,hB⟩
theorem sZ {D:Nat->Prop}{cv u:Value}{x:Ln×Int}(h:vI c st W D cv u x):(∃p,cv= .func (.func 117) #[] #[.pointer (some ⟨p,0,none⟩)]/\W.cell? ⟨p,0,none⟩=some (CU (Lw.dM st x) u))\/(∃p N,cv= .func (.func 144) #[] #[.pointer (some ⟨p,0,none⟩)]/\Lw.dM st x=⟨5,0,0,0,N,[]⟩/\∀(W':World)(vg:Value),Below W.heap.size W W'->W'.cell? ⟨c.B,8,none⟩=some vg->OI W' (c.B+1) vg st->Calls Tryz.prog 144 #[.pointer (some ⟨p,0,none⟩)] W' fun e w'=>e= .returned (.iface 218 (.agg #[.int .i64 N]))/\Below W'.heap.size W' w')\/(∃p q a N,cv= .func (.func 162) #[] #[.pointer (some ⟨p,0,none⟩), .pointer (some ⟨q,0,none⟩)]/\Lw.dM st x=⟨6,0,a,0,N,[]⟩/\∀(W':World)(vg:Value),Below W.heap.size W W'->W'.cell? ⟨c.B,8,none⟩=some vg->OI W' (c.B+1) vg st->Calls Tryz.prog 162 #[.pointer (some ⟨p,0,none⟩), .pointer (some ⟨q,0,none⟩)] W' fun e w'=>e= .returned (.iface 245 (.agg #[.int .i64 a, .int .i64 N]))/\Below W'.heap.size W' w'):=by have pk:∀{W':World}{pv:Value}{t:Int},nz c st W D pv t->Below W.heap.size W W'->nz c st W' (fun _=>True) pv t:=fun{W' pv t} h hB=>by{rcases h with⟨p,q,e,hp,hq,h1,h2⟩|⟨p,e,hp,h1⟩;{exact .inl ⟨p,q,e,trivial,trivial,dh hB h1,dh hB h2⟩};exact .inr ⟨p,e,trivial,dh hB h1⟩};rcases h with⟨p,rfl,h1,h2,h3,hp,h4,h5⟩|⟨p,pv,rfl,h1,h2,hp,h3,h4⟩|⟨p,q,pv,a,rfl,h1,h2,hp,hq,h3,h4,h5⟩;{refine .inl ⟨p,rfl,?_⟩;rw[Lw.dM,ay (by omega)];exact h4};{refine .inr (.inl ⟨p,st.getD x.2.toNat 0,rfl,?_,fun W' vg hB hb ho=>Da p (dh hB h3) (pk h4 hB) h2 hb ho⟩);rw[Lw.dM,az h2.1,h1]};refine .inr (.inr ⟨p,q,a,st.getD x.2.toNat 0,rfl,?_,fun W' vg hB hb ho=>GV p q (dh hB h3) (dh hB h4) (pk h5 hB) h2 hb ho⟩);rw[Lw.dM,az h2.1,h1]
end
section
open Go.RowKit
variable {P : Program} {ops : Array Oper} {md : Region.Mode} {C : World → Prop} {n : Nat}
def jw (P:Program)(md:Region.Mode)(ops:Array Oper)(C:World->Prop)(n:Nat)(L:Array Bool->Act->Prop):Nat->Array Bool->Act->Prop
 |0,l,a=>L l a
 |f+1,l,a=>Region.ready md ops l≠[]/\∀i,i∈Region.ready md ops l->i<n/\qOp P ops C i (jw P md ops C n L f (l.setIfInBounds i true)) a
theorem jw.any {L:Array Bool->Act->Prop}{Q:Exit->Act->World->Prop}{g:Nat}(hL:∀l a w,C w->L l a->wpAny P md ops Q g l a w)(f:Nat):∀(l:Array Bool)(a:Act)(w:World),C w->jw P md ops C n L f l a->wpAny P md ops Q (f+g) l a w:=by
 induction f with
 |zero=>intro l a w hw h;rw[Nat.zero_add];exact hL l a w hw h
 |succ f ih=>
  intro l a w hw h
  rw[show f+1+g=(f+g)+1 by omega]
  refine⟨fun e=>absurd e h.1,fun i hi=>?_⟩
  exact wpOp_of_qOp hw (fun a' w' hw' h'=>ih _ a' w' hw' h') (h.2 i hi).2
theorem iQ {l:Array Bool}(hs:Region.sinkB md ops n=true)(hc:Region.chainB md ops n=true)(hn:n<ops.size)(inv:HeadInv md ops n l){i:Nat}(hi:i<n)(hun:l.getD i true=false){j:Nat}(hj:j∈Region.ready md ops l):j<n:=by refine Nat.lt_of_not_le fun h=>?_;exact tail_waits hs hc hn inv (n-i) i rfl hi hun j h hj
theorem jw.first {L:Array Bool->Act->Prop}{i:Nat}{o:Oper}{v:Value}(dO:ops[i]?=some o)(hsel:∀(j:Nat)(o:Oper) cs b,ops[j]?=some o->o.op≠ .select cs b)(hs:Region.sinkB md ops n=true)(hc:Region.chainB md ops n=true)(hn:n<ops.size)(hin:i<n)(hdone:∀l a,L l a->∀j,j∈Region.ready md ops l->n<=j)(f:Nat):∀(l:Array Bool)(a:Act),HeadInv md ops n l->(∀j oj,ops[j]?=some oj->j≠i->l.getD j true=false->(∀e∈oj.after,Region.binds md e=true->e.on≠i)->o.apart ops oj=true)->i∈Region.ready md ops l->YieldsIn P ops C o v a->jw P md ops C n L f (l.setIfInBounds i true) (a.put o.dst v)->jw P md ops C n L (f+1) l a:=by
 induction f with
 |zero=>
  intro l a inv hfree hr hy hH
  refine⟨fun e=>by rw[e]at hr;exact absurd hr List.not_mem_nil,fun j hj=>⟨iQ hs hc hn inv hin (mem_ready.1 hr).1 hj,?_⟩⟩
  rcases Nat.decEq j i with hne|he
  · have h1:=hdone _ _ hH j (ready_mono hj hne);have h2:=iQ hs hc hn inv hin (mem_ready.1 hr).1 hj;omega
  · subst he;exact hy.qOp dO hH
 |succ f ih=>
  intro l a inv hfree hr hy hH
  have hun:=(mem_ready.1 hr).1
  refine⟨fun e=>by rw[e]at hr;exact absurd hr List.not_mem_nil,fun j hj=>⟨iQ hs hc hn inv hin hun hj,?_⟩⟩
  rcases Nat.decEq j i with hne|he
  · obtain⟨hjun,oj,hoj,hall⟩:=mem_ready.1 hj;have hno:∀e∈oj.after,Region.binds md e=true->e.on≠i:=by{intro e he hb heq;have h1:=hall e he hb;rw[heq,getD_both hun]at h1;cases h1};have hstep:=qOp_put hoj (hfree j oj hoj hne hjun hno) (fun cs b=>hsel i o cs b dO) (fun cs b=>hsel j oj cs b hoj) hy (hH.2 j (ready_mono hj hne)).2;refine qOp_mono (fun a' h'=>?_) hstep;refine ih _ a' (inv.set hj (iQ hs hc hn inv hin hun hj)) (fun k ok hk hki Sv Sw=>hfree k ok hk hki ?_ Sw) (ready_mono hr (Ne.symm hne)) h'.1 ?_;{by_cases hjk:j=k;{rw[←hjk];exact hjun};rwa [getD_set_ne true hjk]at Sv};rw[Array.setIfInBounds_comm _ _ hne];exact h'.2
  · subst he;exact hy.qOp dO hH
theorem jw.lex {g:Nat}{Lq:Act->Prop}(hsel:Region.noSelect ops=true)(hs:Region.sinkB md ops n=true)(hc:Region.chainB md ops n=true)(hn:n<ops.size):
   ∀ (hd:List Oper) (k:Nat) (l:Array Bool) (a:Act),k+hd.length=n->(∀j,j<hd.length->hd[j]?=ops[k+j]?)->HeadInv md ops n l->Region.lexHead md ops g hd.length k l=true->
     wpQuiet P ops C Lq hd a->jw P md ops C n (fun l' a'=>Region.seqB md ops g n l'=true/\Lq a') hd.length l a
 | [],k,l,a,hk,_,_,hB,h=>by
   have e:k=n:=hk
   rw[←e]
   exact⟨hB,h⟩
 | o::hd,k,l,a,hk,hl,inv,hB,h=>by
   rw[List.length_cons]at hk
   have h0:ops[k]?=some o:=(hl 0 (by simp)).symm
   simp only[List.length_cons,Region.lexHead,ax]at hB
   have hr:k∈Region.ready md ops l:=by simpa using hB.1.1
   have hq:qOp P ops C k (wpQuiet P ops C Lq hd) a:=by unfold qOp;simp only[h0];exact h
   obtain⟨v,hy,hrest⟩:=yieldsIn_of_qOp h0 hq
   refine jw.first h0 (Region.noSelect_spec hsel) hs hc hn (by omega) (fun l' a' hL=>seqB_ready hL.1) hd.length l a inv (Region.free_spec h0 hB.1.2) hr hy ?_
   refine jw.lex hsel hs hc hn hd (k+1) _ _ (by omega) (fun j hj=>?_) (inv.set hr (by omega)) hB.2 hrest
   have:=hl (j+1) (by simp;omega)
   rw[show k+1+j=k+(j+1)by omega,←this]
   rfl
theorem gq {id:Nat}{Q:Exit->Act->World->Prop}{a:Act}{w:World}{l:List Oper}(n:Nat)(hm:P.follows .mixedOrders=true)(hB:Region.lexTailB .any l.toArray n=true)(h:wpQuiet P l.toArray (fun w'=>∃p:dA w,w'=p.to) (fun a'=>∀w',(∃p:dA w,w'=p.to)->wpList P l.toArray Q (l.drop n) a' w') (l.take n) a):(Code.region id l.toArray true).wp P Q a w:=by
 simp only[Region.lexTailB,ax,decide_eq_true_eq]at hB
 obtain⟨⟨⟨⟨hsel,hn⟩,hs⟩,hc⟩,hlex⟩:=hB
 have hnl:n<l.length:=by simpa using hn
 have e1:(l.take n).length=n:=by rw[List.length_take];omega
 have e2:(l.drop n).length=l.toArray.size-n:=by rw[List.length_drop];simp
 have inv:HeadInv .any l.toArray n (Array.replicate l.toArray.size false):=by refine⟨by simp,fun j oj _ hl=>?_,fun t _ ht=>getD_in (by simpa using ht) (getD_replicate_false _ _)⟩;rw[getD_replicate_false]at hl;cases hl
 have H:=jw.lex (md:= .any) (g:=l.toArray.size-n) hsel hs hc hn (l.take n) 0 _ a (by rw[e1];omega) (fun j hj=>by rw[e1]at hj;simp[hj]) inv (by rw[e1];exact hlex) h
 have R:=jw.any (Q:=Q) (g:=l.toArray.size-n) (fun l' a' w' hw' hL=>by
  have:=wpAny_of_seq (md:= .any) (Q':=Q) (l.drop n) n l' a' w' (fun j=>by simp[List.getElem?_drop]) (by rw[e2];exact hL.1) (hL.2 w' hw')
  rwa [e2]at this) (l.take n).length _ a {w with drawn:=w.drawn+1} ⟨⟨w.drew,(Below.refl _ w).drew⟩,rfl⟩ H
 rw[e1,show n+(l.toArray.size-n)=l.toArray.size by omega]at R
 exact wp_region_any hm R
end
section
open Go.RowKit
variable {P : Program} {ops : Array Oper} {md : Region.Mode} {Q : Exit → Act → World → Prop} {n : Nat}
theorem aG {b:Act}{t:Nat}{v:Value}(h:b.eval (.tmp t)=v):b.tmps[t]?.getD undef=v:=by simpa[Act.eval]using h
def wW (n:Nat)(l:Array Bool):Nat:=((List.range n).filter fun i=> !l.getD i true).length
theorem iW (n:Nat)(l:Array Bool):wW (n+1) l=wW n l+(if l.getD n true=false then 1 else 0):=by unfold wW;rw[List.range_succ,List.filter_append,List.length_append];congr 1;cases h:l.getD n true<;>simp only[List.filter,h]<;>rfl
theorem nI {i:Nat}{l:Array Bool}:∀n,n<=i->wW n (l.setIfInBounds i true)=wW n l
 |0,_=>rfl
 |n+1,h=>by rw[iW,iW,nI n (by omega),getD_set_ne true (by omega)]
theorem xh {i:Nat}{l:Array Bool}(hs:l.getD i true=false):∀n,i<n->wW n (l.setIfInBounds i true)+1=wW n l
 |0,h=>by omega
 | n + 1,h=>by
   rw[iW,iW]
   by_cases e:i=n
   · subst e
     rw[nI i (Nat.le_refl _),hs]
     have hi:i<l.size:=by
       rcases Nat.lt_or_ge i l.size with h'|h'
       · exact h'
       · simp[Array.getElem?_eq_none h']at hs
     have e2:(l.setIfInBounds i true).getD i true=true:=by simp[hi]
     rw[e2]
     simp
   · rw[←xh hs n (by omega),getD_set_ne true e]
     omega
theorem sG {l:Array Bool}(h:wW n l=0)(i:Nat)(hi:i<n):l.getD i true=true:=by unfold wW at h;have h2:=List.filter_eq_nil_iff.1 (List.length_eq_zero_iff.1 h) i (List.mem_range.2 hi);simpa using h2
theorem CL {l:Array Bool}(h:wW n l≠0):∃i,i<n/\l.getD i true=false/\∀j,j<i->l.getD j true=true:=by
 induction n with
 |zero=>exact absurd rfl h
 |succ n ih=>
  by_cases e:wW n l=0
  · rw[iW,e]at h;refine⟨n,by omega,?_,fun j hj=>sG e j hj⟩;cases h2:l.getD n true;{rfl};rw[h2]at h;simp at h
  · obtain⟨i,h1,h2,h3⟩:=ih e;exact⟨i,by omega,h2,h3⟩
theorem yw (g:Nat)(I:Array Bool->Act->World->Prop)(hs:Region.sinkB md ops n=true)(hc:Region.chainB md ops n=true)(hn:n<ops.size)(hback:∀i o,i<n->ops[i]?=some o->∀e∈o.after,Region.binds md e=true->e.on<i)(hstep:∀l b x i o,HeadInv md ops n l->ops[i]?=some o->i<n->l.getD i true=false->(∀e∈o.after,Region.binds md e=true->l.getD e.on false=true)->I l b x->wpOp P ops Q i (fun b' x'=>I (l.setIfInBounds i true) b' x') b x)(hend:∀l b x,HeadInv md ops n l->(∀i,i<n->l.getD i true=true)->I l b x->wpAny P md ops Q g l b x):∀f l b x,HeadInv md ops n l->wW n l=f->I l b x->wpAny P md ops Q (f+g) l b x:=by
 intro f
 induction f with
 |zero=>intro l b x inv hu hI;rw[Nat.zero_add];exact hend l b x inv (fun i hi=>sG hu i hi) hI
 |succ f ih=>
  intro l b x inv hu hI
  rw[show f+1+g=(f+g)+1 by omega]
  obtain⟨i,hin,hun,hmin⟩:=CL (l:=l) (n:=n) (by omega)
  refine⟨fun h0=>?_,fun j hj=>?_⟩
  · have ho:∃o,ops[i]?=some o:=⟨ops[i]'(by omega),Array.getElem?_eq_getElem (by omega)⟩
    obtain⟨o,ho⟩:=ho
    have:i∈Region.ready md ops l:=mem_ready.2 ⟨hun,o,ho,fun e he hbi=>by
     have h1:=hback i o hin ho e he hbi
     have h2:=hmin e.on h1
     have h3:e.on<l.size:=by rw[inv.size];omega
     simp[h3]at h2 ⊢
     exact h2⟩
    rw[h0]at this
    cases this
  · have hjn:=iQ hs hc hn inv hin hun hj;obtain⟨hjun,o,ho,hall⟩:=mem_ready.1 hj;refine wpOp_mono (fun b' x' h'=>ih _ b' x' (inv.set hj hjn) ?_ h') (hstep l b x j o inv ho hjn hjun hall hI);have:=xh hjun n hjn;omega
def D7 (l:List Oper)(n:Nat)(ds:List Nat):Bool:=
 decide (ds.length=n)&&ds.Nodup&&(List.range n).all fun i=>match l[i]? with
   |some o=>o.dst==ds[i]?&&o.guard.isNone&&o.after.all fun e=> !Region.binds .any e||decide (e.on<i)
   |none=>false
def xR (size n:Nat):Array Bool:=((List.replicate n true)++List.replicate (size-n) false).toArray
def DX (P:Program)(Q:Exit->Act->World->Prop)(a:Act)(ds:List Nat)(A:World->Prop)(R:World->World->Prop)(F:Nat->Value->World->Prop)(k:Nat)(o:Oper):Prop:=
 ∀ (b:Act) (x:World),A x->(∀t,t∉ds->b.eval (.tmp t)=a.eval (.tmp t))->(∀j,(o.after.any fun e=>Region.binds .any e&&e.on==j)=true->F j (b.eval (.tmp (ds.getD j 0))) x)->
   o.wp P b x (fun b' x'=>∃y,b'=b.put o.dst y/\A x'/\F k y x'/\R x x') Q
def ou (P:Program)(Q:Exit->Act->World->Prop)(a:Act)(ds:List Nat)(A:World->Prop)(R:World->World->Prop)(F:Nat->Value->World->Prop):Nat->List Oper->Prop
 |_,[]=>True
 |k,o::r=>DX P Q a ds A R F k o/\ou P Q a ds A R F (k+1) r
theorem ou.at {a:Act}{ds:List Nat}{A:World->Prop}{R:World->World->Prop}{F:Nat->Value->World->Prop}:∀{r:List Oper}{k:Nat},ou P Q a ds A R F k r->∀i o,r[i]?=some o->DX P Q a ds A R F (k+i) o
 |[],_,_,i,o,h=>by simp at h
 |q::r,k,h,0,o,e=>by cases e;exact h.1
 | q::r,k,h,i+1,o,e=>by
   have:=ou.at h.2 i o (by simpa using e)
   rwa [show k+1+i=k+(i+1)by omega]at this
theorem sj (b:Act)(d:Nat)(v:Value)(t:Nat)(hd:d<b.tmps.size):(b.put (some d) v).eval (.tmp t)=if d=t then v else b.eval (.tmp t):=by unfold Act.put Act.eval;by_cases e:d=t;{subst e;simp[hd]};simp[Array.getElem?_setIfInBounds_ne e,e]
theorem qp (f:Nat->Value):∀(ds:List Nat)(a:Act),(ds.foldl (fun a' t=>a'.put (some t) (f t)) a).tmps.size=a.tmps.size/\(ds.foldl (fun a' t=>a'.put (some t) (f t)) a).defers=a.defers/\
   ∀t,(ds.foldl (fun a' t=>a'.put (some t) (f t)) a).tmps[t]?=if t∈ds/\t<a.tmps.size then some (f t)else a.tmps[t]?
 |[],a=>⟨rfl,rfl,fun t=>by simp⟩
 | d ::ds,a=>by
   obtain⟨h1,h2,h3⟩:=qp f ds (a.put (some d) (f d))
   have s1:(a.put (some d) (f d)).tmps.size=a.tmps.size:=by simp[Act.put]
   refine⟨by rw[List.foldl_cons,h1,s1],by rw[List.foldl_cons,h2];rfl,fun t=>?_⟩
   rw[List.foldl_cons,h3 t,s1]
   by_cases e:t∈ds/\t<a.tmps.size
   · rw[az e,az ⟨List.mem_cons_of_mem _ e.1,e.2⟩]
   · rw[ay e]
     by_cases e2:t=d
     · subst e2
       by_cases e3:t<a.tmps.size
       · rw[az ⟨List.mem_cons_self ..,e3⟩]
         simp[Act.put,e3]
       · rw[ay (fun h=>e3 h.2)]
         have h4:a.tmps[t]?=none:=Array.getElem?_eq_none (by omega)
         have h5:(a.put (some t) (f t)).tmps[t]?=none:=Array.getElem?_eq_none (by rw[s1];omega)
         rw[h4,h5]
     · rw[ay (fun h=>by rcases List.mem_cons.1 h.1 with h'|h';exact e2 h';exact e ⟨h',h.2⟩)]
       simp[Act.put,Array.getElem?_setIfInBounds_ne (Ne.symm e2)]
theorem fU {id:Nat}{a:Act}{w:World}{l:List Oper}(n:Nat)(ds:List Nat)(A:World->Prop)(R:World->World->Prop)(F:Nat->Value->World->Prop)(hm:P.follows .mixedOrders=true)(hB:(Region.noSelect l.toArray&&decide (n<l.length)&&Region.sinkB .any l.toArray n&&Region.chainB .any l.toArray n&&D7 l n ds&&Region.seqB .any l.toArray (l.length-n) n (xR l.length n))=true)(hsz:∀d∈ds,d<a.tmps.size)(h0:A w.drew)(hR:∀i y x x',R x x'->F i y x->F i y x')(hall:ou P Q a ds A R F 0 (l.take n))(hend:∀b x,A x->(∀j,j<n->F j (b.eval (.tmp (ds.getD j 0))) x)->b=ds.foldl (fun a' t=>a'.put (some t) (b.eval (.tmp t))) a->wpList P l.toArray Q (l.drop n) b x):(Code.region id l.toArray true).wp P Q a w:=by
 simp only[ax,decide_eq_true_eq]at hB
 obtain⟨⟨⟨⟨⟨hsel,hn⟩,hs⟩,hc⟩,hhd⟩,hseq⟩:=hB
 have hn':n<l.toArray.size:=by simpa using hn
 simp only[D7,ax,decide_eq_true_eq,List.all_eq_true,List.mem_range]at hhd
 obtain⟨⟨hdl,hnd⟩,hops⟩:=hhd
 have hop:∀i o,i<n->l.toArray[i]?=some o->o.dst=some (ds.getD i 0)/\o.guard=none/\(∀e∈o.after,Region.binds .any e=true->e.on<i)/\ds.getD i 0∈ds:=by intro i o hi ho;have h1:=hops i hi;have ho':l[i]?=some o:=by{simpa using ho};rw[ho']at h1;simp only[ax,beq_iff_eq,Option.isNone_iff_eq_none,Array.all_eq_true',decide_eq_true_eq,Bool.or_eq_true,Bool.not_eq_true']at h1;have h2:ds[i]?=some (ds.getD i 0):=by{rw[ai,aj (by omega)];rfl};exact⟨by rw[h1.1.1,h2],h1.1.2,fun e he hbi=>(h1.2 e he).elim (fun h=>by rw[hbi]at h;cases h) (fun h=>h),List.mem_of_getElem? h2⟩
 have hinj:∀i j,i<n->j<n->ds.getD i 0=ds.getD j 0->i=j:=by intro i j hi hj e;rw[ai,ai,aj (by omega),aj (by omega)]at e;have e':ds[i]'(by omega)=ds[j]'(by omega):=e;rcases Nat.lt_trichotomy i j with h|h|h;{exact absurd e' (List.pairwise_iff_getElem.1 hnd i j (by omega) (by omega) h)};{exact h};exact absurd e'.symm (List.pairwise_iff_getElem.1 hnd j i (by omega) (by omega) h)
 let I:Array Bool->Act->World->Prop:=fun q b x=>A x/\b.defers=a.defers/\b.tmps.size=a.tmps.size/\(∀t,t∉ds->b.eval (.tmp t)=a.eval (.tmp t))/\∀j,j<n->q.getD j false=true->F j (b.eval (.tmp (ds.getD j 0))) x
 have inv:HeadInv .any l.toArray n (Array.replicate l.toArray.size false):=by refine⟨by simp,fun j oj _ hl=>?_,fun t _ ht=>getD_in (by simpa using ht) (getD_replicate_false _ _)⟩;rw[getD_replicate_false]at hl;cases hl
 have hu:wW n (Array.replicate l.toArray.size false)=n:=by
  have:∀m,m<=l.toArray.size->wW m (Array.replicate l.toArray.size false)=m:=by
   intro m
   induction m with
   |zero=>intro _;rfl
   |succ m ih=>
    intro hm
    rw[iW,ih (by omega)]
    have:(Array.replicate l.toArray.size false).getD m true=false:=getD_in (by simp at hm ⊢;omega) (getD_replicate_false _ _)
    rw[az this]
  exact this n (by omega)
 have H := yw (P:=P) (Q:=Q) (md:= .any) (l.toArray.size-n) I hs hc hn' (fun i o hi ho=>(hop i o hi ho).2.2.1)
   (fun q b x i o hq ho hi hun hafter hI=>by
     obtain⟨hA,hdf,hsize,hfr,hF⟩:=hI
     obtain⟨hd,hg,hb,hmem⟩:=hop i o hi ho
     have Gz:=hall.at i o (by rw[List.getElem?_take_of_lt hi];simpa using ho)
     rw[Nat.zero_add]at Gz
     have hwp:=Gz b x hA hfr (fun j hj=>by
       obtain⟨e,he,hbe⟩:=Array.any_eq_true'.1 hj
       simp only[ax,beq_iff_eq]at hbe
       have h1:=hafter e he hbe.1
       have h2:=hb e he hbe.1
       rw[hbe.2]at h1 h2
       exact hF j (by omega) h1)
     unfold wpOp
     simp only[ho]
     have hw:Region.wanted o (yielded l.toArray b.tmps)=true:=by simp[Region.wanted,hg]
     rw[az hw]
     refine .inl (Oper.wp_mono (fun b' x' h'=>?_) hwp)
     obtain⟨y,rfl,hA',hF',X9⟩:=h'
     have hds:ds.getD i 0<b.tmps.size:=by rw[hsize];exact hsz _ hmem
     rw[hd]
     refine⟨hA',hdf,by simpa[Act.put]using hsize,fun t ht=>?_,fun j hj hq'=>?_⟩
     · rw[sj _ _ _ _ hds,ay (fun e=>ht (by rw[←e];exact hmem))]
       exact hfr t ht
     · rw[sj _ _ _ _ hds]
       by_cases e:i=j
       · subst e
         rw[az rfl]
         exact hF'
       · rw[ay (fun e2=>e (hinj i j hi hj e2))]
         rw[getD_set_ne false e]at hq'
         exact hR j _ x x' X9 (hF j hj hq'))
   (fun q b x hq El hI=>by
     obtain⟨hA,hdf,hsize,hfr,hF⟩:=hI
     have Ya:q=xR l.length n:=by
       apply Array.ext
       · rw[hq.size];simp[xR];omega
       · intro i h1 h2
         have e1:q.getD i true=q[i]:=by simp[h1]
         have e2:q.getD i false=q[i]:=by simp[h1]
         by_cases e:i<n
         · have:=El i e
           rw[e1]at this
           rw[this]
           simp only[xR,List.getElem_toArray]
           rw[List.getElem_append_left (by simpa using e)]
           simp
         · have h3:i<l.toArray.size:=by rw[←hq.size];exact h1
           have:=hq.tail i (by omega) h3
           rw[e1]at this
           rw[this]
           simp only[xR,List.getElem_toArray]
           rw[List.getElem_append_right (by simpa using e)]
           simp
     have hF2:∀j,j<n->F j (b.eval (.tmp (ds.getD j 0))) x:=fun j hj=>hF j hj (by
       have:=El j hj
       have h1:j<q.size:=by rw[hq.size];omega
       simp[h1]at this ⊢
       exact this)
     have hbf:b=ds.foldl (fun a' t=>a'.put (some t) (b.eval (.tmp t))) a:=by
       obtain⟨s1,s2,s3⟩:=qp (fun t=>b.eval (.tmp t)) ds a
       have ht:b.tmps=(ds.foldl (fun a' t=>a'.put (some t) (b.eval (.tmp t))) a).tmps:=by
         apply Array.ext_getElem?
         intro t
         rw[s3 t]
         by_cases e:t<a.tmps.size
         · have eb:b.tmps[t]?=some (b.eval (.tmp t)):=by
             have h1:t<b.tmps.size:=by omega
             simp[Act.eval,h1]
           by_cases e2:t∈ds
           · rw[az ⟨e2,e⟩,eb]
           · rw[ay (fun h=>e2 h.1),eb,hfr t e2]
             simp[Act.eval,e]
         · rw[ay (fun h=>e h.2),Array.getElem?_eq_none (by omega),Array.getElem?_eq_none (by omega)]
       have e3:∀c d:Act,c.tmps=d.tmps->c.defers=d.defers->c=d:=by
         rintro⟨c1,c2⟩ ⟨d1,d2⟩ h1 h2
         simp only at h1 h2
         rw[h1,h2]
       exact e3 _ _ ht (hdf.trans s2.symm)
     have:=hend b x hA hF2 hbf
     rw[Ya]
     have e2:(l.drop n).length=l.toArray.size-n:=by rw[List.length_drop];simp
     have R2:=wpAny_of_seq (md:= .any) (Q':=Q) (l.drop n) n (xR l.length n) b x (fun j=>by simp[List.getElem?_drop]) (by rw[e2];simpa using hseq) this
     rwa [e2]at R2)
   n _ a w.drew inv hu ⟨h0,rfl,rfl,fun t _=>rfl,fun j hj h=>by rw[getD_replicate_false]at h;cases h⟩
 rw[show n+(l.toArray.size-n)=l.toArray.size by omega]at H
 exact wp_region_any hm H
end
section
open Go.RowKit
variable {P : Program} {ops : Array Oper} {md : Region.Mode} {Q : Exit → Act → World → Prop} {n : Nat}
def Ag (P:Program)(Q:Exit->Act->World->Prop)(a:Act)(ds:List Nat)(m:Nat)(A:Bool->World->Prop)(F:Nat->Value->World->Prop)(k:Nat)(o:Oper):Prop:=
 ∀ (t:Bool) (b:Act) (x:World),A t x->(k=m->t=false)->((o.after.any fun e=>Region.binds .any e&&e.on==m)=true->t=true)->(∀t,t∉ds->b.eval (.tmp t)=a.eval (.tmp t))->b.defers=a.defers->(∀j,(o.after.any fun e=>Region.binds .any e&&e.on==j)=true->F j (b.eval (.tmp (ds.getD j 0))) x)->
   o.wp P b x (fun b' x'=>∃y,b'=b.put o.dst y/\A (t||decide (k=m)) x'/\F k y x'/\∀i z,F i z x->F i z x') Q
def mY (P:Program)(Q:Exit->Act->World->Prop)(a:Act)(ds:List Nat)(m:Nat)(A:Bool->World->Prop)(F:Nat->Value->World->Prop):Nat->List Oper->Prop
 |_,[]=>True
 |k,o::r=>Ag P Q a ds m A F k o/\mY P Q a ds m A F (k+1) r
theorem mY.at {a:Act}{ds:List Nat}{m:Nat}{A:Bool->World->Prop}{F:Nat->Value->World->Prop}:∀{r:List Oper}{k:Nat},mY P Q a ds m A F k r->∀i o,r[i]?=some o->Ag P Q a ds m A F (k+i) o
 |[],_,_,i,o,h=>by simp at h
 |q::r,k,h,0,o,e=>by cases e;exact h.1
 | q::r,k,h,i+1,o,e=>by
   have:=mY.at h.2 i o (by simpa using e)
   rwa [show k+1+i=k+(i+1)by omega]at this
end
section
open Go.RowKit
variable {P : Program} {ops : Array Oper} {md : Region.Mode} {Q : Exit → Act → World → Prop} {n : Nat}
def H6 (ds:List Nat)(b:Act)(f:Bool->Bool):Option (Nat×Bool)->Prop->Prop
 |none,p=>p
 |some (j,v),_=>b.eval (.tmp (ds.getD j 0))= .bool (f v)
def zV (P:Program)(Q:Exit->Act->World->Prop)(a:Act)(ds:List Nat)(A:World->Prop)(R:World->World->Prop)(F:Nat->Value->World->Prop)(k:Nat)(o:Oper):Prop:=
 ∀ (b:Act) (x:World),A x->(∀t,t∉ds->b.eval (.tmp t)=a.eval (.tmp t))->(∀j,(o.after.any fun e=>Region.binds .any e&&e.on==j)=true->F j (b.eval (.tmp (ds.getD j 0))) x)->
   (H6 ds b id o.guard True/\o.wp P b x (fun b' x'=>∃y,b'=b.put o.dst y/\A x'/\F k y x'/\R x x') Q)\/(H6 ds b not o.guard False/\F k undef x/\R x x)
def mX (P:Program)(Q:Exit->Act->World->Prop)(a:Act)(ds:List Nat)(A:World->Prop)(R:World->World->Prop)(F:Nat->Value->World->Prop):Nat->List Oper->Prop
 |_,[]=>True
 |k,o::r=>zV P Q a ds A R F k o/\mX P Q a ds A R F (k+1) r
theorem mX.at {a:Act}{ds:List Nat}{A:World->Prop}{R:World->World->Prop}{F:Nat->Value->World->Prop}:∀{r:List Oper}{k:Nat},mX P Q a ds A R F k r->∀i o,r[i]?=some o->zV P Q a ds A R F (k+i) o
 |[],_,_,i,o,h=>by simp at h
 |q::r,k,h,0,o,e=>by cases e;exact h.1
 | q::r,k,h,i+1,o,e=>by
   have:=mX.at h.2 i o (by simpa using e)
   rwa [show k+1+i=k+(i+1)by omega]at this
def PF (ps:Nat->Value->World->Prop)(l:List (Option Value))(j:Nat)(y:Value)(x:World):Prop:=
 match l.getD j none with
 |some v=>y=v
 |none=>ps j y x
theorem PF.qO {R:World->World->Prop}{ps:Nat->Value->World->Prop}{l:List (Option Value)}(h:∀i y x x',R x x'->ps i y x->ps i y x')(i:Nat)(y:Value)(x x':World)(hr:R x x')(hf:PF ps l i y x):PF ps l i y x':=by unfold PF at hf ⊢;split at hf;{exact hf};exact h i y x x' hr hf
end
theorem aF (c:LX)(W0 W:World)(v vg:Value)(out:List (Ln×Int))(P:Nat->Prop)(hW:W0.heap.size<=c.B)(K:MK c W0 W v vg out P)(x:Ln)(la:Option Addr)(ln lc:Nat)(hx:OI W (c.B+1) (.slice la ln lc) x.l)(hap:∀g,(Value.slice la ln lc).ownBlock=some g->vg.ownBlock≠some g/\P g)(tg:Int)(hlen:out.length<=1000):Calls Tryz.prog 65 #[.pointer (some ⟨c.B,0,none⟩), .agg #[.int .i64 x.k, .int .i64 x.d, .int .i64 x.a, .int .i64 x.b, .int .i64 x.n, .slice la ln lc], .int .i64 tg] W fun e w'=>∃v' iq,e= .returned (.tuple #[])/\MK c W0 w' v' iq (out++[(x,tg)]) P/\FX c v vg v' iq W w':=by obtain⟨i0,hi,hz0,hz1,hz2⟩:=info_parts qa;obtain⟨j0,hj,hy0,hy1,hy2⟩:=info_parts bW;have hB1:=aB W (.cells #[.int .i64 x.k, .int .i64 x.d, .int .i64 x.a, .int .i64 x.b, .int .i64 x.n, .slice la ln lc] 41);have hB2:=hB1.trans ((aB _ (.cells #[.int .i64 x.k, .int .i64 x.d, .int .i64 x.a, .int .i64 x.b, .int .i64 x.n, .slice la ln lc] 41)).mono hB1.size);have hB3:=hB2.trans ((Below.refl _ _).drew.mono hB2.size);obtain⟨vs,hvs⟩:=K.row;obtain⟨av,cv,rfl⟩:=aQ hvs.1;have hgo:W.ownsRow (c.B+1) 2 1 vg out.length ((out.map (·.2)).map iv):=by{have:=K.uw;unfold OI at this;rwa [List.length_map]at this};obtain⟨ag,cg,rfl⟩:=aQ hgo;have hr2:=aD (aD hvs.1 hB2) (Below.refl _ _).drew;have hb0:=K.box;have hb2:=(K.box.kept hB2).kept (Below.refl _ _).drew;have d0:=(hb0.2 0 _ rfl).1;have hvB:∀g,(Value.slice av out.length cv).ownBlock=some g->c.B+1<=g:=fun g hg=>(aS hvs.1 hg).1;have HRW:=af hr2;have HB:=af hb2;have HK:=af (au K (au hvs (au hx (au hap hB3))));have hsz:c.B<W.heap.size:=K.sz;clear hb0 hb2 hr2 hB1 hB2 hB3 hvs K hx hap hgo;go_enter Tryz.func65,Tryz.ntmps65;go_wp2;go_region_law (refine mr _ rfl (.tmp 10) (.tmp 12) 29 rfl (c.B+1) 41 i0 (.agg #[.int .i64 0, .int .i64 0, .int .i64 0, .int .i64 0, .int .i64 0, .slice none 0 0]) 6 64 Tryz.underlying29 hi hz0 hz1 hz2 rfl (by decide) (.slice av out.length cv) out.length (bQ vs) (by simp[Act.eval]) HRW.out ⟨W.heap.size+1,0,none⟩ 1 1 [.int .i64 x.k, .int .i64 x.d, .int .i64 x.a, .int .i64 x.b, .int .i64 x.n, .slice la ln lc] (by simp[Act.eval]) rfl (j6 (W.alloc (.cells #[.int .i64 x.k, .int .i64 x.d, .int .i64 x.a, .int .i64 x.b, .int .i64 x.n, .slice la ln lc] 41)) _ _ _ _ _ _ _ 41 _ (by simp) (fun i=>rfl)) (by simp[Value.oneCell']) (by simp only[maxLen];omega) (by omega) (by simp;omega) ?_;intro v' wA hown' hgrow _ hat;obtain⟨g',cap',rfl⟩:=ownsRow_succ hown';have jF:=HB.out.gz hgrow (fun e=>by have:=hvB c.B e;omega);have cA:=(jF.2 0 _ rfl).1;have fA:=(jF.2 0 _ rfl).2;have dY:=af (au hown' (au hgrow hat));have lA:=jF.1;clear hown' hgrow jF hat);all_goals have hM:=MK.line HK.out.1 hW HK.out.2.2.2.2 x la ln lc HK.out.2.2.1 HK.out.2.2.2.1 vs HK.out.2.1 dY.out.1 dY.out.2.1 dY.out.2.2 tg;clear dY HRW HB cA fA lA;generalize hW3:wA.setCell ⟨c.B,0,none⟩ (.slice (some ⟨g',0,none⟩) (out.length+1) cap')=W3 at hM;obtain⟨m1,m2,m3,m4,m5,m6⟩:=hM;have c1:=(m2.2 1 _ rfl).1;have f1:=(m2.2 1 _ rfl).2;have l3:c.B<W3.heap.size:=m3;have oG:=aB W3 (.cells #[.int .i64 tg] 2);have o4:(W3.alloc (.cells #[.int .i64 tg] 2)).ownsRow (c.B+1) 2 1 (.slice ag out.length cg) out.length ((out.map (·.2)).map iv):=by{have:=m5.kept oG;unfold OI at this;rwa [List.length_map]at this};have hgB:∀g,(Value.slice ag out.length cg).ownBlock=some g->c.B+1<=g:=fun g hg=>(aS o4 hg).1;have b4:=m2.kept oG;have Yb:=af o4;have Yc:=af b4;have HM:=af (au m1 (au m2 (au m3 (au m4 (au m5 (au m6 oG))))));clear m1 m2 m3 m4 m5 m6 o4 b4 oG;go_wp2_with(at_builtin;refine wpList_append_own_at _ rfl _ _ 39 rfl (c.B+1) 2 j0 (.int .i64 0) 1 8 Tryz.underlying39 hj hy0 hy1 hy2 rfl (by decide) (.slice ag out.length cg) out.length _ rfl Yb.out ⟨W3.heap.size,0,none⟩ 1 1 [.int .i64 tg] rfl rfl (cell_one_new _ _ _) (by simp[Value.oneCell']) (by simp only[maxLen];omega) (by omega) (by simp;omega) ?_;intro v2 wB hown2 hgrow2 _ mh;obtain⟨g2,cap2,rfl⟩:=ownsRow_succ hown2;have NC:=Yc.out.gz hgrow2 (fun e=>by have:=hgB c.B e;omega);have cB:=(NC.2 1 _ rfl).1;have fB:=(NC.2 1 _ rfl).2;have iI:=af (au hown2 (au hgrow2 mh));have lB:=NC.1;clear hown2 hgrow2 NC mh);(try simp only[Exit.inBlock,Exit.then]);obtain⟨m1,m2,m3,m4,m5,m6,oG⟩:=HM.out;have hF:=MK.goal hW m1 m2 m3 m4 m5 oG iI.out.1 iI.out.2.1 iI.out.2.2;refine bodyPost_end (results_none rfl _ _ _) rfl ⟨_,_,rfl,hF.1,m6.trans hF.2⟩
theorem iC {c:LX}{W0 W:World}{v vg:Value}{out:List (Ln×Int)}{P:Nat->Prop}(T:TX c W0)(K:MK c W0 W v vg out P)(h:Int)(h1:-100<=h)(h2:h<=100):Calls Tryz.prog 96 #[.pointer (some ⟨c.B,0,none⟩), .int .i64 h] W fun e w'=>e= .returned (.int .i64 (Lw.bx c.f h))/\w'=W:=by have d2:=(K.box.2 2 _ rfl).1;have hok:=T.ok;have HW:Hid (Lw.bx c.f h=Lw.wd c.f+h):=rfl;have hw1:0<=Lw.wd c.f/\Lw.wd c.f<=6:=by{unfold Lw.wd;omega};generalize Lw.wd c.f=u at d2 HW hw1;clear T K hok;go_enter Tryz.func96,Tryz.ntmps96;go_wp2;go_ret;exact⟨by rw[HW.out]<;>rfl,rfl⟩
theorem Lw.kP {f:Fn}{E H:List Int}{n:Nat}{dp:Int}{t:Nat}(hlt:dp.toNat<(aC.bI f.b E n n).length)(ht:(aC.bI f.b E n n).getD dp.toNat (-1)=(t:Int)):Lw.bT f E H n dp=if aC.op f.b t=9 then((t:Int)+1,0,0)else if aC.op f.b t=10 then(aC.aO E t,Lw.bx f (H.getD t 0-1),Hg.arg f.b t)else(aC.aO E t,Lw.bx f (H.getD t 0),Hg.arg f.b t):=by unfold Lw.bT;rw[az hlt,ht];rfl
theorem Lw.ko {f:Fn}{E H:List Int}{n:Nat}{dp:Int}(hlt:¬dp.toNat<(aC.bI f.b E n n).length):Lw.bT f E H n dp=((f.b.length:Int)-1,Lw.bx f 0,f.g):=by unfold Lw.bT;rw[ay hlt]
theorem aI {W W':World}{p:Addr}{v:Value}(hB:Below W.heap.size W W')(h:W.cell? p=some v):W'.cell? p=some v:=(hB.cell (p:=p) (World.block_lt_of_cell? _ _ h)).trans h
theorem aC.jU (xs:List (Int×Int))(E:List Int)(a:Int):∀k,(aC.bI xs E a k).length<=k
 |0=>Nat.le_refl _
 | k+1=>by
   have:=aC.jU xs E a k
   unfold aC.bI
   split
   · rw[List.length_cons];omega
   · omega
theorem iL {c:LX}{W0 W:World}{v vg:Value}{out:List (Ln×Int)}{P:Nat->Prop}(T:TX c W0)(K:MK c W0 W v vg out P)(at':Nat)(hat:at'<c.f.b.length)(dp:Int)(h0:0<=dp)(h9:dp<=99)
   (hJ:∀t:Nat,dp.toNat<(aC.bI c.f.b c.E at' at').length->(aC.bI c.f.b c.E at' at').getD dp.toNat (-1)=(t:Int)->0<=c.H.getD t 0):
   Calls Tryz.prog 97 #[.pointer (some ⟨c.B,0,none⟩), .int .i64 at', .int .i64 dp] W fun e w'=>
     e= .returned (.tuple #[.int .i64 (Lw.bT c.f c.E c.H at' dp).1, .int .i64 (Lw.bT c.f c.E c.H at' dp).2.1, .int .i64 (Lw.bT c.f c.E c.H at' dp).2.2])/\Below W.heap.size W w':=by
 obtain⟨hH,hE,hS⟩:=T.il K
 have hLen:=T.ok.2.2.2.2.2
 have hall:=T.all
 have Bp:=T.acc.Dg
 have htop:=T.acc.bV
 obtain⟨bl,hbl⟩:∃n,c.f.b.length=n:=⟨_,rfl⟩
 have hbx:=K.box
 unfold LX.ku at hbx
 rw[hbl]at hH hE hS hLen hat htop hbx
 have d4:=(hbx.2 4 _ rfl).1
 have d5:=(hbx.2 5 _ rfl).1
 have Bq:=hbx.1
 have e4:∀p:dA W,p.to.cell? ⟨c.B,4,none⟩=some (.slice c.ea bl c.ec):=fun p=>(p.h.cell (p:=⟨c.B,4,none⟩) Bq).trans d4
 have e5:∀p:dA W,p.to.cell? ⟨c.B,5,none⟩=some (.slice c.ba bl c.bc):=fun p=>(p.h.cell (p:=⟨c.B,5,none⟩) Bq).trans d5
 have hne:=dA.any W
 have HT:=af (au T (au K (au hbl (au hbx (au htop Bp)))))
 have hcon:=fun(W':World) (hB:Below W.heap.size W W')=>o7 c.ba bl c.bc c.f.b hLen hall c.ea c.ec c.E at' hat W' (hS.kept hB) (hE.kept hB)
 clear hbx htop Bp hall d4 d5
 have hal:=aC.jU c.f.b c.E at' at'
 obtain⟨A,hAr⟩:∃A,aC.bI c.f.b c.E at' at'=A:=⟨_,rfl⟩
 have harm:=fun i hi=>aC.qK (i:=i) HT.out.2.2.2.2.2 hAr hi
 have y7:=af (au (fun(t:Nat) h1 h2=>Lw.kP (f:=c.f) (E:=c.E) (H:=c.H) (n:=at') (dp:=dp) (t:=t) h1 h2) (fun h1=>Lw.ko (f:=c.f) (E:=c.E) (H:=c.H) (n:=at') (dp:=dp) h1))
 rw[hAr]at hal y7
 simp only[hAr]at hJ hcon
 obtain⟨L,hL⟩:∃L,Lw.bT c.f c.E c.H at' dp=L:=⟨_,rfl⟩
 rw[hL]at y7 ⊢
 clear hL hAr
 go_enter Tryz.func97,Tryz.ntmps97
 go_wp2
 refine gq 9 (by kernel_rfl) (by kernel_rfl) ?_
 simp only[List.take_succ_cons,List.take_zero,List.drop_succ_cons,List.drop_zero]
 repeat(go_big_quiet_step (fail))
 refine wpQuiet_nil ?_
 rintro _ ⟨pw,rfl⟩
 have LP:=pw.h
 have aU:=hcon _ LP
 obtain⟨W1,hW1⟩:∃W1,pw.to=W1:=⟨_,rfl⟩
 rw[hW1]at aU LP ⊢
 clear hcon hW1 e4 e5 hne
 go_wp2_with fail
 refine aU.mono ?_
 rintro e w1 ⟨v1,rfl,hoi,hB1⟩
 dsimp only
 obtain⟨a1,c1,rfl,lJ⟩:=hoi.slice
 have hB2:=LP.trans (hB1.mono LP.size)
 have hK1:=HT.out.2.1.kept hB2
 have hbx:=hK1.box
 unfold LX.ku at hbx
 rw[HT.out.2.2.1]at hbx
 have d2:=(hbx.2 2 _ rfl).1
 have d3:=(hbx.2 3 _ rfl).1
 have d4:=(hbx.2 4 _ rfl).1
 have d5:=(hbx.2 5 _ rfl).1
 have d6:=(hbx.2 6 _ rfl).1
 have Bq:=hbx.1
 have hS1:=hS.kept hB2
 have hE1:=hE.kept hB2
 have hH1:=hH.kept hB2
 have HB:=af hB2
 have oH:=af (fun(p:dA w1) (h:Int) h1 h2=>iC HT.out.1 (hK1.kept p.h) h h1 h2)
 have hne:=dA.any w1
 clear hoi hbx aU hB1 hB2 LP hS hE hH
 by_cases hlt:dp.toNat<A.length
 · obtain⟨t,et,htl,FH,-⟩:=harm dp.toNat hlt
   have hge:¬((A.length:Int)<=dp):=by omega
   have htn:t<bl:=by omega
   have hxt:A.getD dp.toNat 0=(t:Int):=by
     rw[←et]
     unfold aC.aO
     rw[ai,ai,aj hlt]
     rfl
   have hdt:A.getD dp.toNat (-1)=(t:Int):=et
   have cA:∃ab ao,a1=some ⟨ab,ao,none⟩/\w1.cell? ⟨ab,ao+dp.toNat,none⟩=some (.int .i64 t):=by
     obtain⟨-,-,h3|⟨b,o,rfl,-,hh⟩⟩:=lJ
     · omega
     · exact⟨b,o,rfl,by rw[hh dp.toNat hlt,hxt]⟩
   obtain⟨ab,ao,rfl,cA⟩:=cA
   have cE:∃b o,c.ea=some ⟨b,o,none⟩/\b<w1.heap.size/\w1.cell? ⟨b,o+t,none⟩=some (.int .i64 (aC.aO c.E t)):=by
     obtain⟨hl,-,h3|⟨b,o,e,hb,hh⟩⟩:=hE1
     · omega
     · refine⟨b,o,e,hb,?_⟩
       rw[hh t htn]
       unfold aC.aO
       rw[ai,ai,aj (by omega)]
       rfl
   obtain⟨eb,eo,ee,lE,cE⟩:=cE
   have cH:∃b o,c.ha=some ⟨b,o,none⟩/\b<w1.heap.size/\w1.cell? ⟨b,o+t,none⟩=some (.int .i64 (c.H.getD t 0)):=by
     obtain⟨hl,-,h3|⟨b,o,e,hb,hh⟩⟩:=hH1
     · omega
     · exact⟨b,o,e,hb,hh t htn⟩
   obtain⟨hb',ho',eh,lH,cH⟩:=cH
   have cS:∃b o,c.ba=some ⟨b,o,none⟩/\b<w1.heap.size/\w1.cell? ⟨b,o+t*2,none⟩=some (.int .i64 (aC.op c.f.b t))/\w1.cell? ⟨b,o+t*2+1,none⟩=some (.int .i64 (Hg.arg c.f.b t)):=by
     obtain⟨hl,-,h3|⟨b,o,e,hb,hh⟩⟩:=hS1
     · omega
     · exact⟨b,o,e,hb,(hh t htn).1,(hh t htn).2⟩
   obtain⟨sb,so,es,lS,y8,cS2⟩:=cS
   have HL:Hid (L=if aC.op c.f.b t=9 then((t:Int)+1,0,0)else if aC.op c.f.b t=10 then(aC.aO c.E t,Lw.bx c.f (c.H.getD t 0-1),Hg.arg c.f.b t)else(aC.aO c.E t,Lw.bx c.f (c.H.getD t 0),Hg.arg c.f.b t)):=y7.out.1 t hlt hdt
   have Yd:c.H.getD t 0<=20:=HT.out.2.2.2.2.1 t htn
   have FK:0<=c.H.getD t 0:=hJ t hlt hdt
   obtain⟨p,hp⟩:∃p,aC.op c.f.b t=p:=⟨_,rfl⟩
   obtain⟨q,hq⟩:∃q,Hg.arg c.f.b t=q:=⟨_,rfl⟩
   obtain⟨u,hu⟩:∃u,c.H.getD t 0=u:=⟨_,rfl⟩
   obtain⟨z,hz⟩:∃z,aC.aO c.E t=z:=⟨_,rfl⟩
   rw[hp,hq,hu,hz]at HL
   rw[hp]at y8
   rw[hq]at cS2
   rw[hu]at cH Yd FK
   rw[hz]at cE
   have U5:=af (fun(pz:dA w1)=>oH.out pz (u-1) (by omega) (by omega))
   have U6:=af (fun(pz:dA w1)=>oH.out pz u (by omega) (by omega))
   obtain⟨b1,hb1⟩:∃b1,Lw.bx c.f (u-1)=b1:=⟨_,rfl⟩
   obtain⟨b2,hb2⟩:∃b2,Lw.bx c.f u=b2:=⟨_,rfl⟩
   rw[hb1]at U5 HL
   rw[hb2]at U6 HL
   obtain⟨dn,hdn⟩:=Int.eq_ofNat_of_zero_le h0
   subst hdn
   rw[aA]at cA hlt
   have Ye:(dn:Int)<(A.length:Int):=by omega
   have Zm:(t:Int)<(bl:Int):=by omega
   rw[eh]at d3
   rw[ee]at d4
   rw[es]at d5
   have g3:∀p:dA w1,p.to.cell? ⟨c.B,3,none⟩=some (.slice (some ⟨hb',ho',none⟩) bl c.hc):=fun p=>(p.h.cell (p:=⟨c.B,3,none⟩) Bq).trans d3
   have g4:∀p:dA w1,p.to.cell? ⟨c.B,4,none⟩=some (.slice (some ⟨eb,eo,none⟩) bl c.ec):=fun p=>(p.h.cell (p:=⟨c.B,4,none⟩) Bq).trans d4
   have g5:∀p:dA w1,p.to.cell? ⟨c.B,5,none⟩=some (.slice (some ⟨sb,so,none⟩) bl c.bc):=fun p=>(p.h.cell (p:=⟨c.B,5,none⟩) Bq).trans d5
   have gE:∀p:dA w1,p.to.cell? ⟨eb,eo+t,none⟩=some (.int .i64 z):=fun p=>(p.h.cell (p:=⟨eb,eo+t,none⟩) lE).trans cE
   have gH:∀p:dA w1,p.to.cell? ⟨hb',ho'+t,none⟩=some (.int .i64 u):=fun p=>(p.h.cell (p:=⟨hb',ho'+t,none⟩) lH).trans cH
   have gS:∀pz:dA w1,pz.to.cell? ⟨sb,so+t*2+1,none⟩=some (.int .i64 q):=fun pz=>(pz.h.cell (p:=⟨sb,so+t*2+1,none⟩) lS).trans cS2
   obtain⟨al,LQ⟩:∃al,A.length=al:=⟨_,rfl⟩
   rw[LQ]at Ye hlt hge hal ⊢
   clear harm lJ hS1 hE1 hH1 hxt hdt et hp hq hu hz hb1 hb2 LQ hJ y7 ee eh es d2 d6
   by_cases GA:p=9
   · subst GA
     clear g3 g4 g5 gE gH gS
     go_wp2
     go_ret3
     exact⟨by rw[HL.out];rfl,HB.out⟩
   · by_cases h10:p=10
     · subst h10
       go_wp2
       refine bU (by kernel_rfl) (by kernel_rfl) ?_
       repeat(go_big_quiet_step (first|exact eP (U5.out _)))
       refine wpQuiet_nil ?_
       rintro _ ⟨pz,rfl⟩
       have LU:=pz.h
       clear g3 g4 g5 gE gH gS
       generalize pz.to=w7 at*
       go_wp2
       go_ret3
       exact⟨by rw[HL.out];rfl,HB.out.trans (LU.mono HB.out.size)⟩
     · have e9:(p==9)=false:=by simpa using GA
       have e10:(p==10)=false:=by simpa using h10
       go_wp2
       refine bU (by kernel_rfl) (by kernel_rfl) ?_
       repeat(go_big_quiet_step (first|exact eP (U6.out _)))
       refine wpQuiet_nil ?_
       rintro _ ⟨pz,rfl⟩
       have LU:=pz.h
       clear g3 g4 g5 gE gH gS
       generalize pz.to=w7 at*
       go_wp2
       go_ret3
       exact⟨by rw[HL.out,ay GA,ay h10];rfl,HB.out.trans (LU.mono HB.out.size)⟩
 · have hge:(A.length:Int)<=dp:=by omega
   have HL:Hid (L=((bl:Int)-1,Lw.bx c.f 0,c.f.g)):=by
     show _=_
     rw[y7.out.2 hlt,HT.out.2.2.1]
   have HX0:=af (fun(p:dA w1)=>oH.out p 0 (by omega) (by omega))
   have g5:∀p:dA w1,p.to.cell? ⟨c.B,5,none⟩=some (.slice c.ba bl c.bc):=fun p=>(p.h.cell (p:=⟨c.B,5,none⟩) Bq).trans d5
   have g6:∀p:dA w1,p.to.cell? ⟨c.B,6,none⟩=some (.int .i64 c.f.g):=fun p=>(p.h.cell (p:=⟨c.B,6,none⟩) Bq).trans d6
   obtain⟨bz,hbz⟩:∃bz,Lw.bx c.f 0=bz:=⟨_,rfl⟩
   rw[hbz]at HL HX0
   clear harm lJ hS1 hE1 hH1 hJ hal hbz d2 d3 d4 d5 d6
   go_wp2
   refine bU (by kernel_rfl) (by kernel_rfl) ?_
   repeat(go_big_quiet_step (first|exact eP (HX0.out _)))
   refine wpQuiet_nil ?_
   rintro _ ⟨pz,rfl⟩
   have LU:=pz.h
   generalize pz.to=w7 at*
   go_wp2
   go_ret3
   exact⟨by rw[HL.out];rfl,HB.out.trans (LU.mono HB.out.size)⟩
end Go.Proofs.YtellfmhljjdjbaaGreatDoor
