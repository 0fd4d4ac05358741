/-
  Own texts for a law: Insp5 LikeL
-/
import Derived.Test.YtellfmhljjdjbaaGreatDoorKA26
namespace Go.Proofs.YtellfmhljjdjbaaGreatDoor
open Go.RowKit Go.Shelf
set_option linter.all false
set_option maxRecDepth 100000
set_option maxHeartbeats 16000000
section
variable {c : IC} {h : Int} {H : List Int} {S : List bT} {W : World}
def Ref (s:jH)(e:Ending):Prop:=∃ad,ad∈s.rest/\e= .returned (cK ad)
theorem GV (s:jH)(bC:jv s c.w)(fs:List Fn)(hfs:FL c.w c.a c.len fs)(hsl:SL c.w c.ba c.bl c.f.b)(jM:c.bl<=80)(i:Nat)(hi:i<c.bl)(p q o:Int)(hpq:c.f.b.getD i (0,0)=(p,q))(ho:c.O.getD i (-1)=o)(hol:-1<=o)(hok:St.ok p q=true)(hfa:0<=c.f.a/\c.f.a<=3)(hfl:0<=c.f.l/\c.f.l<=3)(hS:S.length<=81)(hs:IS c h H S W):Calls Tryz.prog 111 #[.pointer (some ⟨c.N,0,none⟩), .int .i64 i] W fun e w'=>(if Hg.bad fs c.f o S.length p q=true then Ref s e else e= .returned .nilIface)/\Below W.heap.size W w':=by have jb:=St.gV hok;have Ii:Wd.dY q (St.least p) (St.bH p)=true:=by{rw[St.ok,ax]at hok;exact hok.2};have Ii:=Wd.bB.1 Ii;obtain⟨av,cv,hr,hb⟩:=hs.cells;have c0:=(hb.2 0 _ rfl).1;have c4:=(hb.2 4 _ rfl).1;have c5:=(hb.2 5 _ rfl).1;have c6:=(hb.2 6 _ rfl).1;have hN:=hs.yG;have Wz:c.gO<W.heap.size:=by{have:=hs.iO;have:=hs.hm;omega};have e0:=dR hs.rO hi (-1);rw[ho]at e0;have hsk:=hsl.kept hs.bQ;obtain⟨hsl1,-,fw⟩:=hsk;rcases fw with h0|⟨bb,bo,Ij,hbb,gz⟩;{omega};rw[Ij]at c4;obtain⟨z0,z1⟩:=gz i hi;rw[hpq]at z0 z1;simp only at z0 z1;have Vi:=hfs.1;have hfm:=hfs.2.1;unfold maxLen at hfm;have hsw:=bC.kept hs.bQ bC.sz;have g1:=hsw.lo;have g2:=hsw.ca;have g3:=hsw.la;have g4:=hsw.el;have hsz:=hsw.sz;have y1:4<W.heap.size:=by{omega};have y2:5<W.heap.size:=by{omega};have y3:6<W.heap.size:=by{omega};have y4:7<W.heap.size:=by{omega};have hB1:=aB W (.cells #[.int .i64 p, .int .i64 q] 121);have HS:=af (hs.kept hB1);have HL:=af Vi;unfold cK at g1 g2 g3 g4;clear gz Ij hr hb hs hsl hfs hpq ho hsw bC hok hsl1 Vi;by_cases hoth:p≠2/\p≠3/\p≠4/\p≠10/\p≠13/\p≠14/\p≠16;{obtain⟨k2,k3,k4,k10,k13,k14,k16⟩:=hoth;have l2:(p==2)=false:=by{simpa using k2};have l3:(p==3)=false:=by{simpa using k3};have l4:(p==4)=false:=by{simpa using k4};have l10:(p==10)=false:=by{simpa using k10};have l13:(p==13)=false:=by{simpa using k13};have l14:(p==14)=false:=by{simpa using k14};have l16:(p==16)=false:=by{simpa using k16};have hbad:Hg.bad fs c.f o S.length p q=false:=by{unfold Hg.bad;simp[k2,k3,k4,k16,k13,k14,k10]};rw[hbad];clear hbad k2 k3 k4 k10 k13 k14 k16;go_enter Tryz.func111,Tryz.ntmps111;go_wp2;go_ret;exact⟨rfl,hB1⟩};have hk:(p=2\/p=3\/p=4)\/p=10\/(p=13\/p=14)\/p=16:=by{omega};clear hoth;rcases hk with hk|rfl|hk|rfl;{by_cases hloc:c.f.a+c.f.l<=q;{have hbad:Hg.bad fs c.f o S.length p q=true:=by{unfold Hg.bad;simp[hk,hloc]};rw[hbad];clear hbad;rcases hk with rfl|rfl|rfl;all_goals clear Ii;go_enter Tryz.func111,Tryz.ntmps111;go_wp2;go_quiet (fail);go_wp2;go_ret;exact⟨⟨s.lo,by simp[jH.rest],rfl⟩,hB1.trans ((eU _ _).mono hB1.size)⟩};have hbad:Hg.bad fs c.f o S.length p q=false:=by{unfold Hg.bad;simp;omega};rw[hbad];clear hbad;have adY:¬(c.f.a+c.f.l<=q):=hloc;rcases hk with rfl|rfl|rfl;all_goals clear Ii;go_enter Tryz.func111,Tryz.ntmps111;go_wp2;go_quiet (fail);go_wp2;go_ret;exact⟨rfl,hB1.trans ((eU _ _).mono hB1.size)⟩};{simp only[St.least,St.bH]at Ii;have hq1:0<=q/\q<=1:=by{simpa using Ii};clear Ii;by_cases hq:q=1;{subst hq;by_cases ho0:o=-1;{subst ho0;have hbad:Hg.bad fs c.f (-1) S.length 10 1=true:=by{simp[Hg.bad]};rw[hbad];clear hbad hol;go_enter Tryz.func111,Tryz.ntmps111;go_wp2;go_ret;exact⟨⟨s.el,by simp[jH.rest],rfl⟩,hB1⟩};have hbad:Hg.bad fs c.f o S.length 10 1=false:=by{simp[Hg.bad];omega};rw[hbad];have ho1:(o==-1)=false:=by{simpa using ho0};clear hbad ho0;go_enter Tryz.func111,Tryz.ntmps111;go_wp2;go_ret;exact⟨rfl,hB1⟩};have hq0:q=0:=by{omega};subst hq0;have hbad:Hg.bad fs c.f o S.length 10 0=false:=by{simp[Hg.bad]};rw[hbad];clear hbad hq hq1;go_enter Tryz.func111,Tryz.ntmps111;go_wp2;go_ret;exact⟨rfl,hB1⟩};{have hq1:0<=q:=by{have h1:St.least p=0:=by{unfold St.least;rw[ay (by omega)]};omega};clear Ii;have hcon:=lC q hq1 hS HS.out;by_cases hlb:q<S.length;{have hbad:Hg.bad fs c.f o S.length p q=false:=by{unfold Hg.bad;simp;omega};rw[hbad];rw[decide_eq_true hlb]at hcon;clear hbad hlb;rcases hk with rfl|rfl;all_goals go_enter Tryz.func111,Tryz.ntmps111;go_wp2_with fail;refine hcon.mono ?_;rintro e w1 ⟨rfl,hB2⟩;clear hcon;have hB3:=hB1.trans (hB2.mono hB1.size);clear hB2;go_wp2;go_ret;exact⟨rfl,hB3⟩};have hbad:Hg.bad fs c.f o S.length p q=true:=by{unfold Hg.bad;simp;omega};rw[hbad];rw[decide_eq_false hlb]at hcon;clear hbad hlb;rcases hk with rfl|rfl;all_goals go_enter Tryz.func111,Tryz.ntmps111;go_wp2_with fail;refine hcon.mono ?_;rintro e w1 ⟨rfl,hB2⟩;clear hcon;have hB3:=hB1.trans (hB2.mono hB1.size);have g3':=(hB3.cell (p:=⟨6,0,none⟩) (by simp only;omega)).trans g3;clear hB2;go_wp2;go_ret;exact⟨⟨s.la,by simp[jH.rest],rfl⟩,hB3⟩};simp only[St.least,St.bH]at Ii;have hq1:0<=q/\q<=3:=by{simpa using Ii};clear Ii;by_cases hcl:(c.len:Int)<=q;{have hbad:Hg.bad fs c.f o S.length 16 q=true:=by{have:=HL.out;simp[Hg.bad];omega};rw[hbad];clear hbad;go_enter Tryz.func111,Tryz.ntmps111;go_wp2;go_quiet (fail);go_wp2;go_ret;exact⟨⟨s.ca,by simp[jH.rest],rfl⟩,hB1.trans ((eU _ _).mono hB1.size)⟩};have hbad:Hg.bad fs c.f o S.length 16 q=false:=by{have:=HL.out;simp[Hg.bad];omega};rw[hbad];clear hbad;go_enter Tryz.func111,Tryz.ntmps111;go_wp2;go_quiet (fail);go_wp2;go_ret;exact⟨rfl,hB1.trans ((eU _ _).mono hB1.size)⟩
theorem DZ {W w3:World}(hB:Below W.heap.size W w3)(N i:Nat)(v:Value):W.grownBy (w3.setCell ⟨N,i,none⟩ v) (some N):=by have hg:w3.grownBy (w3.setCell ⟨N,i,none⟩ v) (some N):=aP w3 ⟨N,i,none⟩ v;exact⟨hg.os.trans hB.os,hg.tape.trans hB.tape,hg.output.trans hB.output,Nat.le_trans hB.size hg.size,fun k hk hne=>(hg.block k (ak hk hB.size) hne).trans (hB.block k hk)⟩
theorem JK (s:jH)(bC:jv s c.w)(fs:List Fn)(hfs:FL c.w c.a c.len fs)(p q:Int)(hp:1<=p/\p<=20)(Vj:p=16->0<=q/\q<c.len)(Vk:p=13\/p=14->0<=q)(x:bT)(hS:S.length<=80)(hx:0<=x.st/\x.st<=100)(hw:0<=x.wd/\x.wd<=1)(hh:0<=h/\h<=100)
   (htk:0<=Hg.tk fs p q/\Hg.tk fs p q<=3) (hpt:0<=Hg.pt fs p q/\Hg.pt fs p q<=1) (hcr:0<=p9 c.f (x::S) p q/\p9 c.f (x::S) p q<=1) (hs:IS c h H (x::S) W):
   Calls Tryz.prog 112 #[.pointer (some ⟨c.N,0,none⟩), .agg #[.int .i64 p, .int .i64 q]] W fun e w'=>
     if h-x.st<Hg.tk fs p q+p9 c.f (x::S) p q\/(p=11\/p=12)/\h-x.st≠x.wd then Ref s e/\Below c.w.heap.size c.w w' else e= .returned .nilIface/\IS c (h-Hg.tk fs p q+Hg.pt fs p q) H (x::S) w'/\W.grownBy w' (some c.N):=by
 have hB1:=aB W (.cells #[.int .i64 p, .int .i64 q] 121)
 have hcon:=qj x hS (hs.kept hB1)
 have hN:=hs.yG
 have hT:∀W',IS c h H (x::S) W'->Calls Tryz.prog 137 #[.pointer (some ⟨c.N,0,none⟩), .agg #[.int .i64 p, .int .i64 q]] W' fun e w'=>e= .returned (.tuple #[.int .i64 (Hg.tk fs p q), .int .i64 (Hg.pt fs p q)])/\Below W'.heap.size W' w':=fun W' hs'=>qY fs hfs p q hp Vj hs'
 have hC:∀W',IS c h H (x::S) W'->Calls Tryz.prog 138 #[.pointer (some ⟨c.N,0,none⟩), .agg #[.int .i64 p, .int .i64 q]] W' fun e w'=>e= .returned (.int .i64 (p9 c.f (x::S) p q))/\Below W'.heap.size W' w':=fun W' hs'=>Bf p q hp Vk (by simp;omega) hs'
 obtain⟨tk,KD⟩:∃tk,Hg.tk fs p q=tk:=⟨_,rfl⟩
 obtain⟨pt,KE⟩:∃pt,Hg.pt fs p q=pt:=⟨_,rfl⟩
 obtain⟨cr,KF⟩:∃cr,p9 c.f (x::S) p q=cr:=⟨_,rfl⟩
 rw[KD,KE]at hT
 rw[KF]at hC
 rw[KD]at htk
 rw[KE]at hpt
 rw[KF]at hcr
 rw[KD,KE,KF]
 clear KD KE KF
 have HT:=af hT
 have HC:=af hC
 clear hT hC
 have hsw:=bC.kept hs.bQ bC.sz
 have g1:=hsw.fe
 have g2:=hsw.un
 have hsz:=hsw.sz
 unfold cK at g1 g2
 have E1:Hid (h-tk+pt=h+(pt-tk)):=af (by omega)
 clear hsw bC hfs Vj Vk
 go_enter Tryz.func112,Tryz.ntmps112
 go_wp2_with fail
 refine hcon.mono ?_
 rintro e w1 ⟨rfl,hB2⟩
 clear hcon
 dsimp only
 have hB3:=hB1.trans (hB2.mono hB1.size)
 obtain⟨s0,s1,hl1⟩:=nT hB2
 obtain⟨av,cv,hr,hb⟩:=hs.cells
 have c8:=(hB3.cell (p:=⟨c.N,8,none⟩) hN).trans (hb.2 8 _ rfl).1
 have hN1:c.N<w1.heap.size:=ak hN hB3.size
 have hNW:c.N≠W.heap.size:=by omega
 have HS:=af hs
 have HB3:=af hB3
 clear hr hb hB1 hB2 hB3 hs
 go_wp2
 go_region
 all_goals
   have hB4:=(HB3.out.alloc HB3.out.size (.cells #[.int .i64 x.st, .int .i64 x.wd] 170)).drew
   have bu:=HT.out _ (HS.out.kept hB4)
   go_wp2_with fail
   refine bu.mono ?_
   rintro e w2 ⟨rfl,dP⟩
   clear bu
   dsimp only
   have bU:=hB4.trans (dP.mono hB4.size)
   have fV:=HC.out _ (HS.out.kept bU)
   have hl2:w1.heap.size<w2.heap.size:=by have:=dP.size;simp at this;omega
   have Aa:=(dP.cell (p:=⟨W.heap.size,0,none⟩) (by simp;omega)).trans (show(w1.alloc (.cells #[.int .i64 x.st, .int .i64 x.wd] 170)).cell? ⟨W.heap.size,0,none⟩=_ from(World.cell?_alloc_lt _ _ ⟨W.heap.size,0,none⟩ hl1).trans s0)
   have s1':=(dP.cell (p:=⟨W.heap.size,1,none⟩) (by simp;omega)).trans (show(w1.alloc (.cells #[.int .i64 x.st, .int .i64 x.wd] 170)).cell? ⟨W.heap.size,1,none⟩=_ from(World.cell?_alloc_lt _ _ ⟨W.heap.size,1,none⟩ hl1).trans s1)
   have x0':w2.cell? ⟨w1.heap.size,0,none⟩=some (.int .i64 x.st):=(dP.cell (p:=⟨w1.heap.size,0,none⟩) (by simp)).trans (by simp)
   have x1':w2.cell? ⟨w1.heap.size,1,none⟩=some (.int .i64 x.wd):=(dP.cell (p:=⟨w1.heap.size,1,none⟩) (by simp)).trans (by simp)
   clear hB4 dP s0 s1 c8
   have UC:=af bU
   clear bU
   go_wp2_with fail
   refine fV.mono ?_
   rintro e w3 ⟨rfl,bI⟩
   clear fV
   dsimp only
   have fF:=UC.out.trans (bI.mono UC.out.size)
   have Pq:=HS.out.kept fF
   have s0:=(bI.cell (p:=⟨W.heap.size,0,none⟩) (by simp only;omega)).trans Aa
   have x1:=(bI.cell (p:=⟨w1.heap.size,1,none⟩) hl2).trans x1'
   have pF:=fF.size
   obtain⟨av,cv,hr,hb⟩:=Pq.cells
   have c8:=(hb.2 8 _ rfl).1
   have f8:=(hb.2 8 _ rfl).2
   have HW:=af (au (Pq.D8 (h+(pt-tk))) (DZ fF c.N 8 (.int .i64 (h+(pt-tk)))))
   have HB:=af Pq.bQ
   have g1':=(fF.cell (p:=⟨8,0,none⟩) (by simp only;omega)).trans g1
   have g2':=(fF.cell (p:=⟨9,0,none⟩) (by simp only;omega)).trans g2
   clear bI fF Pq hr hb Aa s1' x0' x1' g1 g2
   by_cases Ih:h-x.st<tk+cr
   · go_wp2
     go_ret
     first|exact⟨⟨s.fe,by simp[jH.rest],rfl⟩,HB.out⟩|(rw[az (Or.inl Ih)];exact⟨⟨s.fe,by simp[jH.rest],rfl⟩,HB.out⟩)
   · by_cases hpe:p=11\/p=12
     · by_cases hun:h-x.st=x.wd
       · have HU:=af hun
         rcases hpe with rfl|rfl
         all_goals
           go_wp2
           go_ret
           have hu:=HU.out
           first|(rw[E1.out];exact⟨rfl,HW.out⟩)|(rw[ay (by omega),E1.out];exact⟨rfl,HW.out⟩)
       · have hun':(h-x.st==x.wd)=false:=by simpa using hun
         rcases hpe with rfl|rfl
         all_goals
           go_wp2
           go_ret
           first|exact⟨⟨s.un,by simp[jH.rest],rfl⟩,HB.out⟩|(rw[az (Or.inr ⟨by omega,hun⟩)];exact⟨⟨s.un,by simp[jH.rest],rfl⟩,HB.out⟩)
     · have l11:(p==11)=false:=by simp;omega
       have l12:(p==12)=false:=by simp;omega
       go_wp2
       go_ret
       first|(rw[E1.out];exact⟨rfl,HW.out⟩)|(rw[ay (by omega),E1.out];exact⟨rfl,HW.out⟩)
end
theorem jA (a b:Option Addr)(len cap cap':Nat)(fs:List Ln)(w:World)(hs:LL w a len fs)(hs':LL w b len fs):Calls Tryz.prog 11 #[.slice a len cap, .slice b len cap'] w fun e w'=>e= .returned (.bool true)/\Below w.heap.size w w':=by obtain⟨hl,hm,hrow⟩:=hs;obtain⟨-,-,hrow'⟩:=hs';clear hl;unfold maxLen at hm;go_enter Tryz.func11,Tryz.ntmps11;go_wp2;go_loopw [5] (fun i wr=>∃k:Nat,i= .int .i64 k/\k<=len/\Below w.heap.size w wr) (fun i _=>len-(intOf i).toNat);(case atStart=>exact⟨0,rfl,Nat.zero_le _,Below.refl _ _⟩);case round=>obtain⟨k,rfl,hk,hB⟩:=hrel;by_cases hlt:k<len;{have Ce:(k:Int)<(len:Int):=by{omega};rcases hrow with h0|⟨b1,eZ,rfl,hb1,hx1⟩;{omega};rcases hrow' with h0|⟨b2,dU,rfl,hb2,hx2⟩;{omega};obtain⟨x0,x1,x2,x3,x4,ba,bl,bc,x5,hsl⟩:=hx1 k hlt;obtain⟨y0,y1,y2,y3,y4,ba',Je,bc',y5,mW⟩:=hx2 k hlt;obtain⟨⟨p,d,aa,bb,n,bd⟩,hpq⟩:∃x,fs.getD k .z=x:=⟨_,rfl⟩;rw[hpq]at x0 x1 x2 x3 x4 y0 y1 y2 y3 y4 hsl mW;simp only at x0 x1 x2 x3 x4 y0 y1 y2 y3 y4 hsl mW;obtain rfl:bl=Je:=hsl.1.symm.trans mW.1;have z0:=(hB.cell (p:=⟨b1,eZ+k*6,none⟩) hb1).trans x0;have z1:=(hB.cell (p:=⟨b1,eZ+k*6+1,none⟩) hb1).trans x1;have z2:=(hB.cell (p:=⟨b1,eZ+k*6+2,none⟩) hb1).trans x2;have z3:=(hB.cell (p:=⟨b1,eZ+k*6+3,none⟩) hb1).trans x3;have z4:=(hB.cell (p:=⟨b1,eZ+k*6+4,none⟩) hb1).trans x4;have z5:=(hB.cell (p:=⟨b1,eZ+k*6+5,none⟩) hb1).trans x5;have hA1:=aB wr (.cells #[.int .i64 p, .int .i64 d, .int .i64 aa, .int .i64 bb, .int .i64 n, .slice ba bl bc] 41);have hB1:=hB.trans (hA1.mono hB.size);have bX:=bG.new wr [.int .i64 p, .int .i64 d, .int .i64 aa, .int .i64 bb, .int .i64 n, .slice ba bl bc] 41;have eX:wr.alloc (.cells [Value.int .i64 p, .int .i64 d, .int .i64 aa, .int .i64 bb, .int .i64 n, .slice ba bl bc].toArray 41)=wr.alloc (.cells #[.int .i64 p, .int .i64 d, .int .i64 aa, .int .i64 bb, .int .i64 n, .slice ba bl bc] 41):=rfl;rw[eX]at bX;generalize hW1:wr.alloc (.cells #[.int .i64 p, .int .i64 d, .int .i64 aa, .int .i64 bb, .int .i64 n, .slice ba bl bc] 41)=W1 at hA1 hB1 bX;have v0:=(hB1.cell (p:=⟨b2,dU+k*6,none⟩) hb2).trans y0;have v1:=(hB1.cell (p:=⟨b2,dU+k*6+1,none⟩) hb2).trans y1;have v2:=(hB1.cell (p:=⟨b2,dU+k*6+2,none⟩) hb2).trans y2;have v3:=(hB1.cell (p:=⟨b2,dU+k*6+3,none⟩) hb2).trans y3;have v4:=(hB1.cell (p:=⟨b2,dU+k*6+4,none⟩) hb2).trans y4;have v5:=(hB1.cell (p:=⟨b2,dU+k*6+5,none⟩) hb2).trans y5;have hA2:=aB W1 (.cells #[.int .i64 p, .int .i64 d, .int .i64 aa, .int .i64 bb, .int .i64 n, .slice ba' bl bc'] 41);have hB2:=hB1.trans (hA2.mono hB1.size);have L6:=bX.kept hA2;have bY:=bG.new W1 [.int .i64 p, .int .i64 d, .int .i64 aa, .int .i64 bb, .int .i64 n, .slice ba' bl bc'] 41;have eY:W1.alloc (.cells [Value.int .i64 p, .int .i64 d, .int .i64 aa, .int .i64 bb, .int .i64 n, .slice ba' bl bc'].toArray 41)=W1.alloc (.cells #[.int .i64 p, .int .i64 d, .int .i64 aa, .int .i64 bb, .int .i64 n, .slice ba' bl bc'] 41):=rfl;rw[eY]at bY;generalize hW2:W1.alloc (.cells #[.int .i64 p, .int .i64 d, .int .i64 aa, .int .i64 bb, .int .i64 n, .slice ba' bl bc'] 41)=W2 at hA2 hB2 L6 bY;have p0:=(L6.2 0 _ rfl).1;have p1:=(L6.2 1 _ rfl).1;have p2:=(L6.2 2 _ rfl).1;have p3:=(L6.2 3 _ rfl).1;have p4:=(L6.2 4 _ rfl).1;have p5:=(L6.2 5 _ rfl).1;have q0:=(bY.2 0 _ rfl).1;have q1:=(bY.2 1 _ rfl).1;have q2:=(bY.2 2 _ rfl).1;have q3:=(bY.2 3 _ rfl).1;have q4:=(bY.2 4 _ rfl).1;have q5:=(bY.2 5 _ rfl).1;have hcon:=uP ba ba' bl bc bc' bd W2 (hsl.kept hB2) (mW.kept hB2);clear hx1 hx2 x0 x1 x2 x3 x4 x5 y0 y1 y2 y3 y4 y5 hpq hsl mW bX L6 bY eX eY hA1 hA2 hB1;go_wp2_with(go_at_call 36;refine hcon.mono ?_;rintro e w7 ⟨rfl,bI⟩;dsimp only);have fF:=hB2.trans (bI.mono hB2.size);clear hcon p0 p1 p2 p3 p4 p5 q0 q1 q2 q3 q4 q5 z0 z1 z2 z3 z4 z5 v0 v1 v2 v3 v4 v5;go_roundw;(case rel=>exact⟨k+1,by simp,by omega,fF⟩);case measure=>simp[intOf];omega};have Ce:¬((k:Int)<(len:Int)):=by{omega};clear hrow hrow';go_wp2;go_ret;exact⟨rfl,hB⟩
end Go.Proofs.YtellfmhljjdjbaaGreatDoor
