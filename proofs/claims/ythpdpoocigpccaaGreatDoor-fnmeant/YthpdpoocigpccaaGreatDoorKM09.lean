/-
  Own texts for a law: StpS StpT Insp3 Insp4 Insp5 Wlk7 Words7 CalZ Lcg Draw1r Draw1m
-/
import Derived.Test.YthpdpoocigpccaaGreatDoorKM07
namespace Go.Proofs.YthpdpoocigpccaaGreatDoor
open Go.RowKit Go.Shelf
set_option linter.all false
set_option maxRecDepth 100000
set_option maxHeartbeats 16000000
theorem U1 {c:PC}{W0:World}{q:KK}{R:Mn.Rs}{aB:Nat}{pile loc mem:List Int}{n:Nat}{W:World}{p a:Int}(Q:KQ c W0 q)(aN:Hid (KJ c q R aB pile loc mem n W))(HST:Hid (aG.op (Mn.fn c.fs q.k).b aB=p/\Hg.arg (Mn.fn c.fs q.k).b aB=a/\St.ok p a=true))(HP:Hid (p=19)):Calls Tryz.prog 77 #[.pointer (some ⟨q.C,0,none⟩)] W (SP c q R n):=by obtain rfl:=HP.out;have hG:=aN.out.good;have hat:aB<q.bl:=by{have:=hG.lt;have:=Q.len;omega};have dM:=Q.mR;have hpl:pile.length<=20:=by{have h1:=hG.here;have h2:=(Q.dE.val.acc q.k Q.lt).dx aB hG.lt;omega};have iF:(c.L q.k aB).length<=81:=by{have:=fT (c:=c) (q:=q) (aB:=aB);omega};obtain⟨v,u,hA,hv,hu⟩:=aN.out.km.box;have c1:=hA.cell (j:=1) rfl;have c6:=hA.cell (j:=6) rfl;have f6:=hA.frozen 6;have mY:=fU Q (Q.dI.trans aN.out.km.dI);obtain⟨-,-,hrow⟩:=mY;rcases hrow with h0|⟨bb,bo,eb,hbb,dL⟩;{omega};obtain⟨gq,gu⟩:q.bb=bb/\q.bo=bo:=by{simpa using eb};have z0:=(dL aB hat).1;have z1:=(dL aB hat).2;have e0:((Mn.fn c.fs q.k).b.getD aB (0,0)).1=19:=HST.out.1;have e1:((Mn.fn c.fs q.k).b.getD aB (0,0)).2=a:=HST.out.2.1;rw[e0,←gq,←gu]at z0;rw[e1,←gq,←gu]at z1;clear dL eb gq gu e0 e1 hbb hv hu;have gy:(aB:Int)<(q.bl:Int):=by{omega};have jX:=aN.out.km.yU;have hsz:(W.setCell ⟨q.C,6,none⟩ (.int .i64 ((aB:Int)+1))).heap.size=W.heap.size:=by{simp[World.setCell]};have ed:=aa ((aN.out.km.setAt ((aB:Int)+1) (df.of (Below.refl _ _) jX _)).1.kept (aC _ (.cells #[.int .i64 19, .int .i64 a] 78)));have fw:Hid (bz ((W.setCell ⟨q.C,6,none⟩ (.int .i64 ((aB:Int)+1))).alloc (.cells #[.int .i64 19, .int .i64 a] 78)) W.heap.size 78 [.int .i64 19, .int .i64 a]):=by{have:=heap_alloc_last (W.setCell ⟨q.C,6,none⟩ (.int .i64 ((aB:Int)+1))) (.cells #[.int .i64 19, .int .i64 a] 78);rw[hsz]at this;exact this};clear hsz hA;go_enter Tryz.func77,Tryz.ntmps77;go_upto_region 3 with fail;obtain⟨W2,hW2⟩:∃W2,(W.setCell ⟨q.C,6,none⟩ (.int .i64 ((aB:Int)+1))).alloc (.cells #[.int .i64 19, .int .i64 a] 78)=W2:=⟨_,rfl⟩;rw[hW2]at ed fw ⊢;obtain⟨sb,hsb⟩:∃sb,W.heap.size=sb:=⟨_,rfl⟩;rw[hsb]at fw ⊢;have s0:=fw.out.cell (j:=0) rfl;have s1:=fw.out.cell (j:=1) rfl;have uO:=fw.out.lt;have HM:=aa ed.out;clear c1 c6 f6 z0 z1 hW2 hsb ed jX;go_wp2;exact⟨rfl,aN.out.halt (Mn.abJ HST.out.1 HST.out.2.1) HM.out⟩
theorem Uk {c:PC}{W0:World}{q:KK}{R:Mn.Rs}{aB:Nat}{pile loc mem:List Int}{n:Nat}{W:World}{p a:Int}(Q:KQ c W0 q)(aN:Hid (KJ c q R aB pile loc mem n W))(HST:Hid (aG.op (Mn.fn c.fs q.k).b aB=p/\Hg.arg (Mn.fn c.fs q.k).b aB=a/\St.ok p a=true))(HP:Hid (¬p=1/\¬p=2/\¬p=3/\¬p=4/\¬p=5/\¬p=6/\¬p=7/\¬p=17/\¬p=18/\¬p=16/\¬p=19))(HT:Hid (∀W2:World,KM c q ((aB:Int)+1) pile loc mem (c.L q.k aB) ((c.aI:Int)-n) W2->Calls Tryz.prog 114 #[.pointer (some ⟨q.C,0,none⟩), .int .i64 aB, .agg #[.int .i64 p, .int .i64 a]] W2 (SP c q R n))):Calls Tryz.prog 77 #[.pointer (some ⟨q.C,0,none⟩)] W (SP c q R n):=by have hG:=aN.out.good;have hat:aB<q.bl:=by{have:=hG.lt;have:=Q.len;omega};have dM:=Q.mR;have hpl:pile.length<=20:=by{have h1:=hG.here;have h2:=(Q.dE.val.acc q.k Q.lt).dx aB hG.lt;omega};have iF:(c.L q.k aB).length<=81:=by{have:=fT (c:=c) (q:=q) (aB:=aB);omega};obtain⟨v,u,hA,hv,hu⟩:=aN.out.km.box;have c1:=hA.cell (j:=1) rfl;have c6:=hA.cell (j:=6) rfl;have f6:=hA.frozen 6;have mY:=fU Q (Q.dI.trans aN.out.km.dI);obtain⟨-,-,hrow⟩:=mY;rcases hrow with h0|⟨bb,bo,eb,hbb,dL⟩;{omega};obtain⟨gq,gu⟩:q.bb=bb/\q.bo=bo:=by{simpa using eb};have z0:=(dL aB hat).1;have z1:=(dL aB hat).2;have e0:((Mn.fn c.fs q.k).b.getD aB (0,0)).1=p:=HST.out.1;have e1:((Mn.fn c.fs q.k).b.getD aB (0,0)).2=a:=HST.out.2.1;rw[e0,←gq,←gu]at z0;rw[e1,←gq,←gu]at z1;clear dL eb gq gu e0 e1 hbb hv hu;have gy:(aB:Int)<(q.bl:Int):=by{omega};have jX:=aN.out.km.yU;have hsz:(W.setCell ⟨q.C,6,none⟩ (.int .i64 ((aB:Int)+1))).heap.size=W.heap.size:=by{simp[World.setCell]};have ed:=aa ((aN.out.km.setAt ((aB:Int)+1) (df.of (Below.refl _ _) jX _)).1.kept (aC _ (.cells #[.int .i64 p, .int .i64 a] 78)));have fw:Hid (bz ((W.setCell ⟨q.C,6,none⟩ (.int .i64 ((aB:Int)+1))).alloc (.cells #[.int .i64 p, .int .i64 a] 78)) W.heap.size 78 [.int .i64 p, .int .i64 a]):=by{have:=heap_alloc_last (W.setCell ⟨q.C,6,none⟩ (.int .i64 ((aB:Int)+1))) (.cells #[.int .i64 p, .int .i64 a] 78);rw[hsz]at this;exact this};clear hsz hA;go_enter Tryz.func77,Tryz.ntmps77;go_upto_region 3 with fail;obtain⟨W2,hW2⟩:∃W2,(W.setCell ⟨q.C,6,none⟩ (.int .i64 ((aB:Int)+1))).alloc (.cells #[.int .i64 p, .int .i64 a] 78)=W2:=⟨_,rfl⟩;rw[hW2]at ed fw ⊢;obtain⟨sb,hsb⟩:∃sb,W.heap.size=sb:=⟨_,rfl⟩;rw[hsb]at fw ⊢;have s0:=fw.out.cell (j:=0) rfl;have s1:=fw.out.cell (j:=1) rfl;have uO:=fw.out.lt;have HM:=aa ed.out;clear c1 c6 f6 z0 z1 hW2 hsb ed jX;obtain⟨k1,k2,k3,k4,k5,k6,k7,k17,k18,k16,k19⟩:=HP.out;have b1:(p==1)=false:=by{simpa using k1};have b2:(p==2)=false:=by{simpa using k2};have b3:(p==3)=false:=by{simpa using k3};have b4:(p==4)=false:=by{simpa using k4};have b5:(p==5)=false:=by{simpa using k5};have b6:(p==6)=false:=by{simpa using k6};have b7:(p==7)=false:=by{simpa using k7};have b17:(p==17)=false:=by{simpa using k17};have b18:(p==18)=false:=by{simpa using k18};have b16:(p==16)=false:=by{simpa using k16};have b19:(p==19)=false:=by{simpa using k19};clear k1 k2 k3 k4 k5 k6 k7 k17 k18 k16 k19;go_wp2_with fail;refine(HT.out W2 HM.out).mono ?_;intro e w3 hsp;rcases hsp with⟨rfl,h⟩|⟨rfl,h⟩|⟨cd,rfl,h⟩;{dsimp only;have HF:Hid (SP c q R n (.returned (.tuple #[])) w3):= .inl ⟨rfl,h⟩;clear h;go_wp2;(try simp only[Exit.inBlock,Exit.then]);exact bodyPost_end (results_none rfl _ _ _) rfl HF.out};{dsimp only;have HF:Hid (SP c q R n (.returned (.tuple #[])) w3):= .inr (.inl ⟨rfl,h⟩);clear h;go_wp2;(try simp only[Exit.inBlock,Exit.then]);exact bodyPost_end (results_none rfl _ _ _) rfl HF.out};exact⟨rfl, .inr (.inr ⟨cd,rfl,h⟩)⟩
section
variable {c : IC} {h : Int} {H : List Int} {S : List dh} {W : World}
theorem qZ (hS:S.length<=81)(hs:IS c h H S W):Calls Tryz.prog 182 #[.pointer (some ⟨c.N,7,none⟩)] W fun e w'=>∃v,e= .returned v/\w'.ownsRow W.heap.size 218 2 v S.length (ko S)/\Below W.heap.size W w':=by obtain⟨i0,hi,hz0,hz1,hz2⟩:=info_parts tH;obtain⟨av,cv,hr,hb⟩:=hs.cells;have c7:=(hb.2 7 _ rfl).1;have h0:=hs.yV;obtain⟨n,hn⟩:∃n,S.length=n:=⟨_,rfl⟩;rw[hn]at hr c7 hS;have hmk:=run_make (P:=Tryz.prog) W 195 218 i0 _ Tryz.underlying195 hi hz0 .i64 .i64 0 (n:Int) (by omega) (by omega) (by rw[hz2];omega) (by omega);rw[hz1]at hmk;simp only[az,Int.toNat_zero]at hmk;have xw:=gU (World.ownsRow_lit (base:=W.heap.size) (size:=2) (e:=218) W (madeCells (Value.agg #[.int .i64 0, .int .i64 0]).cells (n*2)) n (Nat.le_refl _) (by simp only[maxLen];omega) (size_madeCells _ _)) 0 (Nat.zero_le _);rw[Nat.zero_mul,List.take_zero]at xw;have hB0:=aC W (.cells (madeCells (Value.agg #[.int .i64 0, .int .i64 0]).cells (n*2)) 218);obtain⟨wm,hwm⟩:∃wm,W.alloc (.cells (madeCells (Value.agg #[.int .i64 0, .int .i64 0]).cells (n*2)) 218)=wm:=⟨_,rfl⟩;rw[hwm]at hmk xw hB0;have d1:=(hB0.cell (p:=⟨c.N,7,none⟩) h0).trans c7;clear hwm hs hb;go_enter Tryz.func182,Tryz.ntmps182;go_wp2;go_loopw [3,4] (fun v i wr=>∃(k g cc:Nat),i= .int .i64 ((k:Int)-1)/\k<=n/\v= .slice (some ⟨g,0,none⟩) (n-k) cc/\wr.ownsRow W.heap.size 218 2 (.slice (some ⟨g,0,none⟩) (n-k) cc) (n-k) (ko (S.take (n-k)))/\Below W.heap.size W wr) (fun _ i _=>(intOf i+1).toNat);(case atStart=>refine⟨n,_,n,rfl,Nat.le_refl _,by rw[Nat.sub_self],?_,hB0⟩;rw[Nat.sub_self,List.take_zero];exact xw);case round=>obtain⟨k,g,cc,rfl,hk,rfl,hown,hB⟩:=hrel;clear xw hB0 hmk d1;have HN:=aa hn;clear hn;rcases Nat.eq_zero_or_pos k with rfl|hkp;{have HOW:=aa hown;clear hown hr;go_wp2;go_ret;refine⟨_,rfl,?_,hB⟩;have h:=HOW.out;rw[Nat.sub_zero,List.take_of_length_le (by rw[HN.out];exact Nat.le_refl _)]at h;rw[HN.out];exact h};obtain⟨j,rfl⟩:∃j,k=j+1:=⟨k-1,by omega⟩;have hij:((j+1:Nat):Int)-1=(j:Int):=by{omega};rw[hij];rcases hr.2 with⟨-,h0'⟩|⟨gv,cap',cur,e',-⟩;{omega};cases e';obtain⟨hx1,hx2⟩:=oU hr (k:=j) (by omega);have hgv:=(hr.lt gv rfl).2;rw[ze S j (by rw[HN.out];omega),HN.out]at hx1 hx2;obtain⟨x,dL⟩:∃x,S.getD (n-1-j) ⟨0,0,false⟩=x:=⟨_,rfl⟩;rw[dL]at hx1 hx2;have e1:=(hB.cell (p:=⟨c.N,7,none⟩) h0).trans c7;have e2:=(hB.cell (p:=⟨gv,j*2,none⟩) hgv).trans hx1;have e3:=(hB.cell (p:=⟨gv,j*2+1,none⟩) hgv).trans hx2;have hBx:=hB.alloc hB.size (.cells #[.int .i64 x.st, .int .i64 x.wd] 218);have HRW:=aa (hown.alloc (.cells #[.int .i64 x.st, .int .i64 x.wd] 218));have hsz:=hB.size;have HX:=aa dL;obtain⟨m,hm⟩:∃m,n-(j+1)=m:=⟨_,rfl⟩;rw[hm]at HRW ⊢;have Yu:m<=81:=by{omega};have HM:=aa hm;clear hr hown hB dL hx1 hx2 hm;go_wp2_with(at_builtin;refine wpList_append_own _ rfl _ _ 195 rfl W.heap.size 218 i0 (.agg #[.int .i64 0, .int .i64 0]) 2 16 Tryz.underlying195 hi hz0 hz1 hz2 rfl (by decide) _ _ _ rfl HRW.out ⟨wr.heap.size,0,none⟩ 1 1 [.int .i64 x.st, .int .i64 x.wd] rfl rfl (wY wr _ _ _ 218 _ rfl (fun _=>rfl)) (by simp[Value.oneCell']) (by simp only[maxLen];omega) (by omega) (by simp;omega) ?_;intro v' wA hown' hgrow _;have hB4:=fC HRW.out hBx (by simp;omega) hgrow;obtain⟨g',cap',rfl⟩:=ownsRow_succ hown');go_roundw;(case rel=>have hm:=HM.out;have e:n-j=m+1:=by{omega};have e':S.take (m+1)=S.take m++[x]:=by{have hn:=HN.out;have dL:=HX.out;rw[List.take_add_one,ag (by omega)];rw[af,ag (by omega)]at dL;have:n-1-j=m:=by{omega};simp only[this,Option.getD_some]at dL;rw[dL];rfl};refine⟨j,g',cap',rfl,by omega,by rw[e],?_,hB4⟩;rw[e,e',ng];exact hown');case measure=>first|(simp[intOf];done)|(simp[intOf];omega)
def nD (S:List dh)(q:Int):Int:=if q<S.length then Hg.jS S q else 0
theorem mP (q:Int)(hq:0<=q)(hS:S.length<=81)(hs:IS c h H S W):Calls Tryz.prog 162 #[.pointer (some ⟨c.N,0,none⟩), .int .i64 q] W fun e w'=>e= .returned (.tuple #[.int .i64 (nD S q), .bool (decide (q<S.length))])/\Below W.heap.size W w':=by have hN:=hs.yV;have hcon:=qZ hS hs;clear hs;go_enter Tryz.func162,Tryz.ntmps162;go_wp2_with fail;refine hcon.mono ?_;rintro e w1 ⟨v,rfl,hr,hB⟩;clear hcon;by_cases hlt:q<S.length;{obtain⟨k,rfl⟩:∃k:Nat,q=k:=⟨q.toNat,by omega⟩;have hk:k<S.length:=by{omega};rcases hr.2 with⟨-,h0'⟩|⟨g,cap',cur,rfl,-⟩;{omega};obtain⟨-,hx⟩:=oU hr hk;have e1:nD S (k:Int)=(S.getD k ⟨0,0,false⟩).wd:=by{rw[nD,ax hlt,Hg.jS,az]};have HE:=aa e1;obtain⟨x,dL⟩:∃x,(S.getD k ⟨0,0,false⟩).wd=x:=⟨_,rfl⟩;rw[dL]at hx HE;clear hr dL e1;go_wp2;go_ret2;rw[HE.out,decide_eq_true hlt];exact⟨rfl,hB⟩};obtain⟨av,cv,rfl⟩:=bf hr;have HE:=aa (show nD S q=0 by rw[nD,ak hlt]);clear hr;go_wp2;go_ret2;rw[HE.out,decide_eq_false (by omega)];exact⟨rfl,hB⟩
theorem sj (s t:Int)(hs:-1<=s/\s<=100)(ht:0<=t/\t<=1)(W:World):Calls Tryz.prog 167 #[.agg #[.int .i64 s, .int .i64 t]] W fun e w'=>e= .returned (.int .i64 (if 0<=s then s+t else -1))/\Below W.heap.size W w':=by have hB1:=aC W (.cells #[.int .i64 s, .int .i64 t] 218);by_cases h:0<=s;{rw[ax h];have h1:(s==-1)=false:=by{simp;omega};go_enter Tryz.func167,Tryz.ntmps167;go_wp2;go_ret;exact⟨rfl,hB1⟩};have e:s=-1:=by{omega};subst e;rw[ak h];clear h hs;go_enter Tryz.func167,Tryz.ntmps167;go_wp2;go_ret;exact⟨rfl,hB1⟩
theorem r9 (fs:List Fn)(hfs:FL c.w c.a c.len fs)(p q:Int)(hp:1<=p/\p<=20)(hq:p=16->0<=q/\q<c.len)(hs:IS c h H S W):Calls Tryz.prog 164 #[.pointer (some ⟨c.N,0,none⟩), .agg #[.int .i64 p, .int .i64 q]] W fun e w'=>e= .returned (.tuple #[.int .i64 (Hg.tk fs p q), .int .i64 (Hg.pt fs p q)])/\Below W.heap.size W w':=by have hB1:=aC W (.cells #[.int .i64 p, .int .i64 q] 78);obtain⟨av,cv,hr,hb⟩:=hs.cells;have c0:=(hb.2 0 _ rfl).1;have hN:=hs.yV;by_cases h16:p=16;{subst h16;obtain⟨hq0,hq1⟩:=hq rfl;obtain⟨j,rfl⟩:∃j:Nat,q=j:=⟨q.toNat,by omega⟩;have hfk:=hfs.kept hs.dZ;obtain⟨-,hm,hrow⟩:=hfk;unfold maxLen at hm;have hj:j<c.len:=by{omega};rcases hrow with h0|⟨b,off,ha,hbl,hx⟩;{omega};rw[ha]at c0;obtain⟨y0,-,y2,-⟩:=hx j hj;have e1:Hg.tk fs 16 j=(fs.getD j .z).a:=by{unfold Hg.tk;simp};have e2:Hg.pt fs 16 j=(fs.getD j .z).g:=by{unfold Hg.pt;simp};rw[e1,e2];obtain⟨⟨fa,fl,fg,fb⟩,hf⟩:∃x,fs.getD j .z=x:=⟨_,rfl⟩;rw[hf]at y0 y2 ⊢;simp only at y0 y2 ⊢;clear hx hf e1 e2 ha hr hb hs hfs hq;go_enter Tryz.func164,Tryz.ntmps164;go_wp2;go_quiet (fail);go_wp2;go_ret2;exact⟨rfl,hB1.trans ((eY _ _).mono hB1.size)⟩};have hp':p=1\/p=2\/p=3\/p=4\/p=5\/p=6\/p=7\/p=8\/p=9\/p=10\/p=11\/p=12\/p=13\/p=14\/p=15\/p=17\/p=18\/p=19\/p=20:=by{omega};clear hq hp h16 hr hb hs hfs c0 hN;rcases hp' with rfl|rfl|rfl|rfl|rfl|rfl|rfl|rfl|rfl|rfl|rfl|rfl|rfl|rfl|rfl|rfl|rfl|rfl|rfl;all_goals go_enter Tryz.func164,Tryz.ntmps164;go_wp2;go_ret2;exact⟨rfl,hB1⟩
def qG (f:Fn)(S:List dh)(p q:Int):Int:=if p=13\/p=14 then nD S q else if p=15 then f.g else 0
theorem ER (p q:Int)(hp:1<=p/\p<=20)(hq:p=13\/p=14->0<=q)(hS:S.length<=81)(hs:IS c h H S W):Calls Tryz.prog 165 #[.pointer (some ⟨c.N,0,none⟩), .agg #[.int .i64 p, .int .i64 q]] W fun e w'=>e= .returned (.int .i64 (qG c.f S p q))/\Below W.heap.size W w':=by have hB1:=aC W (.cells #[.int .i64 p, .int .i64 q] 78);obtain⟨av,cv,hr,hb⟩:=hs.cells;have c3:=(hb.2 3 _ rfl).1;have hN:=hs.yV;by_cases h1:p=13\/p=14;{have hcon:=mP q (hq h1) hS (hs.kept hB1);have e:qG c.f S p q=nD S q:=ax h1;rw[e];clear e hq hp hr hb hs;rcases h1 with rfl|rfl;all_goals go_enter Tryz.func165,Tryz.ntmps165;go_wp2_with fail;refine hcon.mono ?_;rintro e w1 ⟨rfl,hB2⟩;clear hcon;have hB3:=hB1.trans (hB2.mono hB1.size);clear hB2;go_wp2;go_ret;exact⟨rfl,hB3⟩};by_cases h2:p=15;{subst h2;have e:qG c.f S 15 q=c.f.g:=by{rw[qG,ak h1,ax rfl]};rw[e];clear e hq hp hr hb hs h1;go_enter Tryz.func165,Tryz.ntmps165;go_wp2;go_ret;exact⟨rfl,hB1⟩};have e:qG c.f S p q=0:=by{rw[qG,ak h1,ak h2]};rw[e];have l13:(p==13)=false:=by{simp;omega};have l14:(p==14)=false:=by{simp;omega};have l15:(p==15)=false:=by{simp;omega};clear e hq hp hr hb hs h1 h2 c3 hN;go_enter Tryz.func165,Tryz.ntmps165;go_wp2;go_ret;exact⟨rfl,hB1⟩
end
def oP (p q h:Int)(x:dh)(S:List dh):Int×List dh:=
 if p=8\/p=9\/p=10 then(h,⟨h,q,decide (0<=h)⟩::x::S)
 else if p=11 then(x.st,x::S)
 else if p=12 then(if 0<=x.st then x.st+x.wd else -1,S)
 else if p=13\/p=15\/p=19 then(-1,x::S)
 else(h,x::S)
namespace Hg
theorem I8 {fs:List Fn}{f:Fn}{o p q h:Int}{x:dh}{S:List dh}(hb:bad fs f o (S.length+1) p q=false)(h0:h<0)(hh:-1<=h)(hx:-1<=x.st)(hcm:x.cm=decide (0<=x.st)):(one fs f o p q h 0 (x::S)).map (fun r=>(r.1,r.2.2))=some (oP p q h x S):=by rw[qy hb h0];have e:h=-1:=by{omega};subst e;have hc:(if x.cm=true then x.st else -1)=x.st:=by{rw[hcm];by_cases h:0<=x.st;{simp[h]};simp[h];omega};have hc2:(if x.cm=true then x.st+x.wd else -1)=if 0<=x.st then x.st+x.wd else -1:=by{rw[hcm];by_cases h:0<=x.st<;>simp[h]};unfold fD oP;rw[hc,hc2];by_cases uE:p=13;{subst uE;rfl};by_cases JS:p=14;{subst JS;rfl};by_cases vk:p=15;{subst vk;rfl};by_cases h19:p=19;{subst h19;rfl};by_cases h11:p=11;{subst h11;rfl};by_cases h12:p=12;{subst h12;rfl};by_cases h8:p=8\/p=9\/p=10;{simp only[ax h8];rfl};have hj:¬(p=13\/p=14):=by{omega};have hk:¬(p=13\/p=15\/p=19):=by{omega};simp only[ak h8,ak hj,ak vk,ak h19,ak h11,ak h12,ak hk];rfl
theorem qR {fs:List Fn}{f:Fn}{o p q h:Int}{x:dh}{S:List dh}(hb:bad fs f o (S.length+1) p q=false)(h0:0<=h)(hx:0<=x.st)(hcm:x.cm=decide (0<=x.st))(hlb:0<=nD (x::S) q)(hq:p=13\/p=14->q<=S.length)(hg:0<=f.g)(htk:0<=tk fs p q):(one fs f o p q h 0 (x::S)).map (fun r=>(r.1,r.2.2))=if h-x.st<tk fs p q+qG f (x::S) p q then none else if(p=11\/p=12)/\h-x.st≠x.wd then none else some (oP p q (h-tk fs p q+pt fs p q) x S):=by have hcr:0<=qG f (x::S) p q:=by{unfold qG;split;{exact hlb};split<;>omega};have hcT:x.cm=true:=by{rw[hcm];exact decide_eq_true hx};by_cases QC:h-x.st<tk fs p q;{rw[eU hb h0 QC,ax (by omega)];rfl};rw[jd hb h0 QC];have c13:∀(hh mm:Int),fD f 13 q hh mm x S=if 0<=hh/\hh-x.st<jS (x::S) q then none else some (-1,mm,x::S):=fun _ _=>rfl;have c14:∀(hh mm:Int),fD f 14 q hh mm x S=if 0<=hh/\hh-x.st<jS (x::S) q then none else some (hh,mm,x::S):=fun _ _=>rfl;have c15:∀(hh mm:Int),fD f 15 q hh mm x S=if 0<=hh/\hh-x.st<f.g then none else some (-1,mm,x::S):=fun _ _=>rfl;have c11:∀(hh mm:Int),fD f 11 q hh mm x S=if 0<=hh/\hh-x.st≠x.wd then none else some (if x.cm=true then x.st else -1,mx mm (if x.cm=true then x.st else -1),x::S):=fun _ _=>rfl;have c12:∀(hh mm:Int),fD f 12 q hh mm x S=if 0<=hh/\hh-x.st≠x.wd then none else some (if x.cm=true then x.st+x.wd else -1,mx mm (if x.cm=true then x.st+x.wd else -1),S):=fun _ _=>rfl;have t13:∀hh:Int,oP 13 q hh x S=(-1,x::S):=fun _=>rfl;have t14:∀hh:Int,oP 14 q hh x S=(hh,x::S):=fun _=>rfl;have t15:∀hh:Int,oP 15 q hh x S=(-1,x::S):=fun _=>rfl;have t11:∀hh:Int,oP 11 q hh x S=(x.st,x::S):=fun _=>rfl;have t12:∀hh:Int,oP 12 q hh x S=(if 0<=x.st then x.st+x.wd else -1,S):=fun _=>rfl;by_cases uE:p=13\/p=14;{have JX:=hq uE;have e:qG f (x::S) p q=jS (x::S) q:=by{rw[qG,ax uE,nD,ax (by simp;omega)]};have el:nD (x::S) q=jS (x::S) q:=by{rw[nD,ax (by simp;omega)]};rw[e];rw[el]at hlb;rw[e]at hcr;rcases uE with rfl|rfl;{obtain⟨t1,t2⟩:=mD (fs:=fs) (p:=13) (a:=q) (.inl rfl);rw[t1,t2,c13,t13,ak (show¬(((13:Int)=11\/(13:Int)=12)/\h-x.st≠x.wd)by omega)];by_cases hl:h-x.st<0+jS (x::S) q;{rw[ax hl,ax (by omega)];rfl};rw[ak hl,ak (by omega)];rfl};have t1:tk fs 14 q=1:=by{simp[tk]};have t2:pt fs 14 q=0:=by{simp[pt]};rw[t1]at QC;rw[t1,t2,c14,t14,ak (show¬(((14:Int)=11\/(14:Int)=12)/\h-x.st≠x.wd)by omega)];by_cases hl:h-x.st<1+jS (x::S) q;{rw[ax hl,ax (by omega)];rfl};rw[ak hl,ak (by omega)];rfl};by_cases vk:p=15;{subst vk;have e:qG f (x::S) 15 q=f.g:=rfl;obtain⟨t1,t2⟩:=mD (fs:=fs) (p:=15) (a:=q) (by omega);rw[e,t1,t2,c15,t15,ak (show¬(((15:Int)=11\/(15:Int)=12)/\h-x.st≠x.wd)by omega)];by_cases hl:h-x.st<0+f.g;{rw[ax hl,ax (by omega)];rfl};rw[ak hl,ak (by omega)];rfl};have e:qG f (x::S) p q=0:=by{rw[qG,ak uE,ak vk]};rw[e,ak (show¬h-x.st<tk fs p q+0 by omega)];by_cases h11:p=11;{subst h11;obtain⟨t1,t2⟩:=mD (fs:=fs) (p:=11) (a:=q) (by omega);rw[t1,t2,c11,t11,hcT];by_cases hu:h-x.st=x.wd;{rw[ak (show¬(((11:Int)=11\/(11:Int)=12)/\h-x.st≠x.wd)by omega),ak (by omega)];rfl};rw[ax (show(((11:Int)=11\/(11:Int)=12)/\h-x.st≠x.wd)by omega),ax (by omega)];rfl};by_cases h12:p=12;{subst h12;obtain⟨t1,t2⟩:=mD (fs:=fs) (p:=12) (a:=q) (by omega);rw[t1,t2,c12,t12,hcT,ax hx];by_cases hu:h-x.st=x.wd;{rw[ak (show¬(((12:Int)=11\/(12:Int)=12)/\h-x.st≠x.wd)by omega),ak (by omega)];rfl};rw[ax (show(((12:Int)=11\/(12:Int)=12)/\h-x.st≠x.wd)by omega),ax (by omega)];rfl};rw[ak (show¬((p=11\/p=12)/\h-x.st≠x.wd)by omega)];by_cases h19:p=19;{subst h19;rfl};by_cases h8:p=8\/p=9\/p=10;{unfold fD oP;simp only[ax h8];rfl};have hk:¬(p=13\/p=15\/p=19):=by{omega};unfold fD oP;simp only[ak h8,ak uE,ak vk,ak h19,ak h11,ak h12,ak hk];rfl
def tO:Option (Int×List dh)->Option (Int×List dh)
 |some (h',S')=>if h'<=20 then some (h',S')else none
 |none=>none
theorem sN (fs:List Fn)(f:Fn)(o p q h:Int)(S:List dh):pQ fs f o p q h S=tO ((one fs f o p q h 0 S).map (fun r=>(r.1,r.2.2))):=by unfold pQ;rcases one fs f o p q h 0 S with _|⟨a,b,d⟩;{rfl};rfl
end Hg
structure mE where
 fn:Addr
 md:Addr
 bd:Addr
 hi:Addr
 lo:Addr
 ca:Addr
 la:Addr
 el:Addr
 fe:Addr
 un:Addr
def mE.rest (s:mE):List Addr:=[s.md,s.bd,s.hi,s.lo,s.ca,s.la,s.el,s.fe,s.un]
def gN (a:Addr):Value:= .iface 255 (.pointer (some a))
structure mF (s:mE)(W:World):Prop where
 sz:10<=W.heap.size
 fn:W.cell? ⟨0,0,none⟩=some (gN s.fn)
 md:W.cell? ⟨1,0,none⟩=some (gN s.md)
 bd:W.cell? ⟨2,0,none⟩=some (gN s.bd)
 hi:W.cell? ⟨3,0,none⟩=some (gN s.hi)
 lo:W.cell? ⟨4,0,none⟩=some (gN s.lo)
 ca:W.cell? ⟨5,0,none⟩=some (gN s.ca)
 la:W.cell? ⟨6,0,none⟩=some (gN s.la)
 el:W.cell? ⟨7,0,none⟩=some (gN s.el)
 fe:W.cell? ⟨8,0,none⟩=some (gN s.fe)
 un:W.cell? ⟨9,0,none⟩=some (gN s.un)
theorem mF.kept {s:mE}{W W':World}{n:Nat}(h:mF s W)(hB:Below n W W')(hn:10<=n):mF s W':=by have k:∀{b:Nat}{v:Value},b<10->W.cell? ⟨b,0,none⟩=some v->W'.cell? ⟨b,0,none⟩=some v:=fun{b v} hb hv=>(hB.cell (p:=⟨b,0,none⟩) (by simp only;omega)).trans hv;exact⟨Nat.le_trans h.sz hB.size,k (by omega) h.fn,k (by omega) h.md,k (by omega) h.bd,k (by omega) h.hi,k (by omega) h.lo,k (by omega) h.ca,k (by omega) h.la,k (by omega) h.el,k (by omega) h.fe,k (by omega) h.un⟩
section
variable {c : IC} {h : Int} {H : List Int} {S : List dh} {W : World}
def Ref (s:mE)(e:Ending):Prop:=∃ad,ad∈s.rest/\e= .returned (gN ad)
theorem KS (s:mE)(dD:mF s c.w)(fs:List Fn)(hfs:FL c.w c.a c.len fs)(hsl:SL c.w c.ba c.bl c.f.b)(dM:c.bl<=80)(i:Nat)(hi:i<c.bl)(p q o:Int)(hpq:c.f.b.getD i (0,0)=(p,q))(ho:c.O.getD i (-1)=o)(hol:-1<=o)(hok:St.ok p q=true)(hfa:0<=c.f.a/\c.f.a<=3)(hfl:0<=c.f.l/\c.f.l<=3)(hS:S.length<=81)(hs:IS c h H S W):Calls Tryz.prog 147 #[.pointer (some ⟨c.N,0,none⟩), .int .i64 i] W fun e w'=>(if Hg.bad fs c.f o S.length p q=true then Ref s e else e= .returned .nilIface)/\Below W.heap.size W w':=by have kF:=St.j6 hok;have Jy:Wd.iK q (St.least p) (St.bg p)=true:=by{rw[St.ok,aj]at hok;exact hok.2};have Jy:=Wd.aX.1 Jy;obtain⟨av,cv,hr,hb⟩:=hs.cells;have c0:=(hb.2 0 _ rfl).1;have c4:=(hb.2 4 _ rfl).1;have c5:=(hb.2 5 _ rfl).1;have c6:=(hb.2 6 _ rfl).1;have hN:=hs.yV;have hgO:c.gO<W.heap.size:=by{have:=hs.iO;have:=hs.hm;omega};have e0:=fq hs.rO hi (-1);rw[ho]at e0;have hsk:=hsl.kept hs.dZ;obtain⟨hsl1,-,ik⟩:=hsk;rcases ik with h0|⟨bb,bo,QD,hbb,dL⟩;{omega};rw[QD]at c4;obtain⟨z0,z1⟩:=dL i hi;rw[hpq]at z0 z1;simp only at z0 z1;have Es:=hfs.1;have hfm:=hfs.2.1;unfold maxLen at hfm;have hsw:=dD.kept hs.dZ dD.sz;have g1:=hsw.lo;have g2:=hsw.ca;have g3:=hsw.la;have g4:=hsw.el;have hsz:=hsw.sz;have y1:4<W.heap.size:=by{omega};have y2:5<W.heap.size:=by{omega};have y3:6<W.heap.size:=by{omega};have y4:7<W.heap.size:=by{omega};have hB1:=aC W (.cells #[.int .i64 p, .int .i64 q] 78);have HS:=aa (hs.kept hB1);have HL:=aa Es;unfold gN at g1 g2 g3 g4;clear dL QD hr hb hs hsl hfs hpq ho hsw dD hok hsl1 Es;by_cases hoth:p≠2/\p≠3/\p≠4/\p≠10/\p≠13/\p≠14/\p≠16;{obtain⟨k2,k3,k4,k10,k13,k14,k16⟩:=hoth;have l2:(p==2)=false:=by{simpa using k2};have l3:(p==3)=false:=by{simpa using k3};have l4:(p==4)=false:=by{simpa using k4};have l10:(p==10)=false:=by{simpa using k10};have l13:(p==13)=false:=by{simpa using k13};have l14:(p==14)=false:=by{simpa using k14};have l16:(p==16)=false:=by{simpa using k16};have hbad:Hg.bad fs c.f o S.length p q=false:=by{unfold Hg.bad;simp[k2,k3,k4,k16,k13,k14,k10]};rw[hbad];clear hbad k2 k3 k4 k10 k13 k14 k16;go_enter Tryz.func147,Tryz.ntmps147;go_wp2;go_ret;exact⟨rfl,hB1⟩};have hk:(p=2\/p=3\/p=4)\/p=10\/(p=13\/p=14)\/p=16:=by{omega};clear hoth;rcases hk with hk|rfl|hk|rfl;{by_cases hloc:c.f.a+c.f.l<=q;{have hbad:Hg.bad fs c.f o S.length p q=true:=by{unfold Hg.bad;simp[hk,hloc]};rw[hbad];clear hbad;rcases hk with rfl|rfl|rfl;all_goals clear Jy;go_enter Tryz.func147,Tryz.ntmps147;go_wp2;go_quiet (fail);go_wp2;go_ret;exact⟨⟨s.lo,by simp[mE.rest],rfl⟩,hB1.trans ((eY _ _).mono hB1.size)⟩};have hbad:Hg.bad fs c.f o S.length p q=false:=by{unfold Hg.bad;simp;omega};rw[hbad];clear hbad;have aiq:¬(c.f.a+c.f.l<=q):=hloc;rcases hk with rfl|rfl|rfl;all_goals clear Jy;go_enter Tryz.func147,Tryz.ntmps147;go_wp2;go_quiet (fail);go_wp2;go_ret;exact⟨rfl,hB1.trans ((eY _ _).mono hB1.size)⟩};{simp only[St.least,St.bg]at Jy;have hq1:0<=q/\q<=1:=by{simpa using Jy};clear Jy;by_cases hq:q=1;{subst hq;by_cases ho0:o=-1;{subst ho0;have hbad:Hg.bad fs c.f (-1) S.length 10 1=true:=by{simp[Hg.bad]};rw[hbad];clear hbad hol;go_enter Tryz.func147,Tryz.ntmps147;go_wp2;go_ret;exact⟨⟨s.el,by simp[mE.rest],rfl⟩,hB1⟩};have hbad:Hg.bad fs c.f o S.length 10 1=false:=by{simp[Hg.bad];omega};rw[hbad];have ho1:(o==-1)=false:=by{simpa using ho0};clear hbad ho0;go_enter Tryz.func147,Tryz.ntmps147;go_wp2;go_ret;exact⟨rfl,hB1⟩};have hq0:q=0:=by{omega};subst hq0;have hbad:Hg.bad fs c.f o S.length 10 0=false:=by{simp[Hg.bad]};rw[hbad];clear hbad hq hq1;go_enter Tryz.func147,Tryz.ntmps147;go_wp2;go_ret;exact⟨rfl,hB1⟩};{have hq1:0<=q:=by{have h1:St.least p=0:=by{unfold St.least;rw[ak (by omega)]};omega};clear Jy;have hcon:=mP q hq1 hS HS.out;by_cases hlb:q<S.length;{have hbad:Hg.bad fs c.f o S.length p q=false:=by{unfold Hg.bad;simp;omega};rw[hbad];rw[decide_eq_true hlb]at hcon;clear hbad hlb;rcases hk with rfl|rfl;all_goals go_enter Tryz.func147,Tryz.ntmps147;go_wp2_with fail;refine hcon.mono ?_;rintro e w1 ⟨rfl,hB2⟩;clear hcon;have hB3:=hB1.trans (hB2.mono hB1.size);clear hB2;go_wp2;go_ret;exact⟨rfl,hB3⟩};have hbad:Hg.bad fs c.f o S.length p q=true:=by{unfold Hg.bad;simp;omega};rw[hbad];rw[decide_eq_false hlb]at hcon;clear hbad hlb;rcases hk with rfl|rfl;all_goals go_enter Tryz.func147,Tryz.ntmps147;go_wp2_with fail;refine hcon.mono ?_;rintro e w1 ⟨rfl,hB2⟩;clear hcon;have hB3:=hB1.trans (hB2.mono hB1.size);have g3':=(hB3.cell (p:=⟨6,0,none⟩) (by simp only;omega)).trans g3;clear hB2;go_wp2;go_ret;exact⟨⟨s.la,by simp[mE.rest],rfl⟩,hB3⟩};simp only[St.least,St.bg]at Jy;have hq1:0<=q/\q<=3:=by{simpa using Jy};clear Jy;by_cases hcl:(c.len:Int)<=q;{have hbad:Hg.bad fs c.f o S.length 16 q=true:=by{have:=HL.out;simp[Hg.bad];omega};rw[hbad];clear hbad;go_enter Tryz.func147,Tryz.ntmps147;go_wp2;go_quiet (fail);go_wp2;go_ret;exact⟨⟨s.ca,by simp[mE.rest],rfl⟩,hB1.trans ((eY _ _).mono hB1.size)⟩};have hbad:Hg.bad fs c.f o S.length 16 q=false:=by{have:=HL.out;simp[Hg.bad];omega};rw[hbad];clear hbad;go_enter Tryz.func147,Tryz.ntmps147;go_wp2;go_quiet (fail);go_wp2;go_ret;exact⟨rfl,hB1.trans ((eY _ _).mono hB1.size)⟩
theorem IV {W w3:World}(hB:Below W.heap.size W w3)(N i:Nat)(v:Value):W.grownBy (w3.setCell ⟨N,i,none⟩ v) (some N):=by have hg:w3.grownBy (w3.setCell ⟨N,i,none⟩ v) (some N):=aF w3 ⟨N,i,none⟩ v;exact⟨hg.os.trans hB.os,hg.tape.trans hB.tape,hg.output.trans hB.output,Nat.le_trans hB.size hg.size,fun k hk hne=>(hg.block k (ah hk hB.size) hne).trans (hB.block k hk)⟩
theorem Vd (s:mE)(dD:mF s c.w)(fs:List Fn)(hfs:FL c.w c.a c.len fs)(p q:Int)(hp:1<=p/\p<=20)(adw:p=16->0<=q/\q<c.len)(adx:p=13\/p=14->0<=q)(x:dh)(hS:S.length<=80)(hx:0<=x.st/\x.st<=100)(hw:0<=x.wd/\x.wd<=1)(hh:0<=h/\h<=100)
   (htk:0<=Hg.tk fs p q/\Hg.tk fs p q<=3) (hpt:0<=Hg.pt fs p q/\Hg.pt fs p q<=1) (hcr:0<=qG c.f (x::S) p q/\qG c.f (x::S) p q<=1) (hs:IS c h H (x::S) W):
   Calls Tryz.prog 148 #[.pointer (some ⟨c.N,0,none⟩), .agg #[.int .i64 p, .int .i64 q]] W fun e w'=>
     if h-x.st<Hg.tk fs p q+qG c.f (x::S) p q\/(p=11\/p=12)/\h-x.st≠x.wd then Ref s e/\Below c.w.heap.size c.w w' else e= .returned .nilIface/\IS c (h-Hg.tk fs p q+Hg.pt fs p q) H (x::S) w'/\W.grownBy w' (some c.N):=by
 have hB1:=aC W (.cells #[.int .i64 p, .int .i64 q] 78)
 have hcon:=qN x hS (hs.kept hB1)
 have hN:=hs.yV
 have hT:∀W',IS c h H (x::S) W'->Calls Tryz.prog 164 #[.pointer (some ⟨c.N,0,none⟩), .agg #[.int .i64 p, .int .i64 q]] W' fun e w'=>e= .returned (.tuple #[.int .i64 (Hg.tk fs p q), .int .i64 (Hg.pt fs p q)])/\Below W'.heap.size W' w':=fun W' hs'=>r9 fs hfs p q hp adw hs'
 have hC:∀W',IS c h H (x::S) W'->Calls Tryz.prog 165 #[.pointer (some ⟨c.N,0,none⟩), .agg #[.int .i64 p, .int .i64 q]] W' fun e w'=>e= .returned (.int .i64 (qG c.f (x::S) p q))/\Below W'.heap.size W' w':=fun W' hs'=>ER p q hp adx (by simp;omega) hs'
 obtain⟨tk,Vr⟩:∃tk,Hg.tk fs p q=tk:=⟨_,rfl⟩
 obtain⟨pt,Vs⟩:∃pt,Hg.pt fs p q=pt:=⟨_,rfl⟩
 obtain⟨cr,Vt⟩:∃cr,qG c.f (x::S) p q=cr:=⟨_,rfl⟩
 rw[Vr,Vs]at hT
 rw[Vt]at hC
 rw[Vr]at htk
 rw[Vs]at hpt
 rw[Vt]at hcr
 rw[Vr,Vs,Vt]
 clear Vr Vs Vt
 have HT:=aa hT
 have HC:=aa hC
 clear hT hC
 have hsw:=dD.kept hs.dZ dD.sz
 have g1:=hsw.fe
 have g2:=hsw.un
 have hsz:=hsw.sz
 unfold gN at g1 g2
 have E1:Hid (h-tk+pt=h+(pt-tk)):=aa (by omega)
 clear hsw dD hfs adw adx
 go_enter Tryz.func148,Tryz.ntmps148
 go_wp2_with fail
 refine hcon.mono ?_
 rintro e w1 ⟨rfl,hB2⟩
 clear hcon
 dsimp only
 have hB3:=hB1.trans (hB2.mono hB1.size)
 obtain⟨s0,s1,hl1⟩:=qi hB2
 obtain⟨av,cv,hr,hb⟩:=hs.cells
 have c8:=(hB3.cell (p:=⟨c.N,8,none⟩) hN).trans (hb.2 8 _ rfl).1
 have hN1:c.N<w1.heap.size:=ah hN hB3.size
 have hNW:c.N≠W.heap.size:=by omega
 have HS:=aa hs
 have HB3:=aa hB3
 clear hr hb hB1 hB2 hB3 hs
 go_wp2
 go_region
 all_goals
   have hB4:=(HB3.out.alloc HB3.out.size (.cells #[.int .i64 x.st, .int .i64 x.wd] 218)).drew
   have cZ:=HT.out _ (HS.out.kept hB4)
   go_wp2_with fail
   refine cZ.mono ?_
   rintro e w2 ⟨rfl,dH⟩
   clear cZ
   dsimp only
   have bV:=hB4.trans (dH.mono hB4.size)
   have j3:=HC.out _ (HS.out.kept bV)
   have hl2:w1.heap.size<w2.heap.size:=by have:=dH.size;simp at this;omega
   have Et:=(dH.cell (p:=⟨W.heap.size,0,none⟩) (by simp;omega)).trans (show(w1.alloc (.cells #[.int .i64 x.st, .int .i64 x.wd] 218)).cell? ⟨W.heap.size,0,none⟩=_ from(World.cell?_alloc_lt _ _ ⟨W.heap.size,0,none⟩ hl1).trans s0)
   have s1':=(dH.cell (p:=⟨W.heap.size,1,none⟩) (by simp;omega)).trans (show(w1.alloc (.cells #[.int .i64 x.st, .int .i64 x.wd] 218)).cell? ⟨W.heap.size,1,none⟩=_ from(World.cell?_alloc_lt _ _ ⟨W.heap.size,1,none⟩ hl1).trans s1)
   have x0':w2.cell? ⟨w1.heap.size,0,none⟩=some (.int .i64 x.st):=(dH.cell (p:=⟨w1.heap.size,0,none⟩) (by simp)).trans (by simp)
   have x1':w2.cell? ⟨w1.heap.size,1,none⟩=some (.int .i64 x.wd):=(dH.cell (p:=⟨w1.heap.size,1,none⟩) (by simp)).trans (by simp)
   clear hB4 dH s0 s1 c8
   have HB6:=aa bV
   clear bV
   go_wp2_with fail
   refine j3.mono ?_
   rintro e w3 ⟨rfl,bF⟩
   clear j3
   dsimp only
   have gz:=HB6.out.trans (bF.mono HB6.out.size)
   have hs8:=HS.out.kept gz
   have s0:=(bF.cell (p:=⟨W.heap.size,0,none⟩) (by simp only;omega)).trans Et
   have x1:=(bF.cell (p:=⟨w1.heap.size,1,none⟩) hl2).trans x1'
   have afT:=gz.size
   obtain⟨av,cv,hr,hb⟩:=hs8.cells
   have c8:=(hb.2 8 _ rfl).1
   have f8:=(hb.2 8 _ rfl).2
   have HW:=aa (ai (hs8.Ji (h+(pt-tk))) (IV gz c.N 8 (.int .i64 (h+(pt-tk)))))
   have HB:=aa hs8.dZ
   have g1':=(gz.cell (p:=⟨8,0,none⟩) (by simp only;omega)).trans g1
   have g2':=(gz.cell (p:=⟨9,0,none⟩) (by simp only;omega)).trans g2
   clear bF gz hs8 hr hb Et s1' x0' x1' g1 g2
   by_cases QC:h-x.st<tk+cr
   · go_wp2
     go_ret
     first|exact⟨⟨s.fe,by simp[mE.rest],rfl⟩,HB.out⟩|(rw[ax (Or.inl QC)];exact⟨⟨s.fe,by simp[mE.rest],rfl⟩,HB.out⟩)
   · by_cases hpe:p=11\/p=12
     · by_cases hun:h-x.st=x.wd
       · have HU:=aa hun
         rcases hpe with rfl|rfl
         all_goals
           go_wp2
           go_ret
           have hu:=HU.out
           first|(rw[E1.out];exact⟨rfl,HW.out⟩)|(rw[ak (by omega),E1.out];exact⟨rfl,HW.out⟩)
       · have hun':(h-x.st==x.wd)=false:=by simpa using hun
         rcases hpe with rfl|rfl
         all_goals
           go_wp2
           go_ret
           first|exact⟨⟨s.un,by simp[mE.rest],rfl⟩,HB.out⟩|(rw[ax (Or.inr ⟨by omega,hun⟩)];exact⟨⟨s.un,by simp[mE.rest],rfl⟩,HB.out⟩)
     · have l11:(p==11)=false:=by simp;omega
       have l12:(p==12)=false:=by simp;omega
       go_wp2
       go_ret
       first|(rw[E1.out];exact⟨rfl,HW.out⟩)|(rw[ak (by omega),E1.out];exact⟨rfl,HW.out⟩)
end
def iC (c:WC)(W0:World)(q:CC)(aB:Nat)(pile loc mem:List Int)(m gp cp:Nat)(wr:World):Prop:=
 ∀(K K1:Act->World->Prop)(c2 c4 c5 c6 c7 Wo Wp c31 c32 Wq c34 Ws Wu c37 Wv Ww c40 Wx Wy Wz WA WE c46 WG QE QF QG QH QI QJ QK QL QM:Value)(u13 u14 u15 u16 u17 u18 u19 u20 u21 u22 u23 u24 u25 u26 u27 u28 u48 u49 u50 u51 u52 u53 u54 u55 u56 u57 u58 u59 u60 u61 u62 u63 u64 u65 u66 u67 u68 u69 u70 u71 u72 u73 u74 u75 u76 u77 u78 u79 u80 u81 u82 u83 u84 u85 u86 u87 u88 u89 u90 u91 u92 u93 u94 u95 u96 u97 u98 u99 MV MW MX MZ M0 u105 M3 M4 M5 M6 M7 M8 M9 Na Nb Nf Ng Nh Ni u119 Nj Nk Nl Nn u124 Np Nq u127 Nr Ns Nt u131 Nu Nv Nw Ny Nz NA u138 u139 NC ND NE NF NG NH NJ NK NL NM NN NP u152 NQ u154 NR NT NU NV NW NY NZ u162 N7 u164 N8 N9 Oa Ob Od Oe Og Oh Oj Ol Om Oo Oq Ot Ou Ov Ow Ox Oy Oz OA OB OC OD OE OG OH OJ u193 u194 OL u196 OM u198 OO OP u201 OU OV OW OX u206 OY u208 OZ u210 O1 O3 O4 O5 O6 O7 O8 O9 Pb Pd Pe Pf Pg Ph Pj Pk Pm Pn Po Pp Pq Ps Pt u234 Pv u236 Pw Px Py Pz PD PE PG PH PK PL PM PN PO PQ PR PT PU PV PW PX PY PZ P5 P6 P7 P8 P9 Qa Qb Qc Qd Qe Qf Qg Qh Qi Qj Qk Ql Qm Qn Qo Qp Qq Qr Qs Yw Yx Yy Yz YA YB YC YD YE YF YG YH YI YJ YK YL YM YN YO YP YQ YR YS YT YU YV YW YX YY YZ Y0 Y1 Y2 Y3 Y4 Y5 Y6 Y7 Y8 Y9 Za Zb Zc Zd Ze Zf Zg Zh Zi Zj Zk Zl Zm Zn Zo Zp Zq Zr Zt Zu Zv Zw Zx Zy Zz ZA ZB ZC ZE ZF ZG ZH ZI ZJ ZK ZL ZM ZN ZO ZP ZQ ZR ZT ZU ZV ZW ZX ZY ZZ Z0 Z4 Z5 Z6 Z7 Z8 Z9 aaa aab aac aad:Value),Hid (∀m',m'<=m->∀(at2:Nat)(fJ loc' mem':List Int)(Vu cp' n' l':Nat)(x':Int)(v13 v14 v15 v16 v17 v18 v19 v20 v21 v22 v23 v24 v25 v26 v27 v28 v48 v49 v50 v51 v52 v53 v54 v55 v56 v57 v58 v59 v60 v61 v62 v63 v64 v65 v66 v67 v68 v69 v70 v71 v72 v73 v74 v75 v76 v77 v78 v79 v80 v81 v82 v83 v84 v85 v86 v87 WH v89 WI v91 WL v93 WM WN WO WQ WR WS AU AV AX AY AZ v105 A7 v107 A8 v109 A9 Ba Bb Bc Be Bf Bg v117 Bh Bi Bj Bl Bn Bo v124 Bp Bq v127 Br Bu v130 v131 Bv Bz BA BB BC BD v138 v139 BF v141 BG v143 BH v145 v146 BI v148 BJ BK BL v152 BM v154 BN BO v157 BP v159 v160 BQ v162 BR v164 BU BV v167 v168 BX BZ v171 Ca v173 Cb v175 Cc Ce Cf Cg Ch Ci v182 v183 Cj Ck Cm Cn Co Cq Cr Cs Ct v193 v194 Cu v196 Cv v198 Cw Cx v201 Cy v203 Cz CB v206 CE v208 CG v210 CJ v212 CK CL CP CR CU v218 CV CW CX v222 CY CZ C8 v226 v227 v228 v229 C9 Da v232 v233 v234 Db v236 Dc De Df Dg Dh Di Dj Dk Dl Dm Dn Dp Dq Dr Dt Du Dv Dw Dx Dy Dz DC DD DF DI DJ DK DL DN DR DT DU DV DW DX DY DZ D5 D6 D7 D8 D9 Ea Eb Ed Ee QN QO QP QQ QR QT QU QV QW QX QY QZ Q0 Q3 Q4 Q5 Q6 Q7 Q8 Q9 Ra Rb Rc Re Rf Rh Ri Rj Rl Rm Rn Ro Rp Rq Rt Ru Rv Rw Rx Ry Rz RA RB RD RF RG RH RI RJ RL RN RO RP RQ RS RU RV RX RY RZ R3 R4 R5 R6 R7 R8 R9 Sa Sb Sc Sd Sg Si Sj Sk Sl Sm Sn Sq Su Sv Sw Sy Sz SA SB SC SE SF SG SH SI SK SN SQ SS SV SX SY S9:Value)(wF:World),CI c W0 q at2 fJ loc' mem' m' Vu cp' wF->n'=fJ.length->l'=loc'.length->x'=(at2:Int)->K ⟨#[.pointer (some ⟨c.B,0,none⟩), .int .i64 (q.k:Int),c2, .int .i64 (q.d:Int),c4,c5,c6,c7, .int .i64 0, .pointer (some ⟨q.fb,0,none⟩), .slice (some ⟨q.gl,0,none⟩) l' q.cl, .slice (some ⟨Vu,0,none⟩) n' cp', .int .i64 x',v13,v14,v15,v16,v17,v18,v19,v20,v21,v22,v23,v24,v25,v26,v27,v28,Wo,Wp,c31,c32,Wq,c34,Ws,Wu,c37,Wv,Ww,c40,Wx,Wy,Wz,WA,WE,c46,WG,v48,v49,v50,v51,v52,v53,v54,v55,v56,v57,v58,v59,v60,v61,v62,v63,v64,v65,v66,v67,v68,v69,v70,v71,v72,v73,v74,v75,v76,v77,v78,v79,v80,v81,v82,v83,v84,v85,v86,v87,WH,v89,WI,v91,WL,v93,WM,WN,WO,WQ,WR,WS,AU,AV,AX,AY,AZ,v105,A7,v107,A8,v109,A9,Ba,Bb,Bc,Be,Bf,Bg,v117,Bh,Bi,Bj,Bl,Bn,Bo,v124,Bp,Bq,v127,Br,Bu,v130,v131,Bv,Bz,BA,BB,BC,BD,v138,v139,BF,v141,BG,v143,BH,v145,v146,BI,v148,BJ,BK,BL,v152,BM,v154,BN,BO,v157,BP,v159,v160,BQ,v162,BR,v164,BU,BV,v167,v168,BX,BZ,v171,Ca,v173,Cb,v175,Cc,Ce,Cf,Cg,Ch,Ci,v182,v183,Cj,Ck,Cm,Cn,Co,Cq,Cr,Cs,Ct,v193,v194,Cu,v196,Cv,v198,Cw,Cx,v201,Cy,v203,Cz,CB,v206,CE,v208,CG,v210,CJ,v212,CK,CL,CP,CR,CU,v218,CV,CW,CX,v222,CY,CZ,C8,v226,v227,v228,v229,C9,Da,v232,v233,v234,Db,v236,Dc,De,Df,Dg,Dh,Di,Dj,Dk,Dl,Dm,Dn,Dp,Dq,Dr,Dt,Du,Dv,Dw,Dx,Dy,Dz,DC,DD,DF,DI,DJ,DK,DL,DN,DR,DT,DU,DV,DW,DX,DY,DZ,D5,D6,D7,D8,D9,Ea,Eb,Ed,Ee,QN,QO,QP,QQ,QR,QT,QU,QV,QW,QX,QY,QZ,Q0,Q3,Q4,Q5,Q6,Q7,Q8,Q9,Ra,Rb,Rc,Re,Rf,Rh,Ri,Rj,Rl,Rm,Rn,Ro,Rp,Rq,Rt,Ru,Rv,Rw,Rx,Ry,Rz,RA,RB,RD,RF,RG,RH,RI,RJ,RL,RN,RO,RP,RQ,RS,RU,RV,RX,RY,RZ,R3,R4,R5,R6,R7,R8,R9,Sa,Sb,Sc,Sd,Sg,Si,Sj,Sk,Sl,Sm,Sn,Sq,Su,Sv,Sw,Sy,Sz,SA,SB,SC,SE,SF,SG,SH,SI,SK,SN,SQ,SS,SV,SX,SY,S9,QE,QF,QG,QH,QI,QJ,QK,QL,QM],[]⟩ wF)->Hid (∀(fJ mem':List Int)(Vu cp' n' l':Nat)(x':Int)(v13 v14 v15 v16 v17 v18 v19 v20 v21 v22 v23 v24 v25 v26 v27 v28 v48 v49 v50 v51 v52 v53 v54 v55 v56 v57 v58 v59 v60 v61 v62 v63 v64 v65 v66 v67 v68 v69 v70 v71 v72 v73 v74 v75 v76 v77 v78 v79 v80 v81 v82 v83 v84 v85 v86 v87 WH v89 WI v91 WL v93 WM WN WO WQ WR WS AU AV AX AY AZ v105 A7 v107 A8 v109 A9 Ba Bb Bc Be Bf Bg v117 Bh Bi Bj Bl Bn Bo v124 Bp Bq v127 Br Bu v130 v131 Bv Bz BA BB BC BD v138 v139 BF v141 BG v143 BH v145 v146 BI v148 BJ BK BL v152 BM v154 BN BO v157 BP v159 v160 BQ v162 BR v164 BU BV v167 v168 BX BZ v171 Ca v173 Cb v175 Cc Ce Cf Cg Ch Ci v182 v183 Cj Ck Cm Cn Co Cq Cr Cs Ct v193 v194 Cu v196 Cv v198 Cw Cx v201 Cy v203 Cz CB v206 CE v208 CG v210 CJ v212 CK CL CP CR CU v218 CV CW CX v222 CY CZ C8 v226 v227 v228 v229 C9 Da v232 v233 v234 Db v236 Dc De Df Dg Dh Di Dj Dk Dl Dm Dn Dp Dq Dr Dt Du Dv Dw Dx Dy Dz DC DD DF DI DJ DK DL DN DR DT DU DV DW DX DY DZ D5 D6 D7 D8 D9 Ea Eb Ed Ee QN QO QP QQ QR QT QU QV QW QX QY QZ Q0 Q3 Q4 Q5 Q6 Q7 Q8 Q9 Ra Rb Rc Re Rf Rh Ri Rj Rl Rm Rn Ro Rp Rq Rt Ru Rv Rw Rx Ry Rz RA RB RD RF RG RH RI RJ RL RN RO RP RQ RS RU RV RX RY RZ R3 R4 R5 R6 R7 R8 R9 Sa Sb Sc Sd Sg Si Sj Sk Sl Sm Sn Sq Su Sv Sw Sy Sz SA SB SC SE SF SG SH SI SK SN SQ SS SV SX SY S9:Value)(wF:World),CF c W0 q fJ mem' m Vu cp' wF->n'=fJ.length->l'=loc.length->x'=-1->K ⟨#[.pointer (some ⟨c.B,0,none⟩), .int .i64 (q.k:Int),c2, .int .i64 (q.d:Int),c4,c5,c6,c7, .int .i64 0, .pointer (some ⟨q.fb,0,none⟩), .slice (some ⟨q.gl,0,none⟩) l' q.cl, .slice (some ⟨Vu,0,none⟩) n' cp', .int .i64 x',v13,v14,v15,v16,v17,v18,v19,v20,v21,v22,v23,v24,v25,v26,v27,v28,Wo,Wp,c31,c32,Wq,c34,Ws,Wu,c37,Wv,Ww,c40,Wx,Wy,Wz,WA,WE,c46,WG,v48,v49,v50,v51,v52,v53,v54,v55,v56,v57,v58,v59,v60,v61,v62,v63,v64,v65,v66,v67,v68,v69,v70,v71,v72,v73,v74,v75,v76,v77,v78,v79,v80,v81,v82,v83,v84,v85,v86,v87,WH,v89,WI,v91,WL,v93,WM,WN,WO,WQ,WR,WS,AU,AV,AX,AY,AZ,v105,A7,v107,A8,v109,A9,Ba,Bb,Bc,Be,Bf,Bg,v117,Bh,Bi,Bj,Bl,Bn,Bo,v124,Bp,Bq,v127,Br,Bu,v130,v131,Bv,Bz,BA,BB,BC,BD,v138,v139,BF,v141,BG,v143,BH,v145,v146,BI,v148,BJ,BK,BL,v152,BM,v154,BN,BO,v157,BP,v159,v160,BQ,v162,BR,v164,BU,BV,v167,v168,BX,BZ,v171,Ca,v173,Cb,v175,Cc,Ce,Cf,Cg,Ch,Ci,v182,v183,Cj,Ck,Cm,Cn,Co,Cq,Cr,Cs,Ct,v193,v194,Cu,v196,Cv,v198,Cw,Cx,v201,Cy,v203,Cz,CB,v206,CE,v208,CG,v210,CJ,v212,CK,CL,CP,CR,CU,v218,CV,CW,CX,v222,CY,CZ,C8,v226,v227,v228,v229,C9,Da,v232,v233,v234,Db,v236,Dc,De,Df,Dg,Dh,Di,Dj,Dk,Dl,Dm,Dn,Dp,Dq,Dr,Dt,Du,Dv,Dw,Dx,Dy,Dz,DC,DD,DF,DI,DJ,DK,DL,DN,DR,DT,DU,DV,DW,DX,DY,DZ,D5,D6,D7,D8,D9,Ea,Eb,Ed,Ee,QN,QO,QP,QQ,QR,QT,QU,QV,QW,QX,QY,QZ,Q0,Q3,Q4,Q5,Q6,Q7,Q8,Q9,Ra,Rb,Rc,Re,Rf,Rh,Ri,Rj,Rl,Rm,Rn,Ro,Rp,Rq,Rt,Ru,Rv,Rw,Rx,Ry,Rz,RA,RB,RD,RF,RG,RH,RI,RJ,RL,RN,RO,RP,RQ,RS,RU,RV,RX,RY,RZ,R3,R4,R5,R6,R7,R8,R9,Sa,Sb,Sc,Sd,Sg,Si,Sj,Sk,Sl,Sm,Sn,Sq,Su,Sv,Sw,Sy,Sz,SA,SB,SC,SE,SF,SG,SH,SI,SK,SN,SQ,SS,SV,SX,SY,S9,QE,QF,QG,QH,QI,QJ,QK,QL,QM],[]⟩ wF)->Code.wp Tryz.prog ((Tryz.f62.body.bind gL).getD .skip) (Exit.then K (Exit.inBlock 0 (Exit.then K1 (bodyPost Tryz.prog Tryz.f62 (fun e w'=>e= .returned (.int .i64 q.R.value)/\WK c W0 w' q.R.mem q.R.left q.R.code/\mW c q.w w'))))) ⟨#[.pointer (some ⟨c.B,0,none⟩), .int .i64 (q.k:Int),c2, .int .i64 (q.d:Int),c4,c5,c6,c7, .int .i64 0, .pointer (some ⟨q.fb,0,none⟩), .slice (some ⟨q.gl,0,none⟩) loc.length q.cl, .slice (some ⟨gp,0,none⟩) pile.length cp, .int .i64 (aB:Int),u13,u14,u15,u16,u17,u18,u19,u20,u21,u22,u23,u24,u25,u26,u27,u28,Wo,Wp,c31,c32,Wq,c34,Ws,Wu,c37,Wv,Ww,c40,Wx,Wy,Wz,WA,WE,c46,WG,u48,u49,u50,u51,u52,u53,u54,u55,u56,u57,u58,u59,u60,u61,u62,u63,u64,u65,u66,u67,u68,u69,u70,u71,u72,u73,u74,u75,u76,u77,u78,u79,u80,u81,u82,u83,u84,u85,u86,u87,u88,u89,u90,u91,u92,u93,u94,u95,u96,u97,u98,u99,MV,MW,MX,MZ,M0,u105,M3,M4,M5,M6,M7,M8,M9,Na,Nb,Nf,Ng,Nh,Ni,u119,Nj,Nk,Nl,Nn,u124,Np,Nq,u127,Nr,Ns,Nt,u131,Nu,Nv,Nw,Ny,Nz,NA,u138,u139,NC,ND,NE,NF,NG,NH,NJ,NK,NL,NM,NN,NP,u152,NQ,u154,NR,NT,NU,NV,NW,NY,NZ,u162,N7,u164,N8,N9,Oa,Ob,Od,Oe,Og,Oh,Oj,Ol,Om,Oo,Oq,Ot,Ou,Ov,Ow,Ox,Oy,Oz,OA,OB,OC,OD,OE,OG,OH,OJ,u193,u194,OL,u196,OM,u198,OO,OP,u201,OU,OV,OW,OX,u206,OY,u208,OZ,u210,O1,O3,O4,O5,O6,O7,O8,O9,Pb,Pd,Pe,Pf,Pg,Ph,Pj,Pk,Pm,Pn,Po,Pp,Pq,Ps,Pt,u234,Pv,u236,Pw,Px,Py,Pz,PD,PE,PG,PH,PK,PL,PM,PN,PO,PQ,PR,PT,PU,PV,PW,PX,PY,PZ,P5,P6,P7,P8,P9,Qa,Qb,Qc,Qd,Qe,Qf,Qg,Qh,Qi,Qj,Qk,Ql,Qm,Qn,Qo,Qp,Qq,Qr,Qs,Yw,Yx,Yy,Yz,YA,YB,YC,YD,YE,YF,YG,YH,YI,YJ,YK,YL,YM,YN,YO,YP,YQ,YR,YS,YT,YU,YV,YW,YX,YY,YZ,Y0,Y1,Y2,Y3,Y4,Y5,Y6,Y7,Y8,Y9,Za,Zb,Zc,Zd,Ze,Zf,Zg,Zh,Zi,Zj,Zk,Zl,Zm,Zn,Zo,Zp,Zq,Zr,Zt,Zu,Zv,Zw,Zx,Zy,Zz,ZA,ZB,ZC,ZE,ZF,ZG,ZH,ZI,ZJ,ZK,ZL,ZM,ZN,ZO,ZP,ZQ,ZR,ZT,ZU,ZV,ZW,ZX,ZY,ZZ,Z0,Z4,Z5,Z6,Z7,Z8,Z9,aaa,aab,aac,aad,QE,QF,QG,QH,QI,QJ,QK,QL,QM],[]⟩ wr
def LH (c:WC)(W0:World)(q:CC)(aB:Nat)(pile loc mem:List Int)(gp cp:Nat)(wr:World):Prop:=
 ∀(K K1:Act->World->Prop)(c2 c4 c5 c6 c7 Wo Wp c31 c32 Wq c34 Ws Wu c37 Wv Ww c40 Wx Wy Wz WA WE c46 WG QE QF QG QH QI QJ QK QL QM:Value)(u13 u14 u15 u16 u17 u18 u19 u20 u21 u22 u23 u24 u25 u26 u27 u28 u48 u49 u50 u51 u52 u53 u54 u55 u56 u57 u58 u59 u60 u61 u62 u63 u64 u65 u66 u67 u68 u69 u70 u71 u72 u73 u74 u75 u76 u77 u78 u79 u80 u81 u82 u83 u84 u85 u86 u87 u88 u89 u90 u91 u92 u93 u94 u95 u96 u97 u98 u99 MV MW MX MZ M0 u105 M3 M4 M5 M6 M7 M8 M9 Na Nb Nf Ng Nh Ni u119 Nj Nk Nl Nn u124 Np Nq u127 Nr Ns Nt u131 Nu Nv Nw Ny Nz NA u138 u139 NC ND NE NF NG NH NJ NK NL NM NN NP u152 NQ u154 NR NT NU NV NW NY NZ u162 N7 u164 N8 N9 Oa Ob Od Oe Og Oh Oj Ol Om Oo Oq Ot Ou Ov Ow Ox Oy Oz OA OB OC OD OE OG OH OJ u193 u194 OL u196 OM u198 OO OP u201 OU OV OW OX u206 OY u208 OZ u210 O1 O3 O4 O5 O6 O7 O8 O9 Pb Pd Pe Pf Pg Ph Pj Pk Pm Pn Po Pp Pq Ps Pt u234 Pv u236 Pw Px Py Pz PD PE PG PH PK PL PM PN PO PQ PR PT PU PV PW PX PY PZ P5 P6 P7 P8 P9 Qa Qb Qc Qd Qe Qf Qg Qh Qi Qj Qk Ql Qm Qn Qo Qp Qq Qr Qs Yw Yx Yy Yz YA YB YC YD YE YF YG YH YI YJ YK YL YM YN YO YP YQ YR YS YT YU YV YW YX YY YZ Y0 Y1 Y2 Y3 Y4 Y5 Y6 Y7 Y8 Y9 Za Zb Zc Zd Ze Zf Zg Zh Zi Zj Zk Zl Zm Zn Zo Zp Zq Zr Zt Zu Zv Zw Zx Zy Zz ZA ZB ZC ZE ZF ZG ZH ZI ZJ ZK ZL ZM ZN ZO ZP ZQ ZR ZT ZU ZV ZW ZX ZY ZZ Z0 Z4 Z5 Z6 Z7 Z8 Z9 aaa aab aac aad:Value),Code.wp Tryz.prog ((Tryz.f62.body.bind gL).getD .skip) (Exit.then K (Exit.inBlock 0 (Exit.then K1 (bodyPost Tryz.prog Tryz.f62 (fun e w'=>e= .returned (.int .i64 q.R.value)/\WK c W0 w' q.R.mem q.R.left q.R.code/\mW c q.w w'))))) ⟨#[.pointer (some ⟨c.B,0,none⟩), .int .i64 (q.k:Int),c2, .int .i64 (q.d:Int),c4,c5,c6,c7, .int .i64 0, .pointer (some ⟨q.fb,0,none⟩), .slice (some ⟨q.gl,0,none⟩) loc.length q.cl, .slice (some ⟨gp,0,none⟩) pile.length cp, .int .i64 (aB:Int),u13,u14,u15,u16,u17,u18,u19,u20,u21,u22,u23,u24,u25,u26,u27,u28,Wo,Wp,c31,c32,Wq,c34,Ws,Wu,c37,Wv,Ww,c40,Wx,Wy,Wz,WA,WE,c46,WG,u48,u49,u50,u51,u52,u53,u54,u55,u56,u57,u58,u59,u60,u61,u62,u63,u64,u65,u66,u67,u68,u69,u70,u71,u72,u73,u74,u75,u76,u77,u78,u79,u80,u81,u82,u83,u84,u85,u86,u87,u88,u89,u90,u91,u92,u93,u94,u95,u96,u97,u98,u99,MV,MW,MX,MZ,M0,u105,M3,M4,M5,M6,M7,M8,M9,Na,Nb,Nf,Ng,Nh,Ni,u119,Nj,Nk,Nl,Nn,u124,Np,Nq,u127,Nr,Ns,Nt,u131,Nu,Nv,Nw,Ny,Nz,NA,u138,u139,NC,ND,NE,NF,NG,NH,NJ,NK,NL,NM,NN,NP,u152,NQ,u154,NR,NT,NU,NV,NW,NY,NZ,u162,N7,u164,N8,N9,Oa,Ob,Od,Oe,Og,Oh,Oj,Ol,Om,Oo,Oq,Ot,Ou,Ov,Ow,Ox,Oy,Oz,OA,OB,OC,OD,OE,OG,OH,OJ,u193,u194,OL,u196,OM,u198,OO,OP,u201,OU,OV,OW,OX,u206,OY,u208,OZ,u210,O1,O3,O4,O5,O6,O7,O8,O9,Pb,Pd,Pe,Pf,Pg,Ph,Pj,Pk,Pm,Pn,Po,Pp,Pq,Ps,Pt,u234,Pv,u236,Pw,Px,Py,Pz,PD,PE,PG,PH,PK,PL,PM,PN,PO,PQ,PR,PT,PU,PV,PW,PX,PY,PZ,P5,P6,P7,P8,P9,Qa,Qb,Qc,Qd,Qe,Qf,Qg,Qh,Qi,Qj,Qk,Ql,Qm,Qn,Qo,Qp,Qq,Qr,Qs,Yw,Yx,Yy,Yz,YA,YB,YC,YD,YE,YF,YG,YH,YI,YJ,YK,YL,YM,YN,YO,YP,YQ,YR,YS,YT,YU,YV,YW,YX,YY,YZ,Y0,Y1,Y2,Y3,Y4,Y5,Y6,Y7,Y8,Y9,Za,Zb,Zc,Zd,Ze,Zf,Zg,Zh,Zi,Zj,Zk,Zl,Zm,Zn,Zo,Zp,Zq,Zr,Zt,Zu,Zv,Zw,Zx,Zy,Zz,ZA,ZB,ZC,ZE,ZF,ZG,ZH,ZI,ZJ,ZK,ZL,ZM,ZN,ZO,ZP,ZQ,ZR,ZT,ZU,ZV,ZW,ZX,ZY,ZZ,Z0,Z4,Z5,Z6,Z7,Z8,Z9,aaa,aab,aac,aad,QE,QF,QG,QH,QI,QJ,QK,QL,QM],[]⟩ wr
section
theorem zL (k a b:Int)(w:World)(ha:Wd.ok a=true)(hb:Wd.ok b=true)(hk:k<1):Calls Tryz.prog 90 #[.int .i64 k, .int .i64 a, .int .i64 b] w fun e w'=>e= .returned (.tuple #[.int .i64 (Wd.dv k a b), .int .i64 (Wd.dc k a b)])/\∃q,w'=w.drewN q:=by go_enter Tryz.func90,Tryz.ntmps90;go_wp2_with(first|(go_at_call 17;refine(aW _ _).mono ?_;rintro e w' ⟨rfl,rfl⟩)|go_in);all_goals(go_ret2;exact⟨dQ (Wd.qP (by omega)) (Wd.uj ha hb (by omega)),0,rfl⟩)
theorem zZ (k a b:Int)(w:World)(ha:Wd.ok a=true)(hb:Wd.ok b=true)(hk:12<k):Calls Tryz.prog 90 #[.int .i64 k, .int .i64 a, .int .i64 b] w fun e w'=>e= .returned (.tuple #[.int .i64 (Wd.dv k a b), .int .i64 (Wd.dc k a b)])/\∃q,w'=w.drewN q:=by go_enter Tryz.func90,Tryz.ntmps90;go_wp2_with(first|(go_at_call 17;refine(aW _ _).mono ?_;rintro e w' ⟨rfl,rfl⟩)|go_in);all_goals(go_ret2;exact⟨dQ (Wd.qP (by omega)) (Wd.uj ha hb (by omega)),0,rfl⟩)
theorem Aq (k a b:Int)(w:World)(ha:Wd.ok a=false):Calls Tryz.prog 90 #[.int .i64 k, .int .i64 a, .int .i64 b] w fun e w'=>e= .returned (.tuple #[.int .i64 (Wd.dv k a b), .int .i64 (Wd.dc k a b)])/\∃q,w'=w.drewN q:=by go_enter Tryz.func90,Tryz.ntmps90;go_wp2_with(first|(go_at_call 17;refine(aW _ _).mono ?_;rintro e w' ⟨rfl,rfl⟩)|go_in);all_goals(go_ret2;exact⟨dQ (Wd.GJ (.inl ha)) (Wd.Kq (.inl ha)),0,rfl⟩)
theorem zG (k a b:Int)(w:World)(ha:Wd.ok a=true)(hb:Wd.ok b=false):Calls Tryz.prog 90 #[.int .i64 k, .int .i64 a, .int .i64 b] w fun e w'=>e= .returned (.tuple #[.int .i64 (Wd.dv k a b), .int .i64 (Wd.dc k a b)])/\∃q,w'=w.drewN q:=by go_enter Tryz.func90,Tryz.ntmps90;go_wp2_with(first|(go_at_call 17;refine(aW _ _).mono ?_;rintro e w' ⟨rfl,rfl⟩)|go_in);all_goals(go_ret2;exact⟨dQ (Wd.GJ (.inr hb)) (Wd.Kq (.inr hb)),0,rfl⟩)
theorem wX (k a b:Int)(w:World):Calls Tryz.prog 90 #[.int .i64 k, .int .i64 a, .int .i64 b] w fun e w'=>e= .returned (.tuple #[.int .i64 (Wd.dv k a b), .int .i64 (Wd.dc k a b)])/\∃q,w'=w.drewN q:=by rcases ha:Wd.ok a with _|_;{exact Aq k a b w ha};rcases hb:Wd.ok b with _|_;{exact zG k a b w ha hb};by_cases h1:k<1;{exact zL k a b w ha hb h1};by_cases h2:12<k;{exact zZ k a b w ha hb h2};have hk:k=1\/k=2\/k=3\/k=4\/k=5\/k=6\/k=7\/k=8\/k=9\/k=10\/k=11\/k=12:=by{omega};clear h1 h2;rcases hk with rfl|rfl|rfl|rfl|rfl|rfl|rfl|rfl|rfl|rfl|rfl|rfl;{exact zR a b w ha hb};{exact AJ a b w ha hb};{exact AL a b w ha hb};{by_cases h0:Wd.sg b=0;{exact xQ a b w ha hb h0};by_cases h1:Wd.sg a=-2147483648/\Wd.sg b=-1;{exact xI a b w ha hb h1.1 h1.2};exact xK a b w ha hb h0 h1};{exact Ae a b w ha hb};{exact zY a b w ha hb};{exact zW a b w ha hb};{exact zT a b w ha hb};{exact zi a b w ha hb};{by_cases h:a=b;{exact vY a b w ha hb (by simpa using h)};exact vR a b w ha hb (by simpa using h)};{by_cases h:Wd.sg a<Wd.sg b;{exact vW a b w ha hb h};exact vD a b w ha hb h};by_cases h:a<b;{exact vB a b w ha hb h};exact vM a b w ha hb h
attribute [local go_sem] Fa xL ES xR
end
theorem UF {c:WC}{W0:World}{q:CC}{aB:Nat}{pile loc mem:List Int}{gp cp:Nat}{wr:World}(Q:CQ c W0 q)(aN:Hid (CI c W0 q aB pile loc mem 0 gp cp wr)):LH c W0 q aB pile loc mem gp cp wr:=by unfold LH;intros;(conv=>arg 2;whnf);have ow:=aN.out.wk;have b6:=(ow.box.2 6 _ rfl).1;have b7:=(ow.box.2 7 _ rfl).1;have b7f:=(ow.box.2 7 _ rfl).2;have HR:Hid (q.R= .stop 5 mem 0):=by{have:=aN.out.run;rw[←this];rfl};have HW:=aa (ai (aN.out.wk.set Q.dE 5).2 (aN.out.dI.grow (aF wr ⟨c.B,7,none⟩ (.int .i64 5)) (.inr (.inl rfl))));clear ow;go_wp2;go_ret;rw[HR.out];exact⟨rfl,HW.out.1,HW.out.2⟩
namespace ru
def iter (f:Nat->Nat):Nat->Nat->Nat
 |0,h=>h
 |n+1,h=>iter f n (f h)
theorem lW (f:Nat->Nat)(m:Nat):∀(n h:Nat),iter f (n+m) h=iter f m (iter f n h)
 |0,h=>by rw[Nat.zero_add];rfl
 |n+1,h=>by rw[Nat.add_right_comm];exact lW f m n (f h)
def TB (a c M h:Nat):Nat:=(a*h+c)%M
def AC (a c M:Nat):Nat->Nat×Nat
 |0=>(a,c)
 |k+1=>((AC a c M k).1*(AC a c M k).1%M,((AC a c M k).1*(AC a c M k).2+(AC a c M k).2)%M)
theorem jump (a c M:Nat):∀(k h:Nat),iter (TB a c M) (2 ^ k) h=TB (AC a c M k).1 (AC a c M k).2 M h
 |0,h=>rfl
 | k +1,h=>by
   have e:2 ^ (k+1)=2 ^ k+2 ^ k:=by rw[Nat.pow_succ];omega
   rw[e,lW,jump a c M k,jump a c M k]
   show _=TB ((AC a c M k).1*(AC a c M k).1%M) (((AC a c M k).1*(AC a c M k).2+(AC a c M k).2)%M) M h
   generalize(AC a c M k).1=A
   generalize(AC a c M k).2=C
   unfold TB
   have h1:(A*((A*h+C)%M)+C)%M=(A*(A*h+C)+C)%M:=by
     rw[Nat.add_mod,Nat.mul_mod,Nat.mod_mod,←Nat.mul_mod,←Nat.add_mod]
   have h2:(A*A%M*h+(A*C+C)%M)%M=(A*A*h+(A*C+C))%M:=by
     rw[Nat.add_mod,Nat.mul_mod,Nat.mod_mod,Nat.mod_mod,←Nat.mul_mod,←Nat.add_mod]
   rw[h1,h2]
   congr 1
   rw[Nat.mul_add,Nat.mul_assoc]
   omega
def M:Nat:=9007199254740992
def a0:Nat:=5053549999652653
def c0:Nat:=1543160130404687
theorem ab1:∀k,k<18->(AC a0 c0 M k).1%2 ^ (k+1)=1/\(AC a0 c0 M k).2%2 ^ (k+1)=2 ^ k:=by decide+kernel
abbrev T:Nat->Nat:=TB a0 c0 M
theorem abu:AC a0 c0 M 33=(4124027597619201,4140803739877376):=by decide+kernel
theorem TR {A C h k:Nat}(hk:k<18)(hA:A%2 ^ (k+1)=1)(hC:C%2 ^ (k+1)=2 ^ k):TB A C M h%2 ^ (k+1)=(h+2 ^ k)%2 ^ (k+1):=by unfold TB;have hd:2 ^ (k+1)∣M:=by{have:M=2 ^ 53:=by{decide};rw[this];exact Nat.pow_dvd_pow 2 (by omega)};rw[Nat.mod_mod_of_dvd _ hd,Nat.add_mod,Nat.mul_mod,hA,hC,Nat.one_mul,Nat.mod_mod,Nat.add_mod h (2 ^ k),Nat.mod_eq_of_lt (show 2 ^ k<2 ^ (k+1)by rw[Nat.pow_succ];have:=Nat.two_pow_pos k;omega)]
theorem reach (h r:Nat)(hr:h%2=r%2):∀k,k<18->∃n,n%2=0/\n<2 ^ (k+1)/\iter T n h%2 ^ (k+1)=r%2 ^ (k+1)
 |0,_=>⟨0,rfl,by decide,by simpa[iter]using hr⟩
 | k + 1,hk=>by
   obtain⟨n,h1,h2,h3⟩:=reach h r hr k (by omega)
   have hp:2 ^ (k+1+1)=2 ^ (k+1)+2 ^ (k+1):=by rw[Nat.pow_succ 2 (k+1)];omega
   have hpos:=Nat.two_pow_pos (k+1)
   have he:2 ^ (k+1)%2=0:=by rw[Nat.pow_succ];omega
   by_cases e:iter T n h%2 ^ (k+1+1)=r%2 ^ (k+1+1)
   · exact⟨n,h1,by omega,e⟩
   · refine⟨n+2 ^ (k+1),by omega,by omega,?_⟩
     obtain⟨f1,f2⟩:=ab1 (k+1) hk
     rw[lW,jump,TR hk f1 f2]
     generalize iter T n h=x at*
     generalize 2 ^ (k+1)=p at*
     rw[hp]at e ⊢
     have e1:=Nat.mod_add_div x (p+p)
     have e2:=Nat.mod_add_div r (p+p)
     have e3:x%(p+p)%p=x%p:=Nat.mod_mod_of_dvd _ ⟨2,by omega⟩
     have e4:r%(p+p)%p=r%p:=Nat.mod_mod_of_dvd _ ⟨2,by omega⟩
     have l1:=Nat.mod_lt x (show 0<p+p by omega)
     have l2:=Nat.mod_lt r (show 0<p+p by omega)
     rw[Nat.add_mod,Nat.mod_eq_of_lt (show p<p+p by omega)]
     generalize x%(p+p)=X at*
     generalize r%(p+p)=R at*
     have hm:∀y,y<p+p->y%p=if y<p then y else y-p:=fun y hy=>by
       split
       · exact Nat.mod_eq_of_lt ‹_›
       · rw[Nat.mod_eq_sub_mod (by omega),Nat.mod_eq_of_lt (by omega)]
     rw[←e3,←e4,hm X l1,hm R l2]at h3
     by_cases x1:X<p
     · rw[ax x1]at h3
       rw[Nat.mod_eq_of_lt (by omega)]
       split at h3<;>omega
     · rw[ak x1]at h3
       rw[Nat.mod_eq_sub_mod (by omega),Nat.mod_eq_of_lt (by omega)]
       split at h3<;>omega
def IP (h:Nat):Nat:=(h / 8589934592+h / 35184372088832)%2
theorem abC (h:Nat)(hh:h<M)(hr:h%262144=43840):iter T (2 ^ 33) h=(h+8589934592*5)%M:=by rw[jump,abu];unfold TB M at*;omega
theorem abP (h:Nat)(hh:h<M)(hr:h%262144=212951):iter T (2 ^ 33) h=(h+8589934592*1)%M:=by rw[jump,abu];unfold TB M at*;omega
theorem abk (h:Nat):h / 35184372088832=h / 8589934592 / 4096:=by rw[Nat.div_div_eq_div_mul]
theorem abx (h d:Nat):(h+8589934592*d)%M / 8589934592=(h / 8589934592+d)%1048576:=by have e:M=8589934592*1048576:=by{decide};rw[e,Nat.mod_mul_right_div_self];congr 1;omega
theorem nxt {v d:Nat}(hv:v<1048576)(hs:v%4096+d<4096):v+d<1048576/\(v+d) / 4096=v / 4096:=by have h:=Nat.mod_add_div v 4096;have h2:v / 4096<256:=Nat.div_lt_of_lt_mul (by omega);constructor<;>omega
theorem three (h d:Nat)(hd:d=5\/d=1)(p0:IP h=1)(p1:IP ((h+8589934592*d)%M)=1)(p2:IP ((h+8589934592*(d+d))%M)=1)(hh:h / 8589934592<1048576):False:=by unfold IP at p0 p1 p2;rw[abk]at p0 p1 p2;rw[abx]at p1 p2;generalize h / 8589934592=v at*;have hodd:d%2=1:=by{omega};have hd5:d<=5:=by{omega};clear hd;by_cases hs:v%4096+d<4096;{obtain⟨n1,e2⟩:=nxt hh hs;rw[Nat.mod_eq_of_lt n1,e2]at p1;clear p2;omega};have e0:(v+(d+d))%1048576=((v+d)%1048576+d)%1048576:=by{rw[Nat.mod_add_mod,Nat.add_assoc]};have e5:(v+d)%1048576%4096=v%4096+d-4096:=by{rw[Nat.mod_mod_of_dvd _ (by decide:4096∣1048576)];omega};have e6:(v+d)%1048576<1048576:=Nat.mod_lt _ (by decide);rw[e0]at p2;generalize(v+d)%1048576=v1 at*;have hv4:v%4096<4096:=Nat.mod_lt _ (by decide);obtain⟨n1,e2⟩:=nxt e6 (show v1%4096+d<4096 by rw[e5];clear p0 p1 p2 e0;omega);rw[Nat.mod_eq_of_lt n1,e2]at p2;clear p0 e0 e5;omega
theorem uC {f:Nat->Nat}{m:Nat}(hf:∀h,f h<m):∀(n h:Nat),h<m->iter f n h<m
 |0,h,hh=>hh
 |n+1,h,hh=>uC hf n (f h) (hf h)
theorem Mj {a c m:Nat}(hm:0<m)(h:Nat):TB a c m h<m:=Nat.mod_lt _ hm
theorem VR:0<M:=by decide
theorem UO (n h:Nat)(hh:h<M):iter T n h<M:=uC (fun x=>Mj VR x) n h hh
theorem stops (h:Nat)(hh:h<M):∃n,n%2=0/\n<2 ^ 18+2 ^ 34+1/\¬IP (iter T n h)=1:=by
 obtain⟨r,d,hr,hd,hl⟩:∃r d,h%2=r%2/\(d=5\/d=1)/\∀x,x<M->x%262144=r%262144->iter T (2 ^ 33) x=(x+8589934592*d)%M:=by by_cases e:h%2=0;{exact⟨43840,5,by omega, .inl rfl,fun x hx hxr=>abC x hx (by omega)⟩};exact⟨212951,1,by omega, .inr rfl,fun x hx hxr=>abP x hx (by omega)⟩
 obtain⟨n,h1,h2,h3⟩:=reach h r hr 17 (by omega)
 have hx:=UO n h hh
 have e33:(2:Nat) ^ 33%2=0:=by decide
 have e34:(2:Nat) ^ 34=2 ^ 33+2 ^ 33:=by decide
 have e18:(2:Nat) ^ (17+1)=262144:=by decide
 rw[e18]at h3 h2
 have l1:=hl _ hx h3
 have hx1:(iter T n h+8589934592*d)%M<M:=Nat.mod_lt _ (by decide)
 have hm1:(iter T n h+8589934592*d)%M%262144=r%262144:=by rw[Nat.mod_mod_of_dvd _ (by decide:262144∣M)];omega
 have l2:=hl _ hx1 hm1
 rw[Nat.mod_add_mod,Nat.add_assoc,←Nat.mul_add]at l2
 by_cases b0:IP (iter T n h)=1
 · by_cases b1:IP ((iter T n h+8589934592*d)%M)=1
   · refine⟨n+2 ^ 33+2 ^ 33,by omega,by omega,?_⟩
     rw[lW,lW,l1,l2]
     exact fun b2=>three _ d hd b0 b1 b2 (by
      have e:M=8589934592*1048576:=by decide
      rw[e]at hx
      exact Nat.div_lt_of_lt_mul hx)
   · refine⟨n+2 ^ 33,by omega,by omega,?_⟩;rw[lW,l1];exact b1
 · exact⟨n,h1,by omega,b0⟩
theorem KD (f:Nat->Nat)(n h:Nat):iter f (n+2) h=iter f n (f (f h)):=rfl
def IB:Nat:=2 ^ 18+2 ^ 34+1
end ru
section
open Go.RowKit
def si (w:World)(B:Nat)(a:Option Addr)(len cap:Nat)(zs:List Int)(i:Nat)(h:Int):Prop:=
 jR w B a len cap zs/\i<=len/\w.cell? ⟨B,1,none⟩=some (.int .i64 i)/\w.cell? ⟨B,2,none⟩=some (.int .i64 h)
theorem si.of {w:World}{B:Nat}{a:Option Addr}{len cap:Nat}{zs:List Int}(hc:jR w B a len cap zs):∃i h,si w B a len cap zs i h:=by obtain⟨i,hi,hc1⟩:=hc.2.2.2.2.2.2.1;obtain⟨h,hc2⟩:=hc.2.2.2.2.2.2.2;exact⟨i,h,hc,hi,hc1,hc2⟩
def nh (h:Int):Nat:=(h%9007199254740992).toNat
theorem Lx (h:Int):((nh h:Nat):Int)=h%9007199254740992:=Int.toNat_of_nonneg (Int.emod_nonneg _ (by decide))
theorem kV (y:Int):wrap64 y%9007199254740992=y%9007199254740992:=by have e:wrap64 y=y-18446744073709551616*((y+9223372036854775808) / 18446744073709551616):=by{unfold wrap64;omega};rw[e,show(18446744073709551616:Int)=9007199254740992*2048 from rfl,Int.mul_assoc,Int.sub_mul_emod_self_left]
def turn (h:Int):Int:=wrap64 (wrap64 (h*6364136223846793005)+1442695040888963407)
theorem G5 (h:Int):nh (turn h)=ru.T (nh h):=by apply Int.ofNat_inj.1;have e1:((nh (turn h):Nat):Int)=((h%9007199254740992)*5053549999652653+1543160130404687)%9007199254740992:=by{rw[Lx,turn,kV,Int.add_emod,kV,Int.mul_emod];rw[Int.add_emod ((h%9007199254740992)*5053549999652653),Int.mul_emod (h%9007199254740992),Int.emod_emod];rfl};have e2:((ru.T (nh h):Nat):Int)=(5053549999652653*(nh h:Int)+1543160130404687)%9007199254740992:=by{show(((5053549999652653*nh h+1543160130404687)%9007199254740992:Nat):Int)=_;rw[Int.natCast_emod,Int.natCast_add,Int.natCast_mul];rfl};rw[e1,e2,Lx,Int.mul_comm]
theorem Ag (a b:Nat):(a ^^^ b)%2=(a+b)%2:=by have h:=Nat.testBit_xor a b 0;simp only[Nat.testBit_zero]at h;rcases Nat.mod_two_eq_zero_or_one a with ha|ha<;>rcases Nat.mod_two_eq_zero_or_one b with hb|hb<;>rcases Nat.mod_two_eq_zero_or_one (a ^^^ b)with hc|hc<;>simp[ha,hb,hc]at h<;>omega
theorem KT (y:Int):wrap64 y%2=y%2:=by have e:wrap64 y=y-18446744073709551616*((y+9223372036854775808) / 18446744073709551616):=by{unfold wrap64;omega};rw[e];generalize(y+9223372036854775808) / 18446744073709551616=k;omega
theorem GU (u:Int):(((u%18446744073709551616).toNat:Nat):Int)%2=u%2:=by rw[Int.toNat_of_nonneg (Int.emod_nonneg _ (by decide))];exact Int.emod_emod_of_dvd u ⟨9223372036854775808,by decide⟩
theorem Ad (u:Int):(BitVec.ofInt 64 u).toNat=(u%18446744073709551616).toNat:=by rw[BitVec.toNat_ofInt];rfl
theorem UI (u v:Int):(bits .xor .i64 u v)%2=(u+v)%2:=by have e2:=Ag (u%18446744073709551616).toNat (v%18446744073709551616).toNat;have l1:=GU u;have l2:=GU v;have e0:bits .xor .i64 u v=IntKind.i64.wrap (((BitVec.ofInt 64 u ^^^ BitVec.ofInt 64 v).toNat:Nat):Int):=rfl;rw[e0,IntWalk.i64_left,KT,BitVec.toNat_xor,Ad,Ad];generalize(u%18446744073709551616).toNat ^^^ (v%18446744073709551616).toNat=z at*;generalize(u%18446744073709551616).toNat=a at*;generalize(v%18446744073709551616).toNat=b at*;omega
theorem tJ (B:Nat)(a:Option Addr)(len cap:Nat)(zs:List Int)(h:Int)(w:World)(hc:si w B a len cap zs len h):Calls Tryz.prog 49 #[.pointer (some ⟨B,0,none⟩)] w fun e w'=>∃x:Int,e= .returned (.int .i64 x)/\0<=x/\x<=255/\x%2=ru.IP (nh (turn h))/\si w' B a len cap zs len (turn h)/\w.grownBy w' (some B):=by obtain⟨hC,hi,hc1,hc2⟩:=hc;have HC:Hid (jR w B a len cap zs):=hC;obtain⟨hB,hab,⟨hlen,hrow⟩,hc0,hf1,hf2,-,-⟩:=hC;unfold maxLen at hlen;have lI:¬(len:Int)<(len:Int):=by{omega};go_enter Tryz.func49,Tryz.ntmps49;go_wp2;go_quiet (fail);go_wp2;go_quiet (fail);go_wp2;go_ret;refine⟨_,rfl,(Wd.lu _).1,(Wd.lu _).2,?_,?_⟩;{rw[Wd.IQ];have h2:=UI (turn h / 8589934592) (turn h / 35184372088832);unfold turn at h2;unfold ru.IP nh turn;generalize wrap64 (wrap64 (h*6364136223846793005)+1442695040888963407)=y at*;omega};rw[World.drewN_drewN];obtain⟨k1,k2⟩:=HC.out.one (turn h) (_+_);exact⟨⟨k1,Nat.le_refl _,by go_simp,by go_simp;rfl⟩,k2⟩
end
section
open Go.RowKit
theorem si.two {w:World}{B:Nat}{a:Option Addr}{len cap:Nat}{zs:List Int}(hc:jR w B a len cap zs)(v:Int)(n:Nat)(j:Nat)(hj:j+1<=len)(h1:w.cell? ⟨B,1,none⟩=some (.int .i64 j))(h2:∃y,w.cell? ⟨B,2,none⟩=some (.int .i64 y)):si (((w.setCell ⟨B,2,none⟩ (.int .i64 v)).drewN n).setCell ⟨B,1,none⟩ (.int .i64 (j+1))) B a len cap zs (j+1) v/\w.grownBy (((w.setCell ⟨B,2,none⟩ (.int .i64 v)).drewN n).setCell ⟨B,1,none⟩ (.int .i64 (j+1))) (some B):=by obtain⟨k1,k2⟩:=hc.two v n j hj;obtain⟨y,hy⟩:=h2;obtain⟨hB,-,-,hc0,hf1,hf2,-,-⟩:=id hc;exact⟨⟨k1,hj,by go_simp,by go_simp⟩,k2⟩
theorem wW (B:Nat)(a:Option Addr)(len cap:Nat)(zs:List Int)(i:Nat)(h:Int)(w:World)(hc:si w B a len cap zs i h)(hlt:i<len):Calls Tryz.prog 49 #[.pointer (some ⟨B,0,none⟩)] w fun e w'=>∃x:Int,e= .returned (.int .i64 x)/\0<=x/\x<=255/\si w' B a len cap zs (i+1) (turn h)/\w.grownBy w' (some B):=by obtain⟨hC,hi,hc1,hc2⟩:=hc;have HC:Hid (jR w B a len cap zs):=hC;have HC1:Hid (w.cell? ⟨B,1,none⟩=some (.int .i64 i)/\∃y,w.cell? ⟨B,2,none⟩=some (.int .i64 y)):=⟨hc1,h,hc2⟩;obtain⟨hB,hab,⟨hlen,hrow⟩,hc0,hf1,hf2,-,-⟩:=hC;unfold maxLen at hlen;rcases hrow with rfl|⟨b,off,rfl,hb,hcell,hz⟩;{omega};have hcj:=hcell i hlt;have hne:b<B:=hab.elim (fun h=>by omega) fun h=>h _ rfl;have hz1:=(hz i).1;have hz2:=(hz i).2;have lI:(i:Int)<(len:Int):=by{omega};clear hcell hz hab;go_enter Tryz.func49,Tryz.ntmps49;go_wp2;go_quiet (fail);go_wp2;go_quiet (fail);go_wp2;go_quiet (fail);go_wp2;go_ret;exact⟨_,rfl,(Wd.lu _).1,(Wd.lu _).2,si.two HC.out _ _ i (by omega) HC1.out.1 HC1.out.2⟩
namespace ru
def Rk (h n:Nat):Prop:=∃k,k%2=0/\k<=n/\¬IP (iter T k (T h))=1
theorem Fe (h:Nat):Rk h IB:=by obtain⟨k,h1,h2,h3⟩:=stops (T h) (Mj VR h);exact⟨k,h1,Nat.le_of_lt h2,h3⟩
theorem XD {f:Nat->Nat}{p:Nat->Prop}{h n:Nat}(hk:∃k,k%2=0/\k<=n/\¬p (iter f k (f h)))(hp:p (f h)):2<=n/\∃k,k%2=0/\k<=n-2/\¬p (iter f k (f (f (f h)))):=by obtain⟨k,h1,h2,h3⟩:=hk;have hn:k≠0:=by{rintro rfl;exact h3 hp};obtain⟨k',rfl⟩:∃k',k=k'+2:=⟨k-2,by omega⟩;rw[KD]at h3;exact⟨by omega,k',by omega,by omega,h3⟩
theorem XQ {h n:Nat}(hk:Rk h n)(hp:IP (T h)=1):2<=n/\Rk (T (T h)) (n-2):=XD (p:=fun x=>IP x=1) hk hp
end ru
def Yd (len i:Nat)(h:Int)(m:Nat):Prop:=(i<len/\(len-i)+ru.IB+1<=m)\/(i=len/\∃r,ru.Rk (nh h) r/\r<=m)
def Ff (len i:Nat)(h:Int)(m:Nat):Prop:=(len-i)+ru.IB<m\/(i=len/\∃r,r<m/\ru.Rk (ru.T (nh h)) r)
theorem Yd.next {len i:Nat}{h:Int}{m:Nat}(hf:Yd len i h m)(hi:i<len):Ff len (i+1) (turn h) m:=by left;rcases hf with⟨-,hf⟩|⟨rfl,-⟩<;>omega
theorem Yd.odd {len:Nat}{h:Int}{m:Nat}(hf:Yd len len h m)(hp:ru.IP (nh (turn h))=1):Ff len len (turn h) m:=by right;rcases hf with⟨hf,-⟩|⟨-,r,hr,hf⟩;{omega};rw[G5]at hp ⊢;obtain⟨h2,h3⟩:=ru.XQ hr hp;exact⟨rfl,r-2,by omega,h3⟩
theorem Ff.next {len i:Nat}{h:Int}{m:Nat}(hf:Ff len i h m)(hi:i<len):∃m',m'<m/\Yd len (i+1) (turn h) m':=by rcases hf with hf|⟨rfl,-⟩;{refine⟨_,hf,?_⟩;by_cases e:i+1=len;{exact .inr ⟨e,ru.IB,ru.Fe _,by omega⟩};exact .inl ⟨by omega,by omega⟩};omega
theorem Ff.out {len:Nat}{h:Int}{m:Nat}(hf:Ff len len h m):∃m',m'<m/\Yd len len (turn h) m':=by rcases hf with hf|⟨-,r,hm,hr⟩;{exact⟨ru.IB,by omega, .inr ⟨rfl,ru.IB,ru.Fe _,Nat.le_refl _⟩⟩};exact⟨r,hm, .inr ⟨rfl,r,by rw[G5];exact hr,Nat.le_refl _⟩⟩
def vP (w:World)(B:Nat)(a:Option Addr)(len cap:Nat)(zs:List Int)(m:Nat):Prop:=∃i h,si w B a len cap zs i h/\Yd len i h m
def Fg (w:World)(B:Nat)(a:Option Addr)(len cap:Nat)(zs:List Int)(m:Nat):Prop:=∃i h,si w B a len cap zs i h/\Ff len i h m
theorem jR.few {w:World}{B:Nat}{a:Option Addr}{len cap:Nat}{zs:List Int}(hc:jR w B a len cap zs):vP w B a len cap zs (len+ru.IB+1):=by obtain⟨i,h,hA⟩:=si.of hc;refine⟨i,h,hA,?_⟩;have hi:=hA.2.1;by_cases e:i=len;{exact .inr ⟨e,ru.IB,ru.Fe _,by omega⟩};exact .inl ⟨by omega,by omega⟩
theorem KH (B:Nat)(a:Option Addr)(len cap:Nat)(zs:List Int)(m:Nat)(w:World)(hc:vP w B a len cap zs m):Calls Tryz.prog 49 #[.pointer (some ⟨B,0,none⟩)] w fun e w'=>∃x:Int,e= .returned (.int .i64 x)/\0<=x/\x<=255/\(x%10=7->Fg w' B a len cap zs m)/\aM w w' B a len cap zs:=by obtain⟨i,h,hA,hf⟩:=hc;by_cases hi:i<len;{exact(wW B a len cap zs i h w hA hi).mono fun e w' ⟨x,he,h0,h1,hA',hg⟩=>⟨x,he,h0,h1,fun _=>⟨_,_,hA',hf.next hi⟩,hA'.1,hg⟩};have hil:i=len:=by{have:=hA.2.1;omega};subst hil;exact(tJ B a i cap zs h w hA).mono fun e w' ⟨x,he,h0,h1,hp,hA',hg⟩=>⟨x,he,h0,h1,fun h7=>⟨_,_,hA',hf.odd (by omega)⟩,hA'.1,hg⟩
theorem I6 (B:Nat)(a:Option Addr)(len cap:Nat)(zs:List Int)(m:Nat)(w:World)(hc:Fg w B a len cap zs m):Calls Tryz.prog 49 #[.pointer (some ⟨B,0,none⟩)] w fun e w'=>∃x:Int,e= .returned (.int .i64 x)/\0<=x/\x<=255/\(∃m',m'<m/\vP w' B a len cap zs m')/\aM w w' B a len cap zs:=by obtain⟨i,h,hA,hf⟩:=hc;by_cases hi:i<len;{exact(wW B a len cap zs i h w hA hi).mono fun e w' ⟨x,he,h0,h1,hA',hg⟩=>⟨x,he,h0,h1,(let⟨m',hm,hf'⟩:=hf.next hi;⟨m',hm,_,_,hA',hf'⟩),hA'.1,hg⟩};have hil:i=len:=by{have:=hA.2.1;omega};subst hil;exact(tJ B a i cap zs h w hA).mono fun e w' ⟨x,he,h0,h1,hp,hA',hg⟩=>⟨x,he,h0,h1,(let⟨m',hm,hf'⟩:=hf.out;⟨m',hm,_,_,hA',hf'⟩),hA'.1,hg⟩
theorem zg (B:Nat)(a:Option Addr)(len cap:Nat)(zs:List Int)(m:Nat)(w:World)(hc:vP w B a len cap zs m):Calls Tryz.prog 32 #[.pointer (some ⟨B,0,none⟩), .int .i64 10] w fun e w'=>∃x:Int,e= .returned (.int .i64 x)/\0<=x/\x<10/\(x=7->Fg w' B a len cap zs m)/\aM w w' B a len cap zs:=by have hcon:=KH B a len cap zs m w hc;clear hc;go_enter Tryz.func32,Tryz.ntmps32;go_wp2_with fail;refine hcon.mono ?_;rintro e w1 ⟨x,rfl,hx0,hx1,h7,hd⟩;clear hcon;have H7:Hid (x%10=7->Fg w1 B a len cap zs m):=h7;clear h7;go_wp2;go_ret;exact⟨_,rfl,by omega,by omega,H7.out,hd⟩
theorem EW (B:Nat)(a:Option Addr)(len cap:Nat)(zs:List Int)(m:Nat)(n:Int)(hn0:0<n)(hn1:n<=256)(w:World)(hc:Fg w B a len cap zs m):Calls Tryz.prog 32 #[.pointer (some ⟨B,0,none⟩), .int .i64 n] w fun e w'=>∃x:Int,e= .returned (.int .i64 x)/\0<=x/\x<n/\(∃m',m'<m/\vP w' B a len cap zs m')/\aM w w' B a len cap zs:=by have hcon:=I6 B a len cap zs m w hc;clear hc;go_enter Tryz.func32,Tryz.ntmps32;go_wp2_with fail;refine hcon.mono ?_;rintro e w1 ⟨x,rfl,hx0,hx1,h7,hd⟩;clear hcon;have H7:Hid (∃m',m'<m/\vP w1 B a len cap zs m'):=h7;clear h7;go_wp2;go_ret;exact⟨_,rfl,Int.emod_nonneg _ (by omega),Int.emod_lt_of_pos _ hn0,H7.out,hd⟩
end
end Go.Proofs.YthpdpoocigpccaaGreatDoor
