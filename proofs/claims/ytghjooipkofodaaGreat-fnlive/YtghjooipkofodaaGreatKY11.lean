/-
  Own texts for a law: Nest4 Draw3x
-/
import Derived.Test.YtghjooipkofodaaGreatKY10
namespace Go.Proofs.YtghjooipkofodaaGreat
open Go.RowKit Go.Shelf
set_option linter.all false
set_option maxRecDepth 100000
set_option maxHeartbeats 16000000
theorem aI.xY (xs:List (Int×Int))(E:List Int)(at':Int)(k:Nat):∃f:Nat->List Int,f k=[]/\(∀j,j<k->f j=f (j+1)++(if St.opens (aI.op xs j)=true/\at'<=E.getD j (-1)then[(j:Int)]else[]))/\aI.dh xs E at' k=f 0:=by
 suffices h:∀k,∃f:Nat->List Int,(∀j,k<=j->f j=[])/\(∀j,j<k->f j=f (j+1)++(if St.opens (aI.op xs j)=true/\at'<=E.getD j (-1)then[(j:Int)]else[]))/\aI.dh xs E at' k=f 0 by obtain⟨f,h1,h2,h3⟩:=h k;exact⟨f,h1 k (Nat.le_refl _),h2,h3⟩
 intro k
 induction k with
 |zero=>exact⟨fun _=>[],fun _ _=>rfl,fun j hj=>by omega,rfl⟩
 |succ k ih=>
  obtain⟨f,h1,h2,h3⟩:=ih
  obtain⟨c,hc⟩:∃c:List Int,(if St.opens (aI.op xs k)=true/\at'<=E.getD k (-1)then[(k:Int)]else[])=c:=⟨_,rfl⟩
  refine⟨fun j=>if k+1<=j then[]else c++f j,fun j hj=>ay hj,fun j hj=>?_,?_⟩
  · dsimp only;rw[ax (show¬k+1<=j by omega)];by_cases e:j=k;{subst e;rw[ay (Nat.le_refl _),h1 j (Nat.le_refl _),List.append_nil,List.nil_append,hc]};rw[ax (show¬k+1<=j+1 by omega),h2 j (by omega),List.append_assoc]
  · dsimp only;rw[ax (show¬k+1<=0 by omega),←h3,←hc];show(if St.opens (aI.op xs k)=true/\at'<=E.getD k (-1)then(k:Int)::aI.dh xs E at' k else aI.dh xs E at' k)=_;by_cases h:St.opens (aI.op xs k)=true/\at'<=E.getD k (-1);{rw[ay h,ay h];rfl};rw[ax h,ax h];rfl
theorem qi (a:Option Addr)(len cap:Nat)(xs:List (Int×Int))(h80:len<=80)(hall:St.bA xs=true)(e:Option Addr)(ec:Nat)(E:List Int)(n:Nat)(hn:n<len)(w:World)(hs:SL w a len xs)(hE:IL w e len E):Calls Tryz.prog 129 #[.slice a len cap, .slice e len ec, .int .i64 n] w fun e w'=>∃v,e= .returned v/\OI w' w.heap.size v (aI.dh xs E n n)/\Below w.heap.size w w':=by
 obtain⟨i0,hi,hz0,hz1,hz2⟩:=info_parts bV
 obtain⟨f,f0,f1,f2⟩:=aI.xY xs E n n
 have hfl:∀j,j<=n->(f j).length<=n-j:=by
  intro j hj
  obtain⟨d,hd⟩:∃d,n=j+d:=⟨n-j,by omega⟩
  clear f2
  induction d generalizing j with
  |zero=>rw[show j=n by omega,f0];simp
  |succ d ih=>
   have:=ih (j+1) (by omega) (by omega)
   rw[f1 j (by omega),List.length_append]
   split<;>simp<;>omega
 obtain⟨hl,-,hrow⟩:=hs
 obtain⟨hEl,-,V3⟩:=hE
 have HE:=ae hEl
 clear hEl
 have HL:=ae hl
 have HF:=ae (ak f0 (ak f1 (ak f2 hfl)))
 have hr0:=OI.empty w
 have hB0:=(Below.refl w.heap.size w).alloc (Nat.le_refl _) (.cells #[] 2)
 clear hl f0 f1 f2 hfl
 go_enter Tryz.func129,Tryz.ntmps129
 go_wp2
 go_loopw [7,8] (fun v i wr=>∃(k g c:Nat),i= .int .i64 ((k:Int)-1)/\k<=n/\v= .slice (some ⟨g,0,none⟩) (f k).length c/\wr.ownsRow w.heap.size 2 1 (.slice (some ⟨g,0,none⟩) (f k).length c) (f k).length ((f k).map iv)/\Below w.heap.size w wr) (fun _ i _=>(intOf i+1).toNat)
 case atStart=>refine⟨n,_,0,rfl,Nat.le_refl _,by rw[HF.out.1];rfl,?_,hB0⟩;rw[HF.out.1];exact hr0
 case round=>obtain⟨k,g,c,rfl,hk,rfl,hown,hB⟩:=hrel;clear hr0 hB0;rcases Nat.eq_zero_or_pos k with rfl|hkp;{have HOW:=ae hown;clear hown hrow V3;go_wp2;go_ret;refine⟨_,rfl,?_,hB⟩;rw[HF.out.2.2.1];exact HOW.out};obtain⟨j,rfl⟩:∃j,k=j+1:=⟨k-1,by omega⟩;have hij:((j+1:Nat):Int)-1=(j:Int):=by{omega};rw[hij];have hjn:j<len:=by{omega};rcases hrow with h0|⟨b,off,rfl,hb,hx⟩;{omega};rcases V3 with h0|⟨b2,qA,rfl,hb2,hx2⟩;{omega};have hx0:=(hB.cell (p:=⟨b,off+j*2,none⟩) hb).trans (hx j hjn).1;have hx1:=(hB.cell (p:=⟨b,off+j*2+1,none⟩) hb).trans (hx j hjn).2;have hy0:=(hB.cell (p:=⟨b2,qA+j,none⟩) hb2).trans (hx2 j hjn);have hok:=St.bu hall (j:=j) (by rw[HL.out];exact hjn);obtain⟨⟨p,q⟩,hpq⟩:∃x,xs.getD j (0,0)=x:=⟨_,rfl⟩;rw[hpq]at hx0 hx1 hok;simp only at hx0 hx1 hok;have hop:aI.op xs j=p:=by{rw[aI.op,hpq]};have hfj:=HF.out.2.1 j (by omega);have hlen:=HF.out.2.2.2 (j+1) (by omega);rw[hop]at hfj;obtain⟨ej,Q3⟩:∃x,E.getD j 0=x:=⟨_,rfl⟩;have hEl:E.length=len:=HE.out;have Kr:E.getD j (-1)=ej:=by{rw[←Q3,ah,ah,ai (by omega)];rfl};rw[Q3]at hy0;rw[Kr]at hfj;have qI:St.sD p q=St.opens p:=by{rw[St.sD,hok,Bool.true_and]};have hcon:=oK p q wr;rw[qI]at hcon;have Kt:b2<wr.heap.size:=aj hb2 hB.size;obtain⟨m,hm⟩:∃m,(f (j+1)).length=m:=⟨_,rfl⟩;rw[hm]at hown hlen ⊢;have HM:=ae (ak hm hfj);clear hx hx2 hpq qI hok hop Q3 Kr hEl hm hfj;rcases ho:St.opens p with _|_;{rw[ho]at hcon;go_wp2_with fail;refine hcon.mono ?_;rintro e w5 ⟨rfl,bG⟩;have HOW:=ae (aM hown bG);have bB:=hB.trans (bG.mono hB.size);clear hcon hown bG hB;go_wp2;go_roundw;(case rel=>obtain⟨hm,hfj⟩:=HM.out;rw[ho,ax (by simp),List.append_nil]at hfj;refine⟨j,g,c,rfl,by omega,by rw[hfj,hm],?_,bB⟩;rw[hfj,hm];exact HOW.out);case measure=>first|(simp[intOf];done)|(simp[intOf];omega)};rw[ho]at hcon;by_cases hge:(n:Int)<=ej;{go_wp2_with fail;refine hcon.mono ?_;rintro e w5 ⟨rfl,bG⟩;have z0:=(bG.cell (p:=⟨b2,qA+j,none⟩) Kt).trans hy0;have hown5:=aM hown bG;have bB:=hB.trans (bG.mono hB.size);have hBx:=bB.alloc bB.size (.cells #[.int .i64 (j:Int)] 2);have HRW:=ae (hown5.alloc (.cells #[.int .i64 (j:Int)] 2));have hsz:=bB.size;clear hcon hown bG hB hown5;go_wp2_with(at_builtin;refine wpList_append_own _ rfl _ _ 27 rfl w.heap.size 2 i0 (.int .i64 0) 1 8 Tryz.underlying27 hi hz0 hz1 hz2 rfl (by decide) _ _ _ rfl HRW.out ⟨w5.heap.size,0,none⟩ 1 1 [.int .i64 (j:Int)] rfl rfl (fZ _ _ _ _ rfl) (by simp[Value.oneCell']) (by simp only[maxLen];omega) (by omega) (by simp;omega) ?_;intro v' wA hown' hgrow _;have hB4:=dK HRW.out hBx (by simp;omega) hgrow;obtain⟨g',cap',rfl⟩:=ownsRow_succ hown');go_roundw;(case rel=>obtain⟨hm,hfj⟩:=HM.out;rw[ho,ay ⟨rfl,hge⟩]at hfj;refine⟨j,g',cap',rfl,by omega,by rw[hfj,List.length_append,hm];rfl,?_,hB4⟩;rw[hfj,List.length_append,hm,List.map_append];exact hown');case measure=>first|(simp[intOf];done)|(simp[intOf];omega)};go_wp2_with fail;refine hcon.mono ?_;rintro e w5 ⟨rfl,bG⟩;have z0:=(bG.cell (p:=⟨b2,qA+j,none⟩) Kt).trans hy0;have HOW:=ae (aM hown bG);have bB:=hB.trans (bG.mono hB.size);clear hcon hown bG hB;go_wp2;go_roundw;(case rel=>obtain⟨hm,hfj⟩:=HM.out;rw[ax (by rintro⟨_,h⟩;omega),List.append_nil]at hfj;refine⟨j,g,c,rfl,by omega,by rw[hfj,hm],?_,bB⟩;rw[hfj,hm];exact HOW.out);case measure=>first|(simp[intOf];done)|(simp[intOf];omega)
section
open Go.RowKit
theorem oD (B:Nat)(a:Option Addr)(len cap:Nat)(zs:List Int)(lo hi:Int)(w:World)(hc:gQ w B a len cap zs)(h1:-1000000<=lo)(h2:lo<=hi)(h3:hi<=1000000):Calls Tryz.prog 75 #[.pointer (some ⟨B,0,none⟩), .int .i64 lo, .int .i64 hi] w fun e w'=>∃x:Int,e= .returned (.int .i64 x)/\lo<=x/\x<=hi/\aP w w' B a len cap zs:=by go_enter Tryz.func75,Tryz.ntmps75;go_wp2_with fail;refine(aG B a len cap zs (hi-lo+1) _ hc).mono ?_;rintro e w1 ⟨x,rfl,hx0,hx1,hx2,hd⟩;have hx3:x<hi-lo+1:=by{omega};clear hx2;go_wp2;go_ret;exact⟨_,rfl,by omega,by omega,hd⟩
end
end Go.Proofs.YtghjooipkofodaaGreat
