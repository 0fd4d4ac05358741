/-
  Own texts for a law: Pr0 Pr1 Pr2 Pr3 Pr4 Rw0 RwG Low0
-/
import Derived.Test.YthkjdjmjdlimnaaKQ13
import Derived.Test.YthkjdjmjdlimnaaKQ19
namespace Go.Proofs.Ythkjdjmjdlimnaa
open Go.RowKit Go.Shelf
set_option linter.all false
set_option maxRecDepth 100000
set_option maxHeartbeats 16000000
def LB (mem:List Int)(aF cu depth:Int)(cv:Value):List Value:=mem.map bv++[.int .i64 aF, .int .i64 cu, .int .i64 depth,cv]
section
variable {mem : List Int} {aF cu depth : Int} {cv : Value}
theorem qH (hl:mem.length=64)(i:Nat):(LB mem aF cu depth cv)[64+i]?=[.int .i64 aF, .int .i64 cu, .int .i64 depth,cv][i]?:=by unfold LB;rw[List.getElem?_append_right (by rw[List.length_map,hl];omega),List.length_map,hl,Nat.add_sub_cancel_left]
theorem AB (hl:mem.length=64)(i:Nat)(v:Value):(LB mem aF cu depth cv).set (64+i) v=mem.map bv++[.int .i64 aF, .int .i64 cu, .int .i64 depth,cv].set i v:=by unfold LB;rw[List.set_append_right _ _ (by rw[List.length_map,hl];omega),List.length_map,hl,Nat.add_sub_cancel_left]
end
section
variable {P : Nat} {mem : List Int} {aF cu depth : Int} {cv : Value} {W : World}
theorem fq (hl:mem.length=64)(h:bS W P 67 (LB mem aF cu depth cv)):
   (W.cell? ⟨P,64,none⟩=some (.int .i64 aF)/\W.cell? ⟨P,65,none⟩=some (.int .i64 cu)/\W.cell? ⟨P,66,none⟩=some (.int .i64 depth)/\W.cell? ⟨P,67,none⟩=some cv)/\∀i,W.frozen? ⟨P,i,none⟩=false:=
 ⟨⟨h.cell (qH hl 0),h.cell (qH hl 1),h.cell (qH hl 2),h.cell (qH hl 3)⟩,fun i=>h.frozen i⟩
theorem zQ (hl:mem.length=64)(h:bS W P 67 (LB mem aF cu depth cv))(x:Int):bS (W.setCell ⟨P,65,none⟩ (.int .i64 x)) P 67 (LB mem aF x depth cv):=by have:=h.set 65 (.int .i64 x);rw[show(65:Nat)=64+1 from rfl,AB hl]at this;exact this
theorem sM (hl:mem.length=64)(h:bS W P 67 (LB mem aF cu depth cv))(x:Int):bS (W.setCell ⟨P,66,none⟩ (.int .i64 x)) P 67 (LB mem aF cu x cv):=by have:=h.set 66 (.int .i64 x);rw[show(66:Nat)=64+2 from rfl,AB hl]at this;exact this
theorem xX (hl:mem.length=64)(h:bS W P 67 (LB mem aF aF depth cv)):Calls Try.prog 48 #[.pointer (some ⟨P,0,none⟩)] W fun e w'=>e=ig 5/\Below W.heap.size W w':=by obtain⟨⟨c0,c1,c2,c3⟩,cf⟩:=fq hl h;clear c2 c3 cf h;go_enter Try.func48,Try.ntmps48;go_wp2;go_region;go_wp2;exact⟨rfl,rfl,below_drewN W 1⟩
theorem Ad (hl:mem.length=64)(hb:cu<aF)(hf:aF<=200000)(h0:0<=cu)(h:bS W P 67 (LB mem aF cu depth cv)):Calls Try.prog 48 #[.pointer (some ⟨P,0,none⟩)] W fun e w'=>e= .returned (.tuple #[])/\bS w' P 67 (LB mem aF (cu+1) depth cv)/\W.grownBy w' (some P):=by obtain⟨⟨c0,c1,c2,c3⟩,cf⟩:=fq hl h;have f1:=cf 65;have hne:(cu==aF)=false:=by{simp;omega};have HF:=ae (zQ hl (h.drewN 1) (cu+1));clear c2 c3 cf h;go_enter Try.func48,Try.ntmps48;go_wp2;go_region;go_wp2;(try simp only[Exit.inBlock,Exit.then]);exact bodyPost_end (results_none rfl _ _ _) rfl ⟨rfl,HF.out,kr W 1 _ _⟩
theorem tL (hl:mem.length=64)(h:bS W P 67 (LB mem aF cu 12 cv)):Calls Try.prog 46 #[.pointer (some ⟨P,0,none⟩)] W fun e w'=>e=ig 6/\w'=W:=by obtain⟨⟨c0,c1,c2,c3⟩,cf⟩:=fq hl h;clear c0 c1 c3 cf h;go_enter Try.func46,Try.ntmps46;go_wp2;exact⟨rfl,rfl,rfl⟩
theorem xQ (d:Nat)(hl:mem.length=64)(hd:d<12)(h:bS W P 67 (LB mem aF cu d cv)):Calls Try.prog 46 #[.pointer (some ⟨P,0,none⟩)] W fun e w'=>e= .returned (.tuple #[])/\bS w' P 67 (LB mem aF cu ((d+1:Nat):Int) cv)/\W.grownBy w' (some P):=by obtain⟨⟨c0,c1,c2,c3⟩,cf⟩:=fq hl h;have f1:=cf 66;have hne:((d:Int)==12)=false:=by{simp;omega};have HF:=ae (sM hl h ((d+1:Nat):Int));clear c0 c1 c3 cf h;go_enter Try.func46,Try.ntmps46;go_wp2;(try simp only[Exit.inBlock,Exit.then]);exact bodyPost_end (results_none rfl _ _ _) rfl ⟨rfl,HF.out,aC W _ _⟩
theorem xW (d:Nat)(hl:mem.length=64)(hd:d<12)(h:bS W P 67 (LB mem aF cu ((d+1:Nat):Int) cv)):Calls Try.prog 50 #[.pointer (some ⟨P,0,none⟩)] W fun e w'=>e= .returned (.tuple #[])/\bS w' P 67 (LB mem aF cu d cv)/\W.grownBy w' (some P):=by obtain⟨⟨c0,c1,c2,c3⟩,cf⟩:=fq hl h;have f1:=cf 66;have HF:=ae (sM hl h (d:Int));clear c0 c1 c3 cf h;go_enter Try.func50,Try.ntmps50;go_wp2;(try simp only[Exit.inBlock,Exit.then]);exact bodyPost_end (results_none rfl _ _ _) rfl ⟨rfl,HF.out,aC W _ _⟩
end
structure LR (P:Nat)(mem:List Int)(aF b d:Int)(cv:Value)(W:World):Prop where
 pb:bS W P 67 (LB mem aF b d cv)
 ml:mem.length=64
theorem LR.kept {P:Nat}{mem:List Int}{aF b d:Int}{cv:Value}{W W':World}(h:LR P mem aF b d cv W)(hB:Below W.heap.size W W'):LR P mem aF b d cv W':=⟨h.pb.kept hB,h.ml⟩
theorem xe {P:Nat}{mem:List Int}{aF b d:Int}{cv:Value}{W:World}(K:LR P mem aF b d cv W):(Instr.loadAt 60 (.pointer (some ⟨P,0,none⟩))).run Try.prog W= .ok (.agg (mem.map bv).toArray) W:=
 fC W P _ _ _ _ 64 5 K.pb Try.underlying60 (by rw[List.length_map,K.ml];exact iG)
section
variable {P : Nat} {mem : List Int} {aF b d : Int} {cv : Value} {W W' : World}
theorem yZ (a o:Int)(ha:Wd.ok a=true)(hb:∀j,0<=mem.getD j 0/\mem.getD j 0<=255)(h:Mm.there a o=true)(K:LR P mem aF b d cv W):Calls Try.prog 61 #[.pointer (some ⟨P,0,none⟩), .int .u32 a, .int .i64 o] W fun e w'=>e= .returned (.int .u32 (Mm.fB mem (a+o).toNat 4))/\Below W.heap.size W w':=by obtain⟨i1,i2,i3,i4⟩:=Mm.eT.1 h;obtain⟨kk,hk⟩:∃kk:Nat,a+o=kk:=⟨(a+o).toNat,by omega⟩;have Fy:kk+4<=64:=by{omega};obtain⟨gx,hgx⟩:∃gx,Mm.fB mem (a+o).toNat 4=gx:=⟨_,rfl⟩;rw[hgx];have hld:∀x:World,Calls Try.prog 70 #[.agg (mem.map bv).toArray, .int .i64 (a+o)] x fun e w'=>e= .returned (.int .u32 gx)/\Below x.heap.size x w':=fun x=>by{have:=xH mem K.ml hb kk Fy x;rw[←hgx,hk,az];exact this};have hpl:=fun x:World=>jU a o ha h x;obtain⟨AA,dC⟩:∃AA:Bool->World->Prop,AA=fun _ x=>Below W.heap.size W x/\LR P mem aF b d cv x:=⟨_,rfl⟩;have lu:AA false W.drew:=by{rw[dC];exact⟨(Below.refl _ _).drew,K.kept (Below.refl _ _).drew⟩};have qU:∀{t:Bool}{x:World},AA t x->(Instr.loadAt 60 (.pointer (some ⟨P,0,none⟩))).run Try.prog x= .ok (.agg (mem.map bv).toArray) x:=fun h=>by{rw[dC]at h;exact xe h.2};have hAk:∀{t t':Bool}{x x':World},AA t x->Below x.heap.size x x'->AA t' x':=fun h hB=>by{rw[dC]at h ⊢;exact⟨h.1.trans (hB.mono h.1.size),h.2.kept hB⟩};have gI:∀{t:Bool}{x:World},AA t x->Below W.heap.size W x:=fun h=>by{rw[dC]at h;exact h.1};obtain⟨cs,hcs⟩:∃cs,(mem.map bv).toArray=cs:=⟨_,rfl⟩;rw[hcs]at qU;rw[hcs]at hld;clear hk hgx;clear dC hcs K hb;go_enter Try.func61,Try.ntmps61;go_wp2_with fail;refine bZ 8 [7,8,9,10,11,12,13,14] 100 AA (fun j y _=>y=[.pointer (some ⟨P,0,none⟩), .pointer (some ⟨P,0,none⟩), .pointer (some ⟨P,0,none⟩), .agg cs, .int .u32 a, .int .i64 o, .int .i64 (a+o), .int .u32 gx].getD j undef) (by kernel_rfl) (by kernel_rfl) (by simp) lu ?_ ?_;{simp only[List.take_succ_cons,List.take_zero];refine⟨?_,?_,?_,?_,?_,?_,?_,?_,trivial⟩;(all_goals(intro t b x hA ht hm hfr hdf aS;replace hdf:=ae hdf));have e0:b.tmps[0]?.getD undef= .pointer (some ⟨P,0,none⟩):=aN (hfr 0 (by decide));rotate_left;have e7:b.tmps[7]?.getD undef= .pointer (some ⟨P,0,none⟩):=aN (aS 0 (by kernel_rfl));rotate_left;have e8:b.tmps[8]?.getD undef= .pointer (some ⟨P,0,none⟩):=aN (aS 1 (by kernel_rfl));rotate_left;{have e9:b.tmps[9]?.getD undef= .pointer (some ⟨P,0,none⟩):=aN (aS 2 (by kernel_rfl));exact dW _ _ rfl _ _ (by simpa[Act.eval]using e9) (qU hA) ⟨_,rfl,bM hA,rfl,fun i z h=>h⟩};have e1:b.tmps[1]?.getD undef= .int .u32 a:=aN (hfr 1 (by decide));rotate_left;have e2:b.tmps[2]?.getD undef= .int .i64 o:=aN (hfr 2 (by decide));rotate_left;{have e11:b.tmps[11]?.getD undef= .int .u32 a:=aN (aS 4 (by kernel_rfl));have e12:b.tmps[12]?.getD undef= .int .i64 o:=aN (aS 5 (by kernel_rfl));unfold Oper.wp;generalize hK:(fun(b':Act) (x':World)=>∃y,_/\_)=K;simp only[execOp];go_simp;refine(hpl x).mono ?_;rintro e w' ⟨rfl,aQ⟩;subst w';rw[←hK];exact⟨_,rfl,bM hA,rfl,fun i z h=>h⟩};{have e10:b.tmps[10]?.getD undef= .agg cs:=aN (aS 3 (by kernel_rfl));have e13:b.tmps[13]?.getD undef= .int .i64 (a+o):=aN (aS 6 (by kernel_rfl));unfold Oper.wp;generalize hK:(fun(b':Act) (x':World)=>∃y,_/\_)=K;simp only[execOp];go_simp;refine(hld x).mono ?_;rintro e w' ⟨rfl,hB⟩;rw[←hK];exact⟨_,rfl,bM (hAk hA hB),rfl,fun i z h=>h⟩};all_goals(unfold Oper.wp;generalize hK:(fun(b':Act) (x':World)=>∃y,_/\_)=K;simp only[execOp];go_simp;rw[←hK];exact⟨_,rfl,bM hA,rfl,fun i z h=>h⟩)};intro b x hA hF hb;have e7:b.eval (.tmp 7)= .pointer (some ⟨P,0,none⟩):=hF 0 (by decide);have e8:b.eval (.tmp 8)= .pointer (some ⟨P,0,none⟩):=hF 1 (by decide);have e9:b.eval (.tmp 9)= .pointer (some ⟨P,0,none⟩):=hF 2 (by decide);have e10:b.eval (.tmp 10)= .agg cs:=hF 3 (by decide);have e11:b.eval (.tmp 11)= .int .u32 a:=hF 4 (by decide);have e12:b.eval (.tmp 12)= .int .i64 o:=hF 5 (by decide);have e13:b.eval (.tmp 13)= .int .i64 (a+o):=hF 6 (by decide);have e14:b.eval (.tmp 14)= .int .u32 gx:=hF 7 (by decide);simp only[List.foldl,e7,e8,e9,e10,e11,e12,e13,e14]at hb;clear hF e7 e8 e9 e10 e11 e12 e13 e14;subst hb;simp only[List.drop_succ_cons,List.drop_zero];go_simp;have hA1:AA false x:=by{simpa using hA};clear hA;go_wp2;go_ret;exact⟨rfl,gI hA1⟩
theorem zt (a o:Int)(ha:Wd.ok a=true)(hb:∀j,0<=mem.getD j 0/\mem.getD j 0<=255)(h:Mm.there a o=false)(K:LR P mem aF b d cv W):Calls Try.prog 61 #[.pointer (some ⟨P,0,none⟩), .int .u32 a, .int .i64 o] W fun e w'=>e=ig 3/\Below W.heap.size W w':=by have hpl:=fun x:World=>jR a o ha h x;obtain⟨AA,dC⟩:∃AA:Bool->World->Prop,AA=fun _ x=>Below W.heap.size W x/\LR P mem aF b d cv x:=⟨_,rfl⟩;have lu:AA false W.drew:=by{rw[dC];exact⟨(Below.refl _ _).drew,K.kept (Below.refl _ _).drew⟩};have qU:∀{t:Bool}{x:World},AA t x->(Instr.loadAt 60 (.pointer (some ⟨P,0,none⟩))).run Try.prog x= .ok (.agg (mem.map bv).toArray) x:=fun h=>by{rw[dC]at h;exact xe h.2};have hAk:∀{t t':Bool}{x x':World},AA t x->Below x.heap.size x x'->AA t' x':=fun h hB=>by{rw[dC]at h ⊢;exact⟨h.1.trans (hB.mono h.1.size),h.2.kept hB⟩};have gI:∀{t:Bool}{x:World},AA t x->Below W.heap.size W x:=fun h=>by{rw[dC]at h;exact h.1};obtain⟨cs,hcs⟩:∃cs,(mem.map bv).toArray=cs:=⟨_,rfl⟩;rw[hcs]at qU;clear dC hcs K hb;go_enter Try.func61,Try.ntmps61;go_wp2_with fail;refine bZ 8 [7,8,9,10,11,12,13,14] 100 AA (fun j y _=>j≠6/\y=[.pointer (some ⟨P,0,none⟩), .pointer (some ⟨P,0,none⟩), .pointer (some ⟨P,0,none⟩), .agg cs, .int .u32 a, .int .i64 o, .int .i64 (a+o),undef].getD j undef) (by kernel_rfl) (by kernel_rfl) (by simp) lu ?_ ?_;{simp only[List.take_succ_cons,List.take_zero];refine⟨?_,?_,?_,?_,?_,?_,?_,?_,trivial⟩;(all_goals(intro t b x hA ht hm hfr hdf aS;replace hdf:=ae hdf));have e0:b.tmps[0]?.getD undef= .pointer (some ⟨P,0,none⟩):=aN (hfr 0 (by decide));rotate_left;have e7:b.tmps[7]?.getD undef= .pointer (some ⟨P,0,none⟩):=by{simpa[Act.eval]using(aS 0 (by kernel_rfl)).2};rotate_left;have e8:b.tmps[8]?.getD undef= .pointer (some ⟨P,0,none⟩):=by{simpa[Act.eval]using(aS 1 (by kernel_rfl)).2};rotate_left;{have e9:b.tmps[9]?.getD undef= .pointer (some ⟨P,0,none⟩):=by{simpa[Act.eval]using(aS 2 (by kernel_rfl)).2};exact dW _ _ rfl _ _ (by simpa[Act.eval]using e9) (qU hA) ⟨_,rfl,bM hA,⟨by decide,rfl⟩,fun i z h=>h⟩};have e1:b.tmps[1]?.getD undef= .int .u32 a:=aN (hfr 1 (by decide));rotate_left;have e2:b.tmps[2]?.getD undef= .int .i64 o:=aN (hfr 2 (by decide));rotate_left;{have e11:b.tmps[11]?.getD undef= .int .u32 a:=by{simpa[Act.eval]using(aS 4 (by kernel_rfl)).2};have e12:b.tmps[12]?.getD undef= .int .i64 o:=by{simpa[Act.eval]using(aS 5 (by kernel_rfl)).2};unfold Oper.wp;generalize hK:(fun(b':Act) (x':World)=>∃y,_/\_)=K;simp only[execOp];go_simp;refine(hpl x).mono ?_;rintro e w' ⟨rfl,aQ⟩;subst w';exact⟨hdf.out,rfl,gI hA⟩};{have e10:b.tmps[10]?.getD undef= .agg cs:=by{simpa[Act.eval]using(aS 3 (by kernel_rfl)).2};exact absurd rfl (aS 6 (by kernel_rfl)).1};all_goals(unfold Oper.wp;generalize hK:(fun(b':Act) (x':World)=>∃y,_/\_)=K;simp only[execOp];go_simp;rw[←hK];exact⟨_,rfl,bM hA,⟨by decide,rfl⟩,fun i z h=>h⟩)};intro b x hA hF hb;exact absurd rfl (hF 6 (by decide)).1
end
theorem vG {W W1 W2:World}{r:Nat}(h:Below W.heap.size W W1)(hg:W1.grownBy W2 (some r)):W.grownBy W2 (some r):=
 ⟨hg.os.trans h.os,hg.tape.trans h.tape,hg.output.trans h.output,Nat.le_trans h.size hg.size,fun k hk hne=>(hg.block k (ai hk h.size) hne).trans (h.block k hk)⟩
section
variable {P : Nat} {mem : List Int} {aF b d : Int} {cv : Value} {W W' : World}
theorem xI (a o v:Int)(ha:Wd.ok a=true)(hv:Wd.ok v=true)(hb:∀j,0<=mem.getD j 0/\mem.getD j 0<=255)(h:Mm.there a o=true)(K:LR P mem aF b d cv W):Calls Try.prog 62 #[.pointer (some ⟨P,0,none⟩), .int .u32 a, .int .i64 o, .int .u32 v] W fun e w'=>e= .returned (.tuple #[])/\LR P (Mm.dR mem (a+o).toNat v 4) aF b d cv w'/\W.grownBy w' (some P):=by obtain⟨i1,i2,i3,i4⟩:=Mm.eT.1 h;obtain⟨kk,hk⟩:∃kk:Nat,a+o=kk:=⟨(a+o).toNat,by omega⟩;have Fy:kk+4<=64:=by{omega};obtain⟨mm,hmm⟩:∃mm,Mm.dR mem (a+o).toNat v 4=mm:=⟨_,rfl⟩;rw[hmm];have lC:mm.length=64:=by{rw[←hmm,Mm.fM];exact K.ml};have JK:=ae (aj lC K.ml);have hld:∀x:World,Calls Try.prog 72 #[.agg (mem.map bv).toArray, .int .i64 (a+o), .int .u32 v] x fun e w'=>e= .returned (.agg (mm.map bv).toArray)/\Below x.heap.size x w':=fun x=>by{have:=xL mem K.ml hb kk Fy v (Wd.aL.1 hv).1 (Wd.aL.1 hv).2 x;rw[←hmm,hk,az];exact this};have hpl:=fun x:World=>jU a o ha h x;obtain⟨AA,dC⟩:∃AA:Bool->World->Prop,AA=fun _ x=>Below W.heap.size W x/\LR P mem aF b d cv x:=⟨_,rfl⟩;have lu:AA false W.drew:=by{rw[dC];exact⟨(Below.refl _ _).drew,K.kept (Below.refl _ _).drew⟩};have qU:∀{t:Bool}{x:World},AA t x->(Instr.loadAt 60 (.pointer (some ⟨P,0,none⟩))).run Try.prog x= .ok (.agg (mem.map bv).toArray) x:=fun h=>by{rw[dC]at h;exact xe h.2};have hAk:∀{t t':Bool}{x x':World},AA t x->Below x.heap.size x x'->AA t' x':=fun h hB=>by{rw[dC]at h ⊢;exact⟨h.1.trans (hB.mono h.1.size),h.2.kept hB⟩};have gI:∀{t:Bool}{x:World},AA t x->Below W.heap.size W x/\LR P mem aF b d cv x:=fun h=>by{rw[dC]at h;exact h};obtain⟨cs,hcs⟩:∃cs,(mem.map bv).toArray=cs:=⟨_,rfl⟩;rw[hcs]at qU;rw[hcs]at hld;obtain⟨ds,hds⟩:∃ds,mm.map bv=ds:=⟨_,rfl⟩;rw[hds]at hld;have Ow:=ae hds;clear hk hmm lC hds;clear dC hcs K hb;go_enter Try.func62,Try.ntmps62;go_wp2_with fail;refine bZ 12 [8,9,10,11,12,13,14,15,16,17,18,19] 100 AA (fun j y _=>y=[.pointer (some ⟨P,0,none⟩), .pointer (some ⟨P,0,none⟩), .pointer (some ⟨P,0,none⟩), .pointer (some ⟨P,0,none⟩), .agg cs, .int .u32 a, .int .i64 o, .int .i64 (a+o), .int .u32 v, .agg ds.toArray, .pointer (some ⟨P,0,none⟩), .pointer (some ⟨P,0,none⟩)].getD j undef) (by kernel_rfl) (by kernel_rfl) (by simp) lu ?_ ?_;{simp only[List.take_succ_cons,List.take_zero];refine⟨?_,?_,?_,?_,?_,?_,?_,?_,?_,?_,?_,?_,trivial⟩;(all_goals(intro t b x hA ht hm hfr hdf aS;replace hdf:=ae hdf));have e0:b.tmps[0]?.getD undef= .pointer (some ⟨P,0,none⟩):=aN (hfr 0 (by decide));rotate_left;have e0:b.tmps[0]?.getD undef= .pointer (some ⟨P,0,none⟩):=aN (hfr 0 (by decide));rotate_left;have e9:b.tmps[9]?.getD undef= .pointer (some ⟨P,0,none⟩):=aN (aS 1 (by kernel_rfl));rotate_left;have e10:b.tmps[10]?.getD undef= .pointer (some ⟨P,0,none⟩):=aN (aS 2 (by kernel_rfl));rotate_left;{have e11:b.tmps[11]?.getD undef= .pointer (some ⟨P,0,none⟩):=aN (aS 3 (by kernel_rfl));exact dW _ _ rfl _ _ (by simpa[Act.eval]using e11) (qU hA) ⟨_,rfl,bM hA,rfl,fun i z h=>h⟩};have e1:b.tmps[1]?.getD undef= .int .u32 a:=aN (hfr 1 (by decide));rotate_left;have e2:b.tmps[2]?.getD undef= .int .i64 o:=aN (hfr 2 (by decide));rotate_left;{have e13:b.tmps[13]?.getD undef= .int .u32 a:=aN (aS 5 (by kernel_rfl));have e14:b.tmps[14]?.getD undef= .int .i64 o:=aN (aS 6 (by kernel_rfl));unfold Oper.wp;generalize hK:(fun(b':Act) (x':World)=>∃y,_/\_)=K;simp only[execOp];go_simp;refine(hpl x).mono ?_;rintro e w' ⟨rfl,aQ⟩;subst w';rw[←hK];exact⟨_,rfl,bM hA,rfl,fun i z h=>h⟩};have e3:b.tmps[3]?.getD undef= .int .u32 v:=aN (hfr 3 (by decide));rotate_left;{have e12:b.tmps[12]?.getD undef= .agg cs:=aN (aS 4 (by kernel_rfl));have e15:b.tmps[15]?.getD undef= .int .i64 (a+o):=aN (aS 7 (by kernel_rfl));have e16:b.tmps[16]?.getD undef= .int .u32 v:=aN (aS 8 (by kernel_rfl));unfold Oper.wp;generalize hK:(fun(b':Act) (x':World)=>∃y,_/\_)=K;simp only[execOp];go_simp;refine(hld x).mono ?_;rintro e w' ⟨rfl,hB⟩;rw[←hK];exact⟨_,rfl,bM (hAk hA hB),rfl,fun i z h=>h⟩};have e8:b.tmps[8]?.getD undef= .pointer (some ⟨P,0,none⟩):=aN (aS 0 (by kernel_rfl));rotate_left;have e18:b.tmps[18]?.getD undef= .pointer (some ⟨P,0,none⟩):=aN (aS 10 (by kernel_rfl));rotate_left;all_goals(unfold Oper.wp;generalize hK:(fun(b':Act) (x':World)=>∃y,_/\_)=K;simp only[execOp];go_simp;rw[←hK];exact⟨_,rfl,bM hA,rfl,fun i z h=>h⟩)};intro b x hA hF hb;have e8:b.eval (.tmp 8)= .pointer (some ⟨P,0,none⟩):=hF 0 (by decide);have e9:b.eval (.tmp 9)= .pointer (some ⟨P,0,none⟩):=hF 1 (by decide);have e10:b.eval (.tmp 10)= .pointer (some ⟨P,0,none⟩):=hF 2 (by decide);have e11:b.eval (.tmp 11)= .pointer (some ⟨P,0,none⟩):=hF 3 (by decide);have e12:b.eval (.tmp 12)= .agg cs:=hF 4 (by decide);have e13:b.eval (.tmp 13)= .int .u32 a:=hF 5 (by decide);have e14:b.eval (.tmp 14)= .int .i64 o:=hF 6 (by decide);have e15:b.eval (.tmp 15)= .int .i64 (a+o):=hF 7 (by decide);have e16:b.eval (.tmp 16)= .int .u32 v:=hF 8 (by decide);have e17:b.eval (.tmp 17)= .agg ds.toArray:=hF 9 (by decide);have e18:b.eval (.tmp 18)= .pointer (some ⟨P,0,none⟩):=hF 10 (by decide);have e19:b.eval (.tmp 19)= .pointer (some ⟨P,0,none⟩):=hF 11 (by decide);simp only[List.foldl,e8,e9,e10,e11,e12,e13,e14,e15,e16,e17,e18,e19]at hb;clear hF e8 e9 e10 e11 e12 e13 e14 e15 e16 e17 e18 e19;subst hb;simp only[List.drop_succ_cons,List.drop_zero];go_simp;have hA1:AA false x:=by{simpa using hA};clear hA;have hKx:=(gI hA1).2;refine nK rfl _ _ _ rfl P rfl ds rfl _ (mem.map bv) _ hKx.pb (by rw[←Ow.out,List.length_map,JK.out.1];exact iG) (by rw[←Ow.out,List.length_map,List.length_map,JK.out.1,JK.out.2]) (by rw[←Ow.out];exact kR) ?_;intro w' hA' hg';rw[←Ow.out]at hA';have r1:LR P mm aF b d cv w':=⟨hA',JK.out.1⟩;have HF:=ae (aj r1 (vG (gI hA1).1 hg'));clear r1 hKx hA' hg' hA1;go_wp2;(try simp only[Exit.inBlock,Exit.then]);exact bodyPost_end (results_none rfl _ _ _) rfl ⟨rfl,HF.out⟩
theorem yu (a o v:Int)(ha:Wd.ok a=true)(hv:Wd.ok v=true)(hb:∀j,0<=mem.getD j 0/\mem.getD j 0<=255)(h:Mm.there a o=false)(K:LR P mem aF b d cv W):Calls Try.prog 62 #[.pointer (some ⟨P,0,none⟩), .int .u32 a, .int .i64 o, .int .u32 v] W fun e w'=>e=ig 3/\Below W.heap.size W w':=by have hpl:=fun x:World=>jR a o ha h x;obtain⟨AA,dC⟩:∃AA:Bool->World->Prop,AA=fun _ x=>Below W.heap.size W x/\LR P mem aF b d cv x:=⟨_,rfl⟩;have lu:AA false W.drew:=by{rw[dC];exact⟨(Below.refl _ _).drew,K.kept (Below.refl _ _).drew⟩};have qU:∀{t:Bool}{x:World},AA t x->(Instr.loadAt 60 (.pointer (some ⟨P,0,none⟩))).run Try.prog x= .ok (.agg (mem.map bv).toArray) x:=fun h=>by{rw[dC]at h;exact xe h.2};have hAk:∀{t t':Bool}{x x':World},AA t x->Below x.heap.size x x'->AA t' x':=fun h hB=>by{rw[dC]at h ⊢;exact⟨h.1.trans (hB.mono h.1.size),h.2.kept hB⟩};have gI:∀{t:Bool}{x:World},AA t x->Below W.heap.size W x/\LR P mem aF b d cv x:=fun h=>by{rw[dC]at h;exact h};obtain⟨cs,hcs⟩:∃cs,(mem.map bv).toArray=cs:=⟨_,rfl⟩;rw[hcs]at qU;clear dC hcs K hb;go_enter Try.func62,Try.ntmps62;go_wp2_with fail;refine bZ 12 [8,9,10,11,12,13,14,15,16,17,18,19] 100 AA (fun j y _=>j≠7/\y=[.pointer (some ⟨P,0,none⟩), .pointer (some ⟨P,0,none⟩), .pointer (some ⟨P,0,none⟩), .pointer (some ⟨P,0,none⟩), .agg cs, .int .u32 a, .int .i64 o, .int .i64 (a+o), .int .u32 v,undef, .pointer (some ⟨P,0,none⟩), .pointer (some ⟨P,0,none⟩)].getD j undef) (by kernel_rfl) (by kernel_rfl) (by simp) lu ?_ ?_;{simp only[List.take_succ_cons,List.take_zero];refine⟨?_,?_,?_,?_,?_,?_,?_,?_,?_,?_,?_,?_,trivial⟩;(all_goals(intro t b x hA ht hm hfr hdf aS;replace hdf:=ae hdf));have e0:b.tmps[0]?.getD undef= .pointer (some ⟨P,0,none⟩):=aN (hfr 0 (by decide));rotate_left;have e0:b.tmps[0]?.getD undef= .pointer (some ⟨P,0,none⟩):=aN (hfr 0 (by decide));rotate_left;have e9:b.tmps[9]?.getD undef= .pointer (some ⟨P,0,none⟩):=by{simpa[Act.eval]using(aS 1 (by kernel_rfl)).2};rotate_left;have e10:b.tmps[10]?.getD undef= .pointer (some ⟨P,0,none⟩):=by{simpa[Act.eval]using(aS 2 (by kernel_rfl)).2};rotate_left;{have e11:b.tmps[11]?.getD undef= .pointer (some ⟨P,0,none⟩):=by{simpa[Act.eval]using(aS 3 (by kernel_rfl)).2};exact dW _ _ rfl _ _ (by simpa[Act.eval]using e11) (qU hA) ⟨_,rfl,bM hA,⟨by decide,rfl⟩,fun i z h=>h⟩};have e1:b.tmps[1]?.getD undef= .int .u32 a:=aN (hfr 1 (by decide));rotate_left;have e2:b.tmps[2]?.getD undef= .int .i64 o:=aN (hfr 2 (by decide));rotate_left;{have e13:b.tmps[13]?.getD undef= .int .u32 a:=by{simpa[Act.eval]using(aS 5 (by kernel_rfl)).2};have e14:b.tmps[14]?.getD undef= .int .i64 o:=by{simpa[Act.eval]using(aS 6 (by kernel_rfl)).2};unfold Oper.wp;generalize hK:(fun(b':Act) (x':World)=>∃y,_/\_)=K;simp only[execOp];go_simp;refine(hpl x).mono ?_;rintro e w' ⟨rfl,aQ⟩;subst w';exact⟨hdf.out,rfl,(gI hA).1⟩};have e3:b.tmps[3]?.getD undef= .int .u32 v:=aN (hfr 3 (by decide));rotate_left;{have e12:b.tmps[12]?.getD undef= .agg cs:=by{simpa[Act.eval]using(aS 4 (by kernel_rfl)).2};exact absurd rfl (aS 7 (by kernel_rfl)).1};have e8:b.tmps[8]?.getD undef= .pointer (some ⟨P,0,none⟩):=by{simpa[Act.eval]using(aS 0 (by kernel_rfl)).2};rotate_left;have e18:b.tmps[18]?.getD undef= .pointer (some ⟨P,0,none⟩):=by{simpa[Act.eval]using(aS 10 (by kernel_rfl)).2};rotate_left;all_goals(unfold Oper.wp;generalize hK:(fun(b':Act) (x':World)=>∃y,_/\_)=K;simp only[execOp];go_simp;rw[←hK];exact⟨_,rfl,bM hA,⟨by decide,rfl⟩,fun i z h=>h⟩)};intro b x hA hF hb;exact absurd rfl (hF 7 (by decide)).1
end
def XB (bx:List Int)(P:Nat)(lv:Value)(nx:Int)(gv:Bool)(vv:Int):List Value:=bx.map wv++[.pointer (some ⟨P,0,none⟩),lv, .int .i64 nx, .bool gv, .int .u32 vv]
section
variable {bx : List Int} {P : Nat} {lv : Value} {nx : Int} {gv : Bool} {vv : Int} {C : Nat} {W W' : World}
theorem l8 (hl:bx.length=40)(i:Nat):(XB bx P lv nx gv vv)[40+i]?=[.pointer (some ⟨P,0,none⟩),lv, .int .i64 nx, .bool gv, .int .u32 vv][i]?:=by unfold XB;rw[List.getElem?_append_right (by rw[List.length_map,hl];omega),List.length_map,hl,Nat.add_sub_cancel_left]
theorem vW (hl:bx.length=40)(i:Nat)(v:Value):(XB bx P lv nx gv vv).set (40+i) v=bx.map wv++[.pointer (some ⟨P,0,none⟩),lv, .int .i64 nx, .bool gv, .int .u32 vv].set i v:=by unfold XB;rw[List.set_append_right _ _ (by rw[List.length_map,hl];omega),List.length_map,hl,Nat.add_sub_cancel_left]
theorem EZ (hl:bx.length=40){i:Nat}(hi:i<40):(XB bx P lv nx gv vv)[i]?=some (.int .u32 (bx.getD i 0)):=by unfold XB;rw[List.getElem?_append_left (by rw[List.length_map,hl];omega),List.getElem?_map,ag,ah (by omega)];rfl
theorem EL (hl:bx.length=40){i:Nat}(hi:i<40)(x:Int):(XB bx P lv nx gv vv).set i (.int .u32 x)=XB (bx.set i x) P lv nx gv vv:=by unfold XB;rw[List.set_append_left _ _ (by rw[List.length_map,hl];omega),List.map_set];rfl
structure XR (C:Nat)(bx:List Int)(P:Nat)(lv:Value)(nx:Int)(gv:Bool)(vv:Int)(W:World):Prop where
 arr:bS W C 99 (XB bx P lv nx gv vv)
 lb:bx.length=40
theorem XR.kept (h:XR C bx P lv nx gv vv W)(hB:Below W.heap.size W W'):XR C bx P lv nx gv vv W':=⟨h.arr.kept hB,h.lb⟩
theorem XR.fO {r:Nat}(h:XR C bx P lv nx gv vv W)(hg:W.grownBy W' (some r))(hne:C≠r):XR C bx P lv nx gv vv W':=⟨(hg.block C h.arr.lt (by simpa using hne)).trans h.arr,h.lb⟩
theorem XR.row (h:XR C bx P lv nx gv vv W){i:Nat}(hi:i<40):W.cell? ⟨C,i,none⟩=some (.int .u32 (bx.getD i 0)):=h.arr.cell (EZ h.lb hi)
theorem XR.all (h:XR C bx P lv nx gv vv W):W.cell? ⟨C,40,none⟩=some (.pointer (some ⟨P,0,none⟩)):=h.arr.cell (l8 h.lb 0)
theorem XR.lines (h:XR C bx P lv nx gv vv W):W.cell? ⟨C,41,none⟩=some lv:=h.arr.cell (l8 h.lb 1)
theorem XR.next (h:XR C bx P lv nx gv vv W):W.cell? ⟨C,42,none⟩=some (.int .i64 nx):=h.arr.cell (l8 h.lb 2)
theorem XR.given (h:XR C bx P lv nx gv vv W):W.cell? ⟨C,43,none⟩=some (.bool gv):=h.arr.cell (l8 h.lb 3)
theorem XR.value (h:XR C bx P lv nx gv vv W):W.cell? ⟨C,44,none⟩=some (.int .u32 vv):=h.arr.cell (l8 h.lb 4)
theorem XR.put (h:XR C bx P lv nx gv vv W){i:Nat}(hi:i<40)(x:Int):XR C (bx.set i x) P lv nx gv vv (W.setCell ⟨C,i,none⟩ (.int .u32 x)):=⟨by rw[←EL h.lb hi x];exact h.arr.set i _,by rw[List.length_set];exact h.lb⟩
theorem XR.bO (h:XR C bx P lv nx gv vv W)(x:Int):XR C bx P lv x gv vv (W.setCell ⟨C,42,none⟩ (.int .i64 x)):=⟨by
 have:=h.arr.set 42 (.int .i64 x)
 rw[show(42:Nat)=40+2 from rfl,vW h.lb]at this
 exact this,h.lb⟩
theorem XR.ib (h:XR C bx P lv nx gv vv W)(x:Bool):XR C bx P lv nx x vv (W.setCell ⟨C,43,none⟩ (.bool x)):=⟨by
 have:=h.arr.set 43 (.bool x)
 rw[show(43:Nat)=40+3 from rfl,vW h.lb]at this
 exact this,h.lb⟩
theorem XR.setValue (h:XR C bx P lv nx gv vv W)(x:Int):XR C bx P lv nx gv x (W.setCell ⟨C,44,none⟩ (.int .u32 x)):=⟨by
 have:=h.arr.set 44 (.int .u32 x)
 rw[show(44:Nat)=40+4 from rfl,vW h.lb]at this
 exact this,h.lb⟩
theorem dZ (h:XR C bx P lv nx gv vv W){i:Nat}(hi:i<40):Calls Try.prog 58 #[.pointer (some ⟨C,0,none⟩), .int .i64 (i:Int)] W fun e w'=>e= .returned (.int .u32 (bx.getD i 0))/\w'=W:=by have c0:=h.row hi;obtain⟨v,hv⟩:∃v,bx.getD i 0=v:=⟨_,rfl⟩;rw[hv]at c0 ⊢;have VF:(i:Int)<40:=by{omega};clear h hv;go_enter Try.func58,Try.ntmps58;go_wp2;go_ret;exact⟨rfl,rfl⟩
theorem iA (h:XR C bx P lv nx gv vv W){i:Nat}(hi:i<40)(x:Int):Calls Try.prog 57 #[.pointer (some ⟨C,0,none⟩), .int .i64 (i:Int), .int .u32 x] W fun e w'=>e= .returned (.tuple #[])/\w'=W.setCell ⟨C,i,none⟩ (.int .u32 x):=by have c0:=h.row hi;have f0:=h.arr.frozen i;have VF:(i:Int)<40:=by{omega};clear h;go_enter Try.func57,Try.ntmps57;go_wp2;(try simp only[Exit.inBlock,Exit.then]);exact bodyPost_end (results_none rfl _ _ _) rfl ⟨rfl,rfl⟩
theorem lT (h:XR C bx P lv nx gv vv W)(a:Option Addr)(n cap:Nat)(l:List Int)(hn:n<=3)(hl:IL W a n l)(hin:∀y∈l,0<=y/\y<=39):Calls Try.prog 60 #[.pointer (some ⟨C,0,none⟩), .slice a n cap] W fun e w'=>∃g c,e= .returned (.slice (some ⟨g,0,none⟩) n c)/\w'.ownsRow W.heap.size 70 1 (.slice (some ⟨g,0,none⟩) n c) n ((l.map (Rl.bx bx)).map wv)/\Below W.heap.size W w':=by obtain⟨i0,hi,hz0,hz1,hz2⟩:=info_parts oh;obtain⟨wm,hmk,hown,hgrow⟩:=run_make_own (P:=Try.prog) W W.heap.size 72 70 i0 _ 1 Try.underlying72 hi hz0 hz1 .i64 .i64 n (by rw[hz2];omega) (by simp only[maxLen];omega) (Nat.le_refl _);have HB0:=ae (gq hgrow);have DX:=ae hown;have hll:=hl.1;have HL:=ae hll;have Qq:=ae hin;have HX:=ae h;have iR:=ae hl;clear hown hgrow hll hin h hl;go_enter Try.func60,Try.ntmps60;go_wp2;go_loopw [5,13] (fun vs vi wr=>∃k g c:Nat,vs= .slice (some ⟨g,0,none⟩) k c/\vi= .int .i64 (k:Int)/\k<=n/\wr.ownsRow W.heap.size 70 1 (.slice (some ⟨g,0,none⟩) k c) k (((l.take k).map (Rl.bx bx)).map wv)/\Below W.heap.size W wr) (fun _ i _=>n-(intOf i).toNat);(case atStart=>exact⟨0,_,n,rfl,rfl,Nat.zero_le _,DX.out,HB0.out⟩);case round=>obtain⟨k,g,c,rfl,rfl,hk,hrow,hB⟩:=hrel;clear hmk DX HB0;by_cases hlt:k<n;{have gz:(k:Int)<(n:Int):=by{omega};obtain⟨y,hy⟩:∃y,l.getD k 0=y:=⟨_,rfl⟩;have hkl:k<l.length:=by{rw[HL.out];exact hlt};have hyl:y∈l:=by{rw[←hy,ag,ah hkl];exact List.getElem_mem hkl};have hy39:=Qq.out y hyl;obtain⟨yn,rfl⟩:∃yn:Nat,y=(yn:Int):=⟨y.toNat,by omega⟩;have hyn:yn<40:=by{omega};have Qv:(yn:Int)<40:=by{omega};obtain⟨-,-,h0|⟨bb,bo,rfl,hbb,kV⟩⟩:=iR.out.kept hB;{omega};have zl:=kV k hlt;rw[hy]at zl;have tb:=(HX.out.kept hB).row hyn;obtain⟨v,hv⟩:∃v,bx.getD yn 0=v:=⟨_,rfl⟩;rw[hv]at tb;have HN:Hid ((l.take (k+1)).map (Rl.bx bx)=(l.take k).map (Rl.bx bx)++[v]):=by{show _=_;rw[←List.take_append_getElem hkl,List.map_append];congr 1;have e1:l[k]=(yn:Int):=by{rw[ag,ah hkl]at hy;exact hy};rw[e1,←hv];rfl};have hal:=aB wr (.cells #[.int .u32 v] 70);have Qw:=ae (aX hrow hal);have Qx:=ae (hB.trans (hal.mono hB.size));have hgl:=hrow.lt g rfl;have hsz:=hB.size;clear kV hy hyl hy39 hv hal hrow hB hbb;go_wp2_with(at_builtin;refine wpList_append_own _ rfl _ _ 72 rfl W.heap.size 70 i0 (.int .u32 0) 1 4 Try.underlying72 hi hz0 hz1 hz2 rfl (by decide) _ _ _ rfl Qw.out ⟨wr.heap.size,0,none⟩ 1 1 [.int .u32 v] rfl rfl (lZ _ _ _ _ rfl) (by simp[Value.oneCell']) (by simp only[maxLen];omega) (by omega) (by simp;omega) ?_;intro v' wA hown' hgrow KN;have HF:=ae (aj hown' (aj hgrow KN));clear hown' hgrow KN);rcases HF.out.1.2 with⟨rfl,h0⟩|⟨g',cap',cur,rfl,_⟩;{exact absurd (HF.out.2.2.1 rfl).1 (fun h=>by cases h)};go_roundw;(case rel=>refine⟨k+1,g',cap',rfl,by congr 1,by omega,?_,aG Qx.out HF.out.2.1 hgl.1⟩;rw[HN.out,List.map_append];exact HF.out.1);case measure=>simp[intOf];omega};obtain rfl:n=k:=by{omega};have gz:¬((n:Int)<(n:Int)):=by{omega};have e:l.take n=l:=List.take_of_length_le (by have:=HL.out;omega);rw[e]at hrow;have HR:=ae (aj hrow hB);clear hrow hB;go_wp2;go_ret;exact⟨g,c,rfl,by have:=HR.out.1;rwa [List.map_map]at this,HR.out.2⟩
end
structure XC where
 P:Nat
 aF:Nat
 cb:Nat
 cc:Nat
 cs:List (List Ln)
def XC.cv (c:XC):Value:= .slice (some ⟨c.cb,0,none⟩) c.cs.length c.cc
def Au (P:Nat)(W0:World)(g:Nat)(ls:List Ln):Prop:=∀j,j<ls.length->∃la ln lc,∀W,fA P W0 W->W.cell? ⟨g,j,none⟩=some (aY (ls.getD j .z) (.slice la ln lc))/\IL W la ln (ls.getD j .z).l
structure uN (c:XC)(W0:World):Prop where
 codes:∀k,k<c.cs.length->∃g cc,(∀W,fA c.P W0 W->W.cell? ⟨c.cb,k,none⟩=some (.slice (some ⟨g,0,none⟩) (c.cs.getD k []).length cc))/\Au c.P W0 g (c.cs.getD k [])
 val:Rl.yA c.cs
 fl:c.aF<=200000
structure XQ where
 w:World
 k:Nat
 d:Nat
 C:Nat
 g:Nat
 lc:Nat
def XQ.lv (q:XQ)(c:XC):Value:= .slice (some ⟨q.g,0,none⟩) (c.cs.getD q.k []).length q.lc
structure jW (c:XC)(W0:World)(q:XQ):Prop where
 tab:uN c W0
 lt:q.k<c.cs.length
 dp:q.d<12
 bV:fA c.P W0 q.w
 code:Au c.P W0 q.g (c.cs.getD q.k [])
 Ox:c.P<q.w.heap.size
 Oy:q.w.heap.size<=q.C
structure XM (c:XC)(q:XQ)(nx:Int)(gv:Bool)(vv:Int)(bx mem:List Int)(b:Int)(W:World):Prop where
 lr:LR c.P mem c.aF b ((q.d+1:Nat):Int) c.cv W
 xr:XR q.C bx c.P (q.lv c) nx gv vv W
 bV:fA c.P q.w W
section
variable {c : XC} {W0 : World} {q : XQ} {nx : Int} {gv : Bool} {vv : Int} {bx mem : List Int} {b : Int} {W W' : World}
theorem XM.kept (h:XM c q nx gv vv bx mem b W)(hB:Below W.heap.size W W'):XM c q nx gv vv bx mem b W':=⟨h.lr.kept hB,h.xr.kept hB,h.bV.trans (fA.below hB)⟩
theorem LR.fO {P:Nat}{mem:List Int}{aF b d:Int}{cv:Value}{W W':World}{r:Nat}(h:LR P mem aF b d cv W)(hg:W.grownBy W' (some r))(hne:P≠r):LR P mem aF b d cv W':=⟨(hg.block P h.pb.lt (by simpa using hne)).trans h.pb,h.ml⟩
theorem XM.own (Q:jW c W0 q)(h:XM c q nx gv vv bx mem b W){nx':Int}{TT:Bool}{TU:Int}{bx':List Int}(hg:W.grownBy W' (some q.C))(hx:XR q.C bx' c.P (q.lv c) nx' TT TU W'):XM c q nx' TT TU bx' mem b W':=by have h1:=Q.Ox;have h2:=Q.Oy;exact⟨h.lr.fO hg (by omega),hx,h.bV.grow hg (fun r e=>by cases e;exact .inl h2)⟩
theorem XM.put (Q:jW c W0 q)(h:XM c q nx gv vv bx mem b W){i:Nat}(hi:i<40)(x:Int):XM c q nx gv vv (bx.set i x) mem b (W.setCell ⟨q.C,i,none⟩ (.int .u32 x)):=h.own Q (aC W ⟨q.C,i,none⟩ _) (h.xr.put hi x)
theorem XM.bO (Q:jW c W0 q)(h:XM c q nx gv vv bx mem b W)(x:Int):XM c q x gv vv bx mem b (W.setCell ⟨q.C,42,none⟩ (.int .i64 x)):=h.own Q (aC W ⟨q.C,42,none⟩ _) (h.xr.bO x)
theorem XM.ib (Q:jW c W0 q)(h:XM c q nx gv vv bx mem b W)(x:Bool):XM c q nx x vv bx mem b (W.setCell ⟨q.C,43,none⟩ (.bool x)):=h.own Q (aC W ⟨q.C,43,none⟩ _) (h.xr.ib x)
theorem XM.setValue (Q:jW c W0 q)(h:XM c q nx gv vv bx mem b W)(x:Int):XM c q nx gv x bx mem b (W.setCell ⟨q.C,44,none⟩ (.int .u32 x)):=h.own Q (aC W ⟨q.C,44,none⟩ _) (h.xr.setValue x)
theorem XM.EB (Q:jW c W0 q)(h:XM c q nx gv vv bx mem b W){gL:List Int}{b':Int}(hg:W.grownBy W' (some c.P))(hl:LR c.P gL c.aF b' ((q.d+1:Nat):Int) c.cv W'):XM c q nx gv vv bx gL b' W':=by have h1:=Q.Ox;have h2:=Q.Oy;exact⟨hl,h.xr.fO hg (by omega),h.bV.grow hg (fun r e=>by cases e;exact .inr rfl)⟩
theorem XM.call (Q:jW c W0 q)(h:XM c q nx gv vv bx mem b W){gL:List Int}{b':Int}(ha:fA c.P W W')(hl:LR c.P gL c.aF b' ((q.d+1:Nat):Int) c.cv W'):XM c q nx gv vv bx gL b' W':=by have h1:=Q.Ox;have h2:=Q.Oy;exact⟨hl,⟨(ha.blk q.C h.xr.arr.lt (by omega)).trans h.xr.arr,h.xr.lb⟩,h.bV.trans ha⟩
end
structure XI (c:XC)(q:XQ)(R:Mn.Rs)(at':Nat)(bx mem:List Int)(n:Nat)(W:World):Prop where
 nb:n<=c.aF
 m:XM c q at' false 0 bx mem ((c.aF:Int)-n) W
 good:Rl.Good c.cs q.k at' bx mem
 run:Rl.run c.cs (n+1) n q.d q.k at' bx mem=R
structure XF (c:XC)(q:XQ)(R:Mn.Rs)(v:Int)(mem:List Int)(n:Nat)(W:World):Prop where
 nb:n<=c.aF
 m:∃nx bx,XM c q nx true v bx mem ((c.aF:Int)-n) W
 run:R= .done v mem n
structure XX (c:XC)(w0:World)(R:Mn.Rs)(cd:Int)(W:World):Prop where
 bV:fA c.P w0 W
 box:∃mem n d,R= .stop cd mem n/\n<=c.aF/\LR c.P mem c.aF ((c.aF:Int)-n) d c.cv W
def XP (c:XC)(q:XQ)(R:Mn.Rs)(n:Nat)(e:Ending)(W:World):Prop:=
 (e= .returned (.tuple #[])/\∃at' bx mem m,m<=n/\XI c q R at' bx mem m W)\/(e= .returned (.tuple #[])/\∃v mem m,m<=n/\XF c q R v mem m W)\/∃cd,e=ig cd/\XX c q.w R cd W
structure XJ (c:XC)(q:XQ)(R:Mn.Rs)(at':Nat)(bx mem:List Int)(n:Nat)(W:World):Prop where
 nb:n+1<=c.aF
 m:XM c q at' false 0 bx mem ((c.aF:Int)-n) W
 good:Rl.Good c.cs q.k at' bx mem
 run:Rl.run c.cs (n+2) (n+1) q.d q.k at' bx mem=R
section
variable {c : XC} {W0 : World} {q : XQ} {R : Mn.Rs} {at' : Nat} {bx mem : List Int} {n : Nat} {W W' : World}
theorem XJ.next (Q:jW c W0 q)(h:XJ c q R at' bx mem n W){a2:Nat}{b2 m2:List Int}(hs:Rl.aT c.cs q.k at' bx mem= .next a2 b2 m2)(hm:XM c q a2 false 0 b2 m2 ((c.aF:Int)-n) W'):XP c q R n (.returned (.tuple #[])) W':=by have F:=Rl.dm Q.tab.val Q.lt h.good;rw[hs]at F;exact .inl ⟨rfl,a2,b2,m2,n,Nat.le_refl _,by have:=h.nb;omega,hm,F,by rw[←h.run,Rl.dh hs]⟩
theorem XJ.nC (h:XJ c q R at' bx mem n W){v:Int}(hs:Rl.aT c.cs q.k at' bx mem= .nC v){nx:Int}{b2:List Int}(hm:XM c q nx true v b2 mem ((c.aF:Int)-n) W'):XP c q R n (.returned (.tuple #[])) W':=
 .inr (.inl ⟨rfl,v,mem,n,Nat.le_refl _,by have:=h.nb;omega,⟨nx,b2,hm⟩,by rw[←h.run,Rl.gV hs]⟩)
theorem XJ.halt (h:XJ c q R at' bx mem n W){cd:Int}(hs:Rl.aT c.cs q.k at' bx mem= .halt cd){nx:Int}{gv:Bool}{vv:Int}{b2:List Int}(hm:XM c q nx gv vv b2 mem ((c.aF:Int)-n) W'):XP c q R n (ig cd) W':=
 .inr (.inr ⟨cd,rfl,hm.bV,mem,n,_,by rw[←h.run,Rl.run_halt hs],by have:=h.nb;omega,hm.lr⟩)
end
def XG (c:XC)(w:World)(R:Mn.Rs)(d:Int)(e:Ending)(W:World):Prop:=
 (∃v m l,R= .done v m l/\e= .returned (.int .u32 v)/\fA c.P w W/\l<=c.aF/\LR c.P m c.aF ((c.aF:Int)-l) d c.cv W)\/∃cd,e=ig cd/\XX c w R cd W
def mE (cs:List (List Ln))(n d k:Nat)(args mem:List Int):Mn.Rs:=if 12<=d then .stop 6 mem n else Rl.run cs (n+1) n d k 0 (Rl.jG args) mem
def rG (c:XC)(W0:World)(n:Nat):Prop:=
 ∀ (w:World) (k d:Nat) (mem args:List Int) (va:Value) (ba:Nat),fA c.P W0 w->k<c.cs.length->d<=12->Mm.ok mem=true->Mn.words args->args.length<=3->w.ownsRow ba 70 1 va args.length (args.map wv)->n<=c.aF->LR c.P mem c.aF ((c.aF:Int)-n) (d:Int) c.cv w->
   Calls Try.prog 30 #[.pointer (some ⟨c.P,0,none⟩), .int .i64 k,va] w (XG c w (mE c.cs n d k args mem) d)
structure RC where
 B:Nat
 M:Nat
 Mc:Nat
 cb:Nat
 co:Nat
 Cc:Nat
 cs:List (List Ln)
def RC.bU (c:RC)(aF code:Int):List Value:=
 [.slice (some ⟨c.cb,c.co,none⟩) c.cs.length c.Cc, .slice (some ⟨c.M,0,none⟩) 64 c.Mc, .int .i64 aF, .int .i64 code]
structure jF (c:RC)(W0 W:World):Prop where
 os:W.os=W0.os
 tape:W.tape=W0.tape
 out:W.output=W0.output
 size:W0.heap.size<=W.heap.size
 blk:∀i,i<W0.heap.size->i≠c.B->i≠c.M->W.heap[i]?=W0.heap[i]?
theorem jF.refl (c:RC)(W:World):jF c W W:=⟨rfl,rfl,rfl,Nat.le_refl _,fun _ _ _ _=>rfl⟩
theorem jF.trans {c:RC}{W0 W1 W2:World}(h:jF c W0 W1)(k:jF c W1 W2):jF c W0 W2:=
 ⟨k.os.trans h.os,k.tape.trans h.tape,k.out.trans h.out,Nat.le_trans h.size k.size,fun i hi h1 h2=>(k.blk i (ai hi h.size) h1 h2).trans (h.blk i hi h1 h2)⟩
theorem jF.below {c:RC}{W W':World}(h:Below W.heap.size W W'):jF c W W':=⟨h.os,h.tape,h.output,h.size,fun i hi _ _=>h.block i hi⟩
theorem jF.grow {c:RC}{W0 W W':World}{r:Nat}(h:jF c W0 W)(hg:W.grownBy W' (some r))(hr:W0.heap.size<=r\/r=c.B\/r=c.M):jF c W0 W':=
 ⟨hg.os.trans h.os,hg.tape.trans h.tape,hg.output.trans h.out,Nat.le_trans h.size hg.size,fun i hi h1 h2=>(hg.block i (ai hi h.size) (by
   simp only[ne_eq,af]
   rcases hr with hr|rfl|rfl
   · omega
   · exact h1
   · exact h2)).trans (h.blk i hi h1 h2)⟩
def JZ (W:World)(b off:Nat)(cs:List (List Ln)):Prop:=∀k,k<cs.length->∃a m c,W.cell? ⟨b,off+k,none⟩=some (.slice a m c)/\LL W a m (cs.getD k [])
theorem JZ.kept {W W':World}{b off:Nat}{cs:List (List Ln)}(h:JZ W b off cs)(hB:Below W.heap.size W W'):JZ W' b off cs:=fun k hk=>by
 obtain⟨a,m,c,h1,h2⟩:=h k hk
 exact⟨a,m,c,(hB.cell (p:=⟨b,off+k,none⟩) (World.block_lt_of_cell? _ _ h1)).trans h1,h2.kept hB⟩
structure JE (c:RC)(W0:World):Prop where
 ls:∀W,jF c W0 W->JZ W c.cb c.co c.cs
 val:Rl.yA c.cs
 ne:c.B≠c.M
 VG:c.cb<W0.heap.size/\c.cb≠c.B/\c.cb≠c.M
structure RK (c:RC)(W0 W:World)(mem:List Int)(aF code:Int):Prop where
 bV:jF c W0 W
 box:bC W c.B (c.bU aF code)
 row:W.ownsRow 0 2 1 (.slice (some ⟨c.M,0,none⟩) 64 c.Mc) 64 (mem.map iv)
theorem RK.kept {c:RC}{W0 W W':World}{mem:List Int}{aF code:Int}(h:RK c W0 W mem aF code)(hB:Below W.heap.size W W'):RK c W0 W' mem aF code:=
 ⟨h.bV.trans (jF.below hB),h.box.kept hB,h.row.kept (row:=none) ⟨hB.os,hB.tape,hB.output,hB.size,fun k hk _=>hB.block k hk⟩ (.inr (by simp[Value.ownBlock]))⟩
theorem RK.fO {c:RC}{W0 W W':World}{mem:List Int}{aF code:Int}{r:Nat}(h:RK c W0 W mem aF code)(hg:W.grownBy W' (some r))(hr:W0.heap.size<=r)(h1:r≠c.B)(h2:r≠c.M):RK c W0 W' mem aF code:=
 ⟨h.bV.grow hg (.inl hr),h.box.fO hg (by simpa using h1),h.row.kept hg (.inr (by simpa[Value.ownBlock]using Ne.symm h2))⟩
theorem RK.set {c:RC}{W0 W:World}{mem:List Int}{aF code:Int}(T:JE c W0)(h:RK c W0 W mem aF code)(x:Int):RK c W0 (W.setCell ⟨c.B,2,none⟩ (.int .i64 x)) mem x code/\RK c W0 (W.setCell ⟨c.B,3,none⟩ (.int .i64 x)) mem aF x:=by
 have hr:∀o v,(W.setCell ⟨c.B,o,none⟩ v).ownsRow 0 2 1 (.slice (some ⟨c.M,0,none⟩) 64 c.Mc) 64 (mem.map iv):=fun o v=>
  h.row.kept (row:=some c.B) (aC W ⟨c.B,o,none⟩ v) (.inr (by simpa[Value.ownBlock]using Ne.symm T.ne))
 have ha:∀o v,jF c W0 (W.setCell ⟨c.B,o,none⟩ v):=fun o v=>h.bV.grow (aC W ⟨c.B,o,none⟩ v) (.inr (.inl rfl))
 exact⟨⟨ha _ _,h.box.set 2 _,hr _ _⟩,⟨ha _ _,h.box.set 3 _,hr _ _⟩⟩
structure RQ where
 w:World
 k:Nat
 d:Nat
 gb:Nat
 gc:Nat
 lb:Nat
 lo:Nat
 ln:Nat
 lc:Nat
 R:Mn.Rs
structure nN (c:RC)(W0:World)(q:RQ):Prop where
 tab:JE c W0
 lt:q.k<c.cs.length
 dp:q.d<12
 bV:jF c W0 q.w
 lines:∀W,jF c W0 W->LL W (some ⟨q.lb,q.lo,none⟩) q.ln (c.cs.getD q.k [])
 bL:c.B<q.w.heap.size
 uj:c.M<q.w.heap.size
structure RM (c:RC)(W0:World)(q:RQ)(bx mem:List Int)(n:Nat)(wr:World):Prop where
 wk:RK c W0 wr mem n 0
 br:wr.ownsRow q.w.heap.size 2 1 (.slice (some ⟨q.gb,0,none⟩) 40 q.gc) 40 (bx.map iv)
 bV:jF c q.w wr
structure RI (c:RC)(W0:World)(q:RQ)(at':Nat)(bx mem:List Int)(n:Nat)(wr:World):Prop where
 nb:n<=200000
 m:RM c W0 q bx mem n wr
 good:Rl.Good c.cs q.k at' bx mem
 run:Rl.run c.cs (n+1) n q.d q.k at' bx mem=q.R
section
variable {c : RC} {W0 : World} {q : RQ} {at' : Nat} {bx mem : List Int} {n m : Nat} {W W' wr : World}
theorem RM.kept (h:RM c W0 q bx mem n W)(hB:Below W.heap.size W W'):RM c W0 q bx mem n W':=
 ⟨h.wk.kept hB,aX h.br hB,h.bV.trans (jF.below hB)⟩
theorem RM.gb (h:RM c W0 q bx mem n W):q.w.heap.size<=q.gb/\q.gb<W.heap.size:=h.br.lt q.gb rfl
theorem RM.aF (Q:nN c W0 q)(h:RM c W0 q bx mem n W)(m:Nat):RM c W0 q bx mem m (W.setCell ⟨c.B,2,none⟩ (.int .i64 (m:Int))):=by have h4:=h.gb;have iB:=Q.bL;have hg:=aC W ⟨c.B,2,none⟩ (.int .i64 (m:Int));exact⟨(h.wk.set Q.tab (m:Int)).1,h.br.kept hg (.inr (by simp only[Value.ownBlock,ne_eq,af];omega)),h.bV.grow hg (.inr (.inl rfl))⟩
theorem RM.jb (Q:nN c W0 q)(h:RM c W0 q bx mem n W)(i:Nat)(x:Int):RM c W0 q (bx.set i x) mem n (W.setCell ⟨q.gb,i,none⟩ (.int .i64 x)):=by have h4:=h.gb;have iB:=Q.bL;have iM:=Q.uj;have s0:=Q.bV.size;have hg:W.grownBy (W.setCell ⟨q.gb,i,none⟩ (.int .i64 x)) (some q.gb):=aC W ⟨q.gb,i,none⟩ (.int .i64 x);have hst:=(h.br.stored i (.int .i64 x)).1;rw[←eP]at hst;exact⟨h.wk.fO hg (by omega) (by omega) (by omega),hst,h.bV.grow hg (.inl (by omega))⟩
theorem RM.gL (Q:nN c W0 q)(h:RM c W0 q bx mem n W){gL:List Int}(hg:W.grownBy W' (some c.M))(hr:W'.ownsRow 0 2 1 (.slice (some ⟨c.M,0,none⟩) 64 c.Mc) 64 (gL.map iv)):RM c W0 q bx gL n W':=by have h4:=h.gb;have iM:=Q.uj;exact⟨⟨h.wk.bV.grow hg (.inr (.inr rfl)),h.wk.box.fO hg (by simpa using Ne.symm Q.tab.ne),hr⟩,h.br.kept hg (.inr (by simp only[Value.ownBlock,ne_eq,af];omega)),h.bV.grow hg (.inr (.inr rfl))⟩
theorem RI.next (Q:nN c W0 q)(h:RI c W0 q at' bx mem (m+1) wr){a2:Nat}{b2 m2:List Int}(hs:Rl.aT c.cs q.k at' bx mem= .next a2 b2 m2):Rl.Good c.cs q.k a2 b2 m2/\Rl.run c.cs (m+1) m q.d q.k a2 b2 m2=q.R:=by have F:=Rl.dm Q.tab.val Q.lt h.good;rw[hs]at F;exact⟨F,by rw[←h.run,Rl.dh hs]⟩
theorem RI.nC (h:RI c W0 q at' bx mem (m+1) wr){v:Int}(hs:Rl.aT c.cs q.k at' bx mem= .nC v):q.R= .done v mem m:=by rw[←h.run,Rl.gV hs]
theorem RI.halt (h:RI c W0 q at' bx mem (m+1) wr){e:Int}(hs:Rl.aT c.cs q.k at' bx mem= .halt e):q.R= .stop e mem m:=by rw[←h.run,Rl.run_halt hs]
theorem RM.box (h:RM c W0 q bx mem n W)(hl:bx.length=40){j:Nat}(hj:j<40):W.cell? ⟨q.gb,j,none⟩=some (.int .i64 (bx.getD j 0)):=wZ h.br hl hj
theorem nN.line (Q:nN c W0 q)(hA:jF c W0 W)(hl:at'<(c.cs.getD q.k []).length):at'<q.ln/\q.lb<W.heap.size/\LC W q.lb (q.lo+at'*6) (Rl.line c.cs q.k at'):=by obtain⟨h1,h2,h3|⟨b,o,e,hb,hx⟩⟩:=Q.lines W hA;{omega};simp only[af,Addr.mk.injEq,and_true]at e;obtain⟨e1,e2⟩:=e;subst e1 e2;exact⟨by omega,hb,hx at' (by omega)⟩
end
def Rl.gD (cs:List (List Ln))(n d k:Nat)(args mem:List Int):Mn.Rs:=if 12<=d then .stop 6 mem n else Rl.run cs (n+1) n d k 0 (Rl.jG args) mem
def wS (c:RC)(W0:World)(n:Nat):Prop:=
 ∀ (w:World) (k d:Nat) (mem args:List Int) (a:Option Addr) (cap:Nat),RK c W0 w mem n 0->c.B<w.heap.size->c.M<w.heap.size->k<c.cs.length->d<=12->Mm.ok mem=true->Mn.words args->args.length<=3->IL w a args.length args->n<=200000->
   Calls Try.prog 22 #[.pointer (some ⟨c.B,0,none⟩), .int .i64 k, .slice a args.length cap, .int .i64 d] w fun e w'=>e= .returned (.int .i64 (Rl.gD c.cs n d k args mem).value)/\RK c W0 w' (Rl.gD c.cs n d k args mem).mem (Rl.gD c.cs n d k args mem).left (Rl.gD c.cs n d k args mem).code/\jF c w w'
def gy (c:RC)(W0:World)(q:RQ)(aM:Nat)(bx mem:List Int)(m:Nat)(wr:World):Prop:=
 ∀(K:Act->World->Prop)(c2 c4 c5 c6 c7 c18 c19 c20 c21 Oz c23 c24 OA OB OC c28 OD OE c31 c32 OH c34 OJ:Value)(Qy Qz QA QB u16 QC u36 u37 u38 QD u40 QE u42 QF u44 u45 u46 QG u48 u49 QH u51 QI u53 QJ u55 QK QL u58 u59 u60 QM QN u63 u64 QO u66 QP u68 u69 u70 QQ u72 u73 QR u75 QS QT QU QV QW QX QY QZ Q0 Q3 Q4 Q5 Q6 Q7 Q8 Q9 Ra u93 Rb Rc Re Rf Rh Ri Fz FB FC FD FE u105 FH FI FJ FK FM FN FO FP FQ FR FT FU FV u119 FW FY FZ F6 u124 F7 F8 u127 F9 Ga Gb u131 Gc Gd Gf Gg Gh Gi u138 u139 Gj Gl Gm Gn Gp Gq Gr Gs Gt Gu Gv Gw u152 Gx u154 Gy Gz GA GD GG GH GI u162 GJ u164 GK GL GM GN GQ GR GU GV GX GY GZ G5 G6 G7 G8 G9 Ha Hd He Hf Hl Hm Ho Hq Hr Ht Hu Hw u193 u194 Hy u196 Hz u198 H5 H6 u201 H7 H8 H9 Ia u206 Ib u208 Ic u210 Ie Ig Ih Ii Ij Ik Il Im Io Ip Iq Ir Iu Iw Iy Iz IA IB IE IG II IJ IK u234 IM u236 IP IQ IU IV IW IX IY IZ I4 I5 I6:Value),Hid (∀m',m'<=m->∀(at2:Nat)(bx' gL:List Int)(x':Int)(v12 v13 v14 v15 v16 v17 v36 v37 v38 v39 v40 v41 v42 v43 v44 v45 v46 v47 v48 v49 v50 v51 v52 v53 v54 v55 v56 v57 v58 v59 v60 v61 v62 v63 v64 v65 v66 v67 v68 v69 v70 v71 v72 v73 v74 v75 v76 v77 v78 v79 v80 v81 v82 v83 v84 v85 v86 v87 TV v89 TW v91 TY v93 TZ Ua Ub Uc Ud Ue KO KP KQ KR KS v105 KT v107 KU v109 KV KW KX KY KZ K3 K4 v117 K5 K6 K7 K8 K9 La v124 Lc Ld v127 Le Lf v130 v131 Lg Lh Li Lj Ll Lm v138 v139 Lp v141 Lr v143 Ls v145 v146 Lt v148 Lu Lx LA v152 LD v154 LF LG v157 LH v159 v160 LJ v162 LK v164 LM LP v167 v168 LQ LU v171 LV v173 LW v175 LY LZ L6 L8 L9 Ma v182 v183 Me Mf Mg Mh Mi Mj Mk Ml Mo v193 v194 Mq v196 Mr v198 Mt Mv v201 Mw v203 Mx MB v206 MC v208 ME v210 MF v212 MG MH MI MJ ML v218 MM MN MO v222 MP MQ MR v226 v227 v228 v229 MS MU v232 v233 v234 MV v236 MW MX MZ M0 M3 M4 M5 M6 M7 M8 M9:Value)(wF:World),RI c W0 q at2 bx' gL m' wF->x'=(at2:Int)->K ⟨#[.pointer (some ⟨c.B,0,none⟩), .int .i64 (q.k:Int),c2, .int .i64 (q.d:Int),c4,c5,c6,c7, .int .i64 0, .slice (some ⟨q.lb,q.lo,none⟩) q.ln q.lc, .slice (some ⟨q.gb,0,none⟩) 40 q.gc, .int .i64 x',v12,v13,v14,v15,v16,v17,c18,c19,c20,c21,Oz,c23,c24,OA,OB,OC,c28,OD,OE,c31,c32,OH,c34,OJ,v36,v37,v38,v39,v40,v41,v42,v43,v44,v45,v46,v47,v48,v49,v50,v51,v52,v53,v54,v55,v56,v57,v58,v59,v60,v61,v62,v63,v64,v65,v66,v67,v68,v69,v70,v71,v72,v73,v74,v75,v76,v77,v78,v79,v80,v81,v82,v83,v84,v85,v86,v87,TV,v89,TW,v91,TY,v93,TZ,Ua,Ub,Uc,Ud,Ue,KO,KP,KQ,KR,KS,v105,KT,v107,KU,v109,KV,KW,KX,KY,KZ,K3,K4,v117,K5,K6,K7,K8,K9,La,v124,Lc,Ld,v127,Le,Lf,v130,v131,Lg,Lh,Li,Lj,Ll,Lm,v138,v139,Lp,v141,Lr,v143,Ls,v145,v146,Lt,v148,Lu,Lx,LA,v152,LD,v154,LF,LG,v157,LH,v159,v160,LJ,v162,LK,v164,LM,LP,v167,v168,LQ,LU,v171,LV,v173,LW,v175,LY,LZ,L6,L8,L9,Ma,v182,v183,Me,Mf,Mg,Mh,Mi,Mj,Mk,Ml,Mo,v193,v194,Mq,v196,Mr,v198,Mt,Mv,v201,Mw,v203,Mx,MB,v206,MC,v208,ME,v210,MF,v212,MG,MH,MI,MJ,ML,v218,MM,MN,MO,v222,MP,MQ,MR,v226,v227,v228,v229,MS,MU,v232,v233,v234,MV,v236,MW,MX,MZ,M0,M3,M4,M5,M6,M7,M8,M9],[]⟩ wF)->Code.wp Try.prog ((Try.f22.body.bind dX).getD .skip) (Exit.then K (Exit.inBlock 0 (bodyPost Try.prog Try.f22 (fun e w'=>e= .returned (.int .i64 q.R.value)/\RK c W0 w' q.R.mem q.R.left q.R.code/\jF c q.w w')))) ⟨#[.pointer (some ⟨c.B,0,none⟩), .int .i64 (q.k:Int),c2, .int .i64 (q.d:Int),c4,c5,c6,c7, .int .i64 0, .slice (some ⟨q.lb,q.lo,none⟩) q.ln q.lc, .slice (some ⟨q.gb,0,none⟩) 40 q.gc, .int .i64 (aM:Int),Qy,Qz,QA,QB,u16,QC,c18,c19,c20,c21,Oz,c23,c24,OA,OB,OC,c28,OD,OE,c31,c32,OH,c34,OJ,u36,u37,u38,QD,u40,QE,u42,QF,u44,u45,u46,QG,u48,u49,QH,u51,QI,u53,QJ,u55,QK,QL,u58,u59,u60,QM,QN,u63,u64,QO,u66,QP,u68,u69,u70,QQ,u72,u73,QR,u75,QS,QT,QU,QV,QW,QX,QY,QZ,Q0,Q3,Q4,Q5,Q6,Q7,Q8,Q9,Ra,u93,Rb,Rc,Re,Rf,Rh,Ri,Fz,FB,FC,FD,FE,u105,FH,FI,FJ,FK,FM,FN,FO,FP,FQ,FR,FT,FU,FV,u119,FW,FY,FZ,F6,u124,F7,F8,u127,F9,Ga,Gb,u131,Gc,Gd,Gf,Gg,Gh,Gi,u138,u139,Gj,Gl,Gm,Gn,Gp,Gq,Gr,Gs,Gt,Gu,Gv,Gw,u152,Gx,u154,Gy,Gz,GA,GD,GG,GH,GI,u162,GJ,u164,GK,GL,GM,GN,GQ,GR,GU,GV,GX,GY,GZ,G5,G6,G7,G8,G9,Ha,Hd,He,Hf,Hl,Hm,Ho,Hq,Hr,Ht,Hu,Hw,u193,u194,Hy,u196,Hz,u198,H5,H6,u201,H7,H8,H9,Ia,u206,Ib,u208,Ic,u210,Ie,Ig,Ih,Ii,Ij,Ik,Il,Im,Io,Ip,Iq,Ir,Iu,Iw,Iy,Iz,IA,IB,IE,IG,II,IJ,IK,u234,IM,u236,IP,IQ,IU,IV,IW,IX,IY,IZ,I4,I5,I6],[]⟩ wr
def DC (c:RC)(W0:World)(q:RQ)(aM:Nat)(wr:World):Prop:=
 ∀(K:Act->World->Prop)(c2 c4 c5 c6 c7 c18 c19 c20 c21 Oz c23 c24 OA OB OC c28 OD OE c31 c32 OH c34 OJ:Value)(Qy Qz QA QB u16 QC u36 u37 u38 QD u40 QE u42 QF u44 u45 u46 QG u48 u49 QH u51 QI u53 QJ u55 QK QL u58 u59 u60 QM QN u63 u64 QO u66 QP u68 u69 u70 QQ u72 u73 QR u75 QS QT QU QV QW QX QY QZ Q0 Q3 Q4 Q5 Q6 Q7 Q8 Q9 Ra u93 Rb Rc Re Rf Rh Ri Fz FB FC FD FE u105 FH FI FJ FK FM FN FO FP FQ FR FT FU FV u119 FW FY FZ F6 u124 F7 F8 u127 F9 Ga Gb u131 Gc Gd Gf Gg Gh Gi u138 u139 Gj Gl Gm Gn Gp Gq Gr Gs Gt Gu Gv Gw u152 Gx u154 Gy Gz GA GD GG GH GI u162 GJ u164 GK GL GM GN GQ GR GU GV GX GY GZ G5 G6 G7 G8 G9 Ha Hd He Hf Hl Hm Ho Hq Hr Ht Hu Hw u193 u194 Hy u196 Hz u198 H5 H6 u201 H7 H8 H9 Ia u206 Ib u208 Ic u210 Ie Ig Ih Ii Ij Ik Il Im Io Ip Iq Ir Iu Iw Iy Iz IA IB IE IG II IJ IK u234 IM u236 IP IQ IU IV IW IX IY IZ I4 I5 I6:Value),Code.wp Try.prog ((Try.f22.body.bind dX).getD .skip) (Exit.then K (Exit.inBlock 0 (bodyPost Try.prog Try.f22 (fun e w'=>e= .returned (.int .i64 q.R.value)/\RK c W0 w' q.R.mem q.R.left q.R.code/\jF c q.w w')))) ⟨#[.pointer (some ⟨c.B,0,none⟩), .int .i64 (q.k:Int),c2, .int .i64 (q.d:Int),c4,c5,c6,c7, .int .i64 0, .slice (some ⟨q.lb,q.lo,none⟩) q.ln q.lc, .slice (some ⟨q.gb,0,none⟩) 40 q.gc, .int .i64 (aM:Int),Qy,Qz,QA,QB,u16,QC,c18,c19,c20,c21,Oz,c23,c24,OA,OB,OC,c28,OD,OE,c31,c32,OH,c34,OJ,u36,u37,u38,QD,u40,QE,u42,QF,u44,u45,u46,QG,u48,u49,QH,u51,QI,u53,QJ,u55,QK,QL,u58,u59,u60,QM,QN,u63,u64,QO,u66,QP,u68,u69,u70,QQ,u72,u73,QR,u75,QS,QT,QU,QV,QW,QX,QY,QZ,Q0,Q3,Q4,Q5,Q6,Q7,Q8,Q9,Ra,u93,Rb,Rc,Re,Rf,Rh,Ri,Fz,FB,FC,FD,FE,u105,FH,FI,FJ,FK,FM,FN,FO,FP,FQ,FR,FT,FU,FV,u119,FW,FY,FZ,F6,u124,F7,F8,u127,F9,Ga,Gb,u131,Gc,Gd,Gf,Gg,Gh,Gi,u138,u139,Gj,Gl,Gm,Gn,Gp,Gq,Gr,Gs,Gt,Gu,Gv,Gw,u152,Gx,u154,Gy,Gz,GA,GD,GG,GH,GI,u162,GJ,u164,GK,GL,GM,GN,GQ,GR,GU,GV,GX,GY,GZ,G5,G6,G7,G8,G9,Ha,Hd,He,Hf,Hl,Hm,Ho,Hq,Hr,Ht,Hu,Hw,u193,u194,Hy,u196,Hz,u198,H5,H6,u201,H7,H8,H9,Ia,u206,Ib,u208,Ic,u210,Ie,Ig,Ih,Ii,Ij,Ik,Il,Im,Io,Ip,Iq,Ir,Iu,Iw,Iy,Iz,IA,IB,IE,IG,II,IJ,IK,u234,IM,u236,IP,IQ,IU,IV,IW,IX,IY,IZ,I4,I5,I6],[]⟩ wr
theorem EJ {c:RC}{W0:World}{q:RQ}{aM:Nat}{bx mem:List Int}{wr:World}(Q:nN c W0 q)(di:Hid (RI c W0 q aM bx mem 0 wr)):DC c W0 q aM wr:=by unfold DC;intros;(conv=>arg 2;whnf);have Na:=di.out.m.wk;have b2:=(Na.box.2 2 _ rfl).1;have b3:=(Na.box.2 3 _ rfl).1;have Nb:=(Na.box.2 3 _ rfl).2;have HR:Hid (q.R= .stop 5 mem 0):=by{have:=di.out.run;rw[←this];rfl};have HW:=ae (aj (Na.set Q.tab 5).2 (di.out.m.bV.grow (aC wr ⟨c.B,3,none⟩ (.int .i64 5)) (.inr (.inl rfl))));clear Na;go_wp2;go_ret;rw[HR.out];exact⟨rfl,HW.out.1,HW.out.2⟩
namespace Lw
open Hg (arg)
def wd (f:Fn):Int:=f.a+f.l
def bx (f:Fn)(h:Int):Int:=wd f+h
def wR (f:Fn)(E H:List Int)(at':Nat)(dp:Int):Int×Int×Int:=
 if dp.toNat<(aO.jq f.b E at' at').length then
   let t:=((aO.jq f.b E at' at').getD dp.toNat (-1)).toNat
   if aO.op f.b t=9 then((t:Int)+1,0,0)else if aO.op f.b t=10 then(aO.aM E t,bx f (H.getD t 0-1),arg f.b t)else(aO.aM E t,bx f (H.getD t 0),arg f.b t)
 else((f.b.length:Int)-1,bx f 0,f.g)
def args (t:Int)(n:Int):List Int:=(List.range n.toNat).map fun(i:Nat)=>t-n+1+(i:Int)
def uQ (fs:List Fn)(f:Fn)(E O H:List Int)(at':Nat)(p a t:Int):List (Ln×Int):=
 if p=1 then[(⟨1,t+1,0,0,a,[]⟩,-1)]
 else if p=2 then[(⟨2,t+1,a,0,0,[]⟩,-1)]
 else if p=3\/p=4 then[(⟨2,a,t,0,0,[]⟩,-1)]
 else if p=5 then[(⟨3,t-1,t-1,t,a,[]⟩,-1)]
 else if p=6 then[(⟨4,t,t,0,0,[]⟩,-1)]
 else if p=10 then[(⟨4,t,t,0,0,[]⟩,-1),(⟨6,0,t,0,0,[]⟩,if 0<=aO.aM O at' then aO.aM O at'+1 else aO.aM E at')]
 else if p=11 then[(⟨5,0,0,0,0,[]⟩,aO.aM E at')]
 else if p=13\/p=15 then
   let L:=wR f E H at' (if p=15 then 99 else a)
   (if L.2.2=1/\L.2.1≠t then[(⟨2,L.2.1,t,0,0,[]⟩,-1)]else[])++[(⟨5,0,0,0,0,[]⟩,L.1)]
 else if p=14 then
   let L:=wR f E H at' a
   if L.2.2=1/\L.2.1≠t-1 then[(⟨4,t,t,0,0,[]⟩,-1),(⟨6,0,t,0,0,[]⟩,(at':Int)+1),(⟨2,L.2.1,t-1,0,0,[]⟩,-1),(⟨5,0,0,0,0,[]⟩,L.1)]
   else[(⟨6,0,t,0,0,[]⟩,L.1)]
 else if p=16 then
   let g:=fs.getD a.toNat .z
   [(⟨7,if g.g=1 then t-g.a+1 else wd f+20,0,0,a,args t g.a⟩,-1)]
 else if p=17 then[(⟨8,t,t,0,a,[]⟩,-1)]
 else if p=18 then[(⟨9,0,t-1,t,a,[]⟩,-1)]
 else if p=19 then[(⟨11,0,0,0,0,[]⟩,-1)]
 else[]
def step (fs:List Fn)(f:Fn)(E O H:List Int)(at':Nat):List (Ln×Int):=uQ fs f E O H at' (aO.op f.b at') (arg f.b at') (bx f (H.getD at' 0-1))
def first(f:Fn):List (Ln×Int):=(List.range f.l.toNat).map fun(i:Nat)=>(⟨1,f.a+(i:Int),0,0,0,[]⟩,-1)
def zX (fs:List Fn)(f:Fn)(E O H:List Int):Nat->List (Ln×Int)×List Int
 |0=>(first f,[])
 |i+1=>((zX fs f E O H i).1++(if 0<=H.getD i 0 then step fs f E O H i else[]),(zX fs f E O H i).2++[((zX fs f E O H i).1.length:Int)])
def last (f:Fn):List (Ln×Int):=if f.g=0 then[(⟨1,wd f+20,0,0,0,[]⟩,-1),(⟨10,0,wd f+20,0,0,[]⟩,-1)]else[(⟨10,0,wd f,0,0,[]⟩,-1)]
def raw (fs:List Fn)(f:Fn)(E O H:List Int):List (Ln×Int):=(zX fs f E O H f.b.length).1++last f
def Fa (fs:List Fn)(f:Fn)(E O H:List Int):List Int:=(zX fs f E O H f.b.length).2
def Vi (st:List Int)(x:Ln×Int):Ln:=if 0<=x.2 then{x.1 with n:=st.getD x.2.toNat 0}else x.1
def func (fs:List Fn)(f:Fn)(E O H:List Int):List Ln:=if(raw fs f E O H).length<=300 then(raw fs f E O H).map (Vi (Fa fs f E O H))else[]
end Lw
end Go.Proofs.Ythkjdjmjdlimnaa
