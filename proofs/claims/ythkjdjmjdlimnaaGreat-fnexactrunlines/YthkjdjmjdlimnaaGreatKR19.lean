/-
  Own texts for a law: Pr0 Pr1 Pr2 Pr3 Pr4 Wlk2 Wlk3 Wlk4 Words7
-/
import Derived.Test.YthkjdjmjdlimnaaGreatKR10
import Derived.Test.YthkjdjmjdlimnaaGreatKR17
import Derived.Test.YthkjdjmjdlimnaaGreatKR18
namespace Go.Proofs.YthkjdjmjdlimnaaGreat
open Go.RowKit Go.Shelf
set_option linter.all false
set_option maxRecDepth 100000
set_option maxHeartbeats 16000000
def LB (mem:List Int)(aG di depth:Int)(cv:Value):List Value:=mem.map bv++[.int .i64 aG, .int .i64 di, .int .i64 depth,cv]
section
variable {mem : List Int} {aG di depth : Int} {cv : Value}
theorem ru (hl:mem.length=64)(i:Nat):(LB mem aG di depth cv)[64+i]?=[.int .i64 aG, .int .i64 di, .int .i64 depth,cv][i]?:=by unfold LB;rw[List.getElem?_append_right (by rw[List.length_map,hl];omega),List.length_map,hl,Nat.add_sub_cancel_left]
theorem A9 (hl:mem.length=64)(i:Nat)(v:Value):(LB mem aG di depth cv).set (64+i) v=mem.map bv++[.int .i64 aG, .int .i64 di, .int .i64 depth,cv].set i v:=by unfold LB;rw[List.set_append_right _ _ (by rw[List.length_map,hl];omega),List.length_map,hl,Nat.add_sub_cancel_left]
end
section
variable {P : Nat} {mem : List Int} {aG di depth : Int} {cv : Value} {W : World}
theorem fK (hl:mem.length=64)(h:bP W P 122 (LB mem aG di depth cv)):
   (W.cell? ⟨P,64,none⟩=some (.int .i64 aG)/\W.cell? ⟨P,65,none⟩=some (.int .i64 di)/\W.cell? ⟨P,66,none⟩=some (.int .i64 depth)/\W.cell? ⟨P,67,none⟩=some cv)/\∀i,W.frozen? ⟨P,i,none⟩=false:=
 ⟨⟨h.cell (ru hl 0),h.cell (ru hl 1),h.cell (ru hl 2),h.cell (ru hl 3)⟩,fun i=>h.frozen i⟩
theorem Be (hl:mem.length=64)(h:bP W P 122 (LB mem aG di depth cv))(x:Int):bP (W.setCell ⟨P,65,none⟩ (.int .i64 x)) P 122 (LB mem aG x depth cv):=by have:=h.set 65 (.int .i64 x);rw[show(65:Nat)=64+1 from rfl,A9 hl]at this;exact this
theorem uq (hl:mem.length=64)(h:bP W P 122 (LB mem aG di depth cv))(x:Int):bP (W.setCell ⟨P,66,none⟩ (.int .i64 x)) P 122 (LB mem aG di x cv):=by have:=h.set 66 (.int .i64 x);rw[show(66:Nat)=64+2 from rfl,A9 hl]at this;exact this
theorem zS (hl:mem.length=64)(h:bP W P 122 (LB mem aG aG depth cv)):Calls Tryz.prog 106 #[.pointer (some ⟨P,0,none⟩)] W fun e w'=>e=iJ 5/\Below W.heap.size W w':=by obtain⟨⟨c0,c1,c2,c3⟩,cf⟩:=fK hl h;clear c2 c3 cf h;go_enter Tryz.func106,Tryz.ntmps106;go_wp2;go_region;go_wp2;exact⟨rfl,rfl,below_drewN W 1⟩
theorem Bw (hl:mem.length=64)(hb:di<aG)(hf:aG<=200000)(h0:0<=di)(h:bP W P 122 (LB mem aG di depth cv)):Calls Tryz.prog 106 #[.pointer (some ⟨P,0,none⟩)] W fun e w'=>e= .returned (.tuple #[])/\bP w' P 122 (LB mem aG (di+1) depth cv)/\W.grownBy w' (some P):=by obtain⟨⟨c0,c1,c2,c3⟩,cf⟩:=fK hl h;have f1:=cf 65;have hne:(di==aG)=false:=by{simp;omega};have HF:=ae (Be hl (h.drewN 1) (di+1));clear c2 c3 cf h;go_enter Tryz.func106,Tryz.ntmps106;go_wp2;go_region;go_wp2;(try simp only[Exit.inBlock,Exit.then]);exact bodyPost_end (results_none rfl _ _ _) rfl ⟨rfl,HF.out,kK W 1 _ _⟩
theorem tO (hl:mem.length=64)(h:bP W P 122 (LB mem aG di 12 cv)):Calls Tryz.prog 104 #[.pointer (some ⟨P,0,none⟩)] W fun e w'=>e=iJ 6/\w'=W:=by obtain⟨⟨c0,c1,c2,c3⟩,cf⟩:=fK hl h;clear c0 c1 c3 cf h;go_enter Tryz.func104,Tryz.ntmps104;go_wp2;exact⟨rfl,rfl,rfl⟩
theorem zk (d:Nat)(hl:mem.length=64)(hd:d<12)(h:bP W P 122 (LB mem aG di d cv)):Calls Tryz.prog 104 #[.pointer (some ⟨P,0,none⟩)] W fun e w'=>e= .returned (.tuple #[])/\bP w' P 122 (LB mem aG di ((d+1:Nat):Int) cv)/\W.grownBy w' (some P):=by obtain⟨⟨c0,c1,c2,c3⟩,cf⟩:=fK hl h;have f1:=cf 66;have hne:((d:Int)==12)=false:=by{simp;omega};have HF:=ae (uq hl h ((d+1:Nat):Int));clear c0 c1 c3 cf h;go_enter Tryz.func104,Tryz.ntmps104;go_wp2;(try simp only[Exit.inBlock,Exit.then]);exact bodyPost_end (results_none rfl _ _ _) rfl ⟨rfl,HF.out,aA W _ _⟩
theorem zq (d:Nat)(hl:mem.length=64)(hd:d<12)(h:bP W P 122 (LB mem aG di ((d+1:Nat):Int) cv)):Calls Tryz.prog 108 #[.pointer (some ⟨P,0,none⟩)] W fun e w'=>e= .returned (.tuple #[])/\bP w' P 122 (LB mem aG di d cv)/\W.grownBy w' (some P):=by obtain⟨⟨c0,c1,c2,c3⟩,cf⟩:=fK hl h;have f1:=cf 66;have HF:=ae (uq hl h (d:Int));clear c0 c1 c3 cf h;go_enter Tryz.func108,Tryz.ntmps108;go_wp2;(try simp only[Exit.inBlock,Exit.then]);exact bodyPost_end (results_none rfl _ _ _) rfl ⟨rfl,HF.out,aA W _ _⟩
end
structure LR (P:Nat)(mem:List Int)(aG b d:Int)(cv:Value)(W:World):Prop where
 pb:bP W P 122 (LB mem aG b d cv)
 ml:mem.length=64
theorem LR.kept {P:Nat}{mem:List Int}{aG b d:Int}{cv:Value}{W W':World}(h:LR P mem aG b d cv W)(hB:Below W.heap.size W W'):LR P mem aG b d cv W':=⟨h.pb.kept hB,h.ml⟩
theorem yJ {P:Nat}{mem:List Int}{aG b d:Int}{cv:Value}{W:World}(K:LR P mem aG b d cv W):(Instr.loadAt 115 (.pointer (some ⟨P,0,none⟩))).run Tryz.prog W= .ok (.agg (mem.map bv).toArray) W:=
 fO W P _ _ _ _ 64 5 K.pb Tryz.underlying115 (by rw[List.length_map,K.ml];exact iZ)
section
variable {P : Nat} {mem : List Int} {aG b d : Int} {cv : Value} {W W' : World}
theorem BZ (a o:Int)(ha:Wd.ok a=true)(hb:∀j,0<=mem.getD j 0/\mem.getD j 0<=255)(h:Mm.there a o=true)(K:LR P mem aG b d cv W):Calls Tryz.prog 125 #[.pointer (some ⟨P,0,none⟩), .int .u32 a, .int .i64 o] W fun e w'=>e= .returned (.int .u32 (Mm.fP mem (a+o).toNat 4))/\Below W.heap.size W w':=by obtain⟨i1,i2,i3,i4⟩:=Mm.fC.1 h;obtain⟨kk,hk⟩:∃kk:Nat,a+o=kk:=⟨(a+o).toNat,by omega⟩;have G5:kk+4<=64:=by{omega};obtain⟨gx,hgx⟩:∃gx,Mm.fP mem (a+o).toNat 4=gx:=⟨_,rfl⟩;rw[hgx];have hld:∀x:World,Calls Tryz.prog 138 #[.agg (mem.map bv).toArray, .int .i64 (a+o)] x fun e w'=>e= .returned (.int .u32 gx)/\Below x.heap.size x w':=fun x=>by{have:=zB mem K.ml hb kk G5 x;rw[←hgx,hk,az];exact this};have hpl:=fun x:World=>kS a o ha h x;obtain⟨AA,dH⟩:∃AA:Bool->World->Prop,AA=fun _ x=>Below W.heap.size W x/\LR P mem aG b d cv x:=⟨_,rfl⟩;have mg:AA false W.drew:=by{rw[dH];exact⟨(Below.refl _ _).drew,K.kept (Below.refl _ _).drew⟩};have sS:∀{t:Bool}{x:World},AA t x->(Instr.loadAt 115 (.pointer (some ⟨P,0,none⟩))).run Tryz.prog x= .ok (.agg (mem.map bv).toArray) x:=fun h=>by{rw[dH]at h;exact yJ h.2};have hAk:∀{t t':Bool}{x x':World},AA t x->Below x.heap.size x x'->AA t' x':=fun h hB=>by{rw[dH]at h ⊢;exact⟨h.1.trans (hB.mono h.1.size),h.2.kept hB⟩};have gZ:∀{t:Bool}{x:World},AA t x->Below W.heap.size W x:=fun h=>by{rw[dH]at h;exact h.1};obtain⟨cs,hcs⟩:∃cs,(mem.map bv).toArray=cs:=⟨_,rfl⟩;rw[hcs]at sS;rw[hcs]at hld;clear hk hgx;clear dH hcs K hb;go_enter Tryz.func125,Tryz.ntmps125;go_wp2_with fail;refine dh 8 [7,8,9,10,11,12,13,14] 100 AA (fun j y _=>y=[.pointer (some ⟨P,0,none⟩), .pointer (some ⟨P,0,none⟩), .pointer (some ⟨P,0,none⟩), .agg cs, .int .u32 a, .int .i64 o, .int .i64 (a+o), .int .u32 gx].getD j undef) (by kernel_rfl) (by kernel_rfl) (by simp) mg ?_ ?_;{simp only[List.take_succ_cons,List.take_zero];refine⟨?_,?_,?_,?_,?_,?_,?_,?_,trivial⟩;(all_goals(intro t b x hA ht hm hfr hdf aS;replace hdf:=ae hdf));have e0:b.tmps[0]?.getD undef= .pointer (some ⟨P,0,none⟩):=aN (hfr 0 (by decide));rotate_left;have e7:b.tmps[7]?.getD undef= .pointer (some ⟨P,0,none⟩):=aN (aS 0 (by kernel_rfl));rotate_left;have e8:b.tmps[8]?.getD undef= .pointer (some ⟨P,0,none⟩):=aN (aS 1 (by kernel_rfl));rotate_left;{have e9:b.tmps[9]?.getD undef= .pointer (some ⟨P,0,none⟩):=aN (aS 2 (by kernel_rfl));exact eu _ _ rfl _ _ (by simpa[Act.eval]using e9) (sS hA) ⟨_,rfl,bQ hA,rfl,fun i z h=>h⟩};have e1:b.tmps[1]?.getD undef= .int .u32 a:=aN (hfr 1 (by decide));rotate_left;have e2:b.tmps[2]?.getD undef= .int .i64 o:=aN (hfr 2 (by decide));rotate_left;{have e11:b.tmps[11]?.getD undef= .int .u32 a:=aN (aS 4 (by kernel_rfl));have e12:b.tmps[12]?.getD undef= .int .i64 o:=aN (aS 5 (by kernel_rfl));unfold Oper.wp;generalize hK:(fun(b':Act) (x':World)=>∃y,_/\_)=K;simp only[execOp];go_simp;refine(hpl x).mono ?_;rintro e w' ⟨rfl,aQ⟩;subst w';rw[←hK];exact⟨_,rfl,bQ hA,rfl,fun i z h=>h⟩};{have e10:b.tmps[10]?.getD undef= .agg cs:=aN (aS 3 (by kernel_rfl));have e13:b.tmps[13]?.getD undef= .int .i64 (a+o):=aN (aS 6 (by kernel_rfl));unfold Oper.wp;generalize hK:(fun(b':Act) (x':World)=>∃y,_/\_)=K;simp only[execOp];go_simp;refine(hld x).mono ?_;rintro e w' ⟨rfl,hB⟩;rw[←hK];exact⟨_,rfl,bQ (hAk hA hB),rfl,fun i z h=>h⟩};all_goals(unfold Oper.wp;generalize hK:(fun(b':Act) (x':World)=>∃y,_/\_)=K;simp only[execOp];go_simp;rw[←hK];exact⟨_,rfl,bQ hA,rfl,fun i z h=>h⟩)};intro b x hA hF hb;have e7:b.eval (.tmp 7)= .pointer (some ⟨P,0,none⟩):=hF 0 (by decide);have e8:b.eval (.tmp 8)= .pointer (some ⟨P,0,none⟩):=hF 1 (by decide);have e9:b.eval (.tmp 9)= .pointer (some ⟨P,0,none⟩):=hF 2 (by decide);have e10:b.eval (.tmp 10)= .agg cs:=hF 3 (by decide);have e11:b.eval (.tmp 11)= .int .u32 a:=hF 4 (by decide);have e12:b.eval (.tmp 12)= .int .i64 o:=hF 5 (by decide);have e13:b.eval (.tmp 13)= .int .i64 (a+o):=hF 6 (by decide);have e14:b.eval (.tmp 14)= .int .u32 gx:=hF 7 (by decide);simp only[List.foldl,e7,e8,e9,e10,e11,e12,e13,e14]at hb;clear hF e7 e8 e9 e10 e11 e12 e13 e14;subst hb;simp only[List.drop_succ_cons,List.drop_zero];go_simp;have hA1:AA false x:=by{simpa using hA};clear hA;go_wp2;go_ret;exact⟨rfl,gZ hA1⟩
theorem BU (a o:Int)(ha:Wd.ok a=true)(hb:∀j,0<=mem.getD j 0/\mem.getD j 0<=255)(h:Mm.there a o=false)(K:LR P mem aG b d cv W):Calls Tryz.prog 125 #[.pointer (some ⟨P,0,none⟩), .int .u32 a, .int .i64 o] W fun e w'=>e=iJ 3/\Below W.heap.size W w':=by have hpl:=fun x:World=>kv a o ha h x;obtain⟨AA,dH⟩:∃AA:Bool->World->Prop,AA=fun _ x=>Below W.heap.size W x/\LR P mem aG b d cv x:=⟨_,rfl⟩;have mg:AA false W.drew:=by{rw[dH];exact⟨(Below.refl _ _).drew,K.kept (Below.refl _ _).drew⟩};have sS:∀{t:Bool}{x:World},AA t x->(Instr.loadAt 115 (.pointer (some ⟨P,0,none⟩))).run Tryz.prog x= .ok (.agg (mem.map bv).toArray) x:=fun h=>by{rw[dH]at h;exact yJ h.2};have hAk:∀{t t':Bool}{x x':World},AA t x->Below x.heap.size x x'->AA t' x':=fun h hB=>by{rw[dH]at h ⊢;exact⟨h.1.trans (hB.mono h.1.size),h.2.kept hB⟩};have gZ:∀{t:Bool}{x:World},AA t x->Below W.heap.size W x:=fun h=>by{rw[dH]at h;exact h.1};obtain⟨cs,hcs⟩:∃cs,(mem.map bv).toArray=cs:=⟨_,rfl⟩;rw[hcs]at sS;clear dH hcs K hb;go_enter Tryz.func125,Tryz.ntmps125;go_wp2_with fail;refine dh 8 [7,8,9,10,11,12,13,14] 100 AA (fun j y _=>j≠6/\y=[.pointer (some ⟨P,0,none⟩), .pointer (some ⟨P,0,none⟩), .pointer (some ⟨P,0,none⟩), .agg cs, .int .u32 a, .int .i64 o, .int .i64 (a+o),undef].getD j undef) (by kernel_rfl) (by kernel_rfl) (by simp) mg ?_ ?_;{simp only[List.take_succ_cons,List.take_zero];refine⟨?_,?_,?_,?_,?_,?_,?_,?_,trivial⟩;(all_goals(intro t b x hA ht hm hfr hdf aS;replace hdf:=ae hdf));have e0:b.tmps[0]?.getD undef= .pointer (some ⟨P,0,none⟩):=aN (hfr 0 (by decide));rotate_left;have e7:b.tmps[7]?.getD undef= .pointer (some ⟨P,0,none⟩):=by{simpa[Act.eval]using(aS 0 (by kernel_rfl)).2};rotate_left;have e8:b.tmps[8]?.getD undef= .pointer (some ⟨P,0,none⟩):=by{simpa[Act.eval]using(aS 1 (by kernel_rfl)).2};rotate_left;{have e9:b.tmps[9]?.getD undef= .pointer (some ⟨P,0,none⟩):=by{simpa[Act.eval]using(aS 2 (by kernel_rfl)).2};exact eu _ _ rfl _ _ (by simpa[Act.eval]using e9) (sS hA) ⟨_,rfl,bQ hA,⟨by decide,rfl⟩,fun i z h=>h⟩};have e1:b.tmps[1]?.getD undef= .int .u32 a:=aN (hfr 1 (by decide));rotate_left;have e2:b.tmps[2]?.getD undef= .int .i64 o:=aN (hfr 2 (by decide));rotate_left;{have e11:b.tmps[11]?.getD undef= .int .u32 a:=by{simpa[Act.eval]using(aS 4 (by kernel_rfl)).2};have e12:b.tmps[12]?.getD undef= .int .i64 o:=by{simpa[Act.eval]using(aS 5 (by kernel_rfl)).2};unfold Oper.wp;generalize hK:(fun(b':Act) (x':World)=>∃y,_/\_)=K;simp only[execOp];go_simp;refine(hpl x).mono ?_;rintro e w' ⟨rfl,aQ⟩;subst w';exact⟨hdf.out,rfl,gZ hA⟩};{have e10:b.tmps[10]?.getD undef= .agg cs:=by{simpa[Act.eval]using(aS 3 (by kernel_rfl)).2};exact absurd rfl (aS 6 (by kernel_rfl)).1};all_goals(unfold Oper.wp;generalize hK:(fun(b':Act) (x':World)=>∃y,_/\_)=K;simp only[execOp];go_simp;rw[←hK];exact⟨_,rfl,bQ hA,⟨by decide,rfl⟩,fun i z h=>h⟩)};intro b x hA hF hb;exact absurd rfl (hF 6 (by decide)).1
end
theorem xx {W W1 W2:World}{r:Nat}(h:Below W.heap.size W W1)(hg:W1.grownBy W2 (some r)):W.grownBy W2 (some r):=
 ⟨hg.os.trans h.os,hg.tape.trans h.tape,hg.output.trans h.output,Nat.le_trans h.size hg.size,fun k hk hne=>(hg.block k (ai hk h.size) hne).trans (h.block k hk)⟩
section
variable {P : Nat} {mem : List Int} {aG b d : Int} {cv : Value} {W W' : World}
theorem zK (a o v:Int)(ha:Wd.ok a=true)(hv:Wd.ok v=true)(hb:∀j,0<=mem.getD j 0/\mem.getD j 0<=255)(h:Mm.there a o=true)(K:LR P mem aG b d cv W):Calls Tryz.prog 126 #[.pointer (some ⟨P,0,none⟩), .int .u32 a, .int .i64 o, .int .u32 v] W fun e w'=>e= .returned (.tuple #[])/\LR P (Mm.dZ mem (a+o).toNat v 4) aG b d cv w'/\W.grownBy w' (some P):=by obtain⟨i1,i2,i3,i4⟩:=Mm.fC.1 h;obtain⟨kk,hk⟩:∃kk:Nat,a+o=kk:=⟨(a+o).toNat,by omega⟩;have G5:kk+4<=64:=by{omega};obtain⟨mm,hmm⟩:∃mm,Mm.dZ mem (a+o).toNat v 4=mm:=⟨_,rfl⟩;rw[hmm];have kW:mm.length=64:=by{rw[←hmm,Mm.gI];exact K.ml};have Cv:=ae (aj kW K.ml);have hld:∀x:World,Calls Tryz.prog 140 #[.agg (mem.map bv).toArray, .int .i64 (a+o), .int .u32 v] x fun e w'=>e= .returned (.agg (mm.map bv).toArray)/\Below x.heap.size x w':=fun x=>by{have:=zg mem K.ml hb kk G5 v (Wd.aL.1 hv).1 (Wd.aL.1 hv).2 x;rw[←hmm,hk,az];exact this};have hpl:=fun x:World=>kS a o ha h x;obtain⟨AA,dH⟩:∃AA:Bool->World->Prop,AA=fun _ x=>Below W.heap.size W x/\LR P mem aG b d cv x:=⟨_,rfl⟩;have mg:AA false W.drew:=by{rw[dH];exact⟨(Below.refl _ _).drew,K.kept (Below.refl _ _).drew⟩};have sS:∀{t:Bool}{x:World},AA t x->(Instr.loadAt 115 (.pointer (some ⟨P,0,none⟩))).run Tryz.prog x= .ok (.agg (mem.map bv).toArray) x:=fun h=>by{rw[dH]at h;exact yJ h.2};have hAk:∀{t t':Bool}{x x':World},AA t x->Below x.heap.size x x'->AA t' x':=fun h hB=>by{rw[dH]at h ⊢;exact⟨h.1.trans (hB.mono h.1.size),h.2.kept hB⟩};have gZ:∀{t:Bool}{x:World},AA t x->Below W.heap.size W x/\LR P mem aG b d cv x:=fun h=>by{rw[dH]at h;exact h};obtain⟨cs,hcs⟩:∃cs,(mem.map bv).toArray=cs:=⟨_,rfl⟩;rw[hcs]at sS;rw[hcs]at hld;obtain⟨ds,hds⟩:∃ds,mm.map bv=ds:=⟨_,rfl⟩;rw[hds]at hld;have Qj:=ae hds;clear hk hmm kW hds;clear dH hcs K hb;go_enter Tryz.func126,Tryz.ntmps126;go_wp2_with fail;refine dh 12 [8,9,10,11,12,13,14,15,16,17,18,19] 100 AA (fun j y _=>y=[.pointer (some ⟨P,0,none⟩), .pointer (some ⟨P,0,none⟩), .pointer (some ⟨P,0,none⟩), .pointer (some ⟨P,0,none⟩), .agg cs, .int .u32 a, .int .i64 o, .int .i64 (a+o), .int .u32 v, .agg ds.toArray, .pointer (some ⟨P,0,none⟩), .pointer (some ⟨P,0,none⟩)].getD j undef) (by kernel_rfl) (by kernel_rfl) (by simp) mg ?_ ?_;{simp only[List.take_succ_cons,List.take_zero];refine⟨?_,?_,?_,?_,?_,?_,?_,?_,?_,?_,?_,?_,trivial⟩;(all_goals(intro t b x hA ht hm hfr hdf aS;replace hdf:=ae hdf));have e0:b.tmps[0]?.getD undef= .pointer (some ⟨P,0,none⟩):=aN (hfr 0 (by decide));rotate_left;have e0:b.tmps[0]?.getD undef= .pointer (some ⟨P,0,none⟩):=aN (hfr 0 (by decide));rotate_left;have e9:b.tmps[9]?.getD undef= .pointer (some ⟨P,0,none⟩):=aN (aS 1 (by kernel_rfl));rotate_left;have e10:b.tmps[10]?.getD undef= .pointer (some ⟨P,0,none⟩):=aN (aS 2 (by kernel_rfl));rotate_left;{have e11:b.tmps[11]?.getD undef= .pointer (some ⟨P,0,none⟩):=aN (aS 3 (by kernel_rfl));exact eu _ _ rfl _ _ (by simpa[Act.eval]using e11) (sS hA) ⟨_,rfl,bQ hA,rfl,fun i z h=>h⟩};have e1:b.tmps[1]?.getD undef= .int .u32 a:=aN (hfr 1 (by decide));rotate_left;have e2:b.tmps[2]?.getD undef= .int .i64 o:=aN (hfr 2 (by decide));rotate_left;{have e13:b.tmps[13]?.getD undef= .int .u32 a:=aN (aS 5 (by kernel_rfl));have e14:b.tmps[14]?.getD undef= .int .i64 o:=aN (aS 6 (by kernel_rfl));unfold Oper.wp;generalize hK:(fun(b':Act) (x':World)=>∃y,_/\_)=K;simp only[execOp];go_simp;refine(hpl x).mono ?_;rintro e w' ⟨rfl,aQ⟩;subst w';rw[←hK];exact⟨_,rfl,bQ hA,rfl,fun i z h=>h⟩};have e3:b.tmps[3]?.getD undef= .int .u32 v:=aN (hfr 3 (by decide));rotate_left;{have e12:b.tmps[12]?.getD undef= .agg cs:=aN (aS 4 (by kernel_rfl));have e15:b.tmps[15]?.getD undef= .int .i64 (a+o):=aN (aS 7 (by kernel_rfl));have e16:b.tmps[16]?.getD undef= .int .u32 v:=aN (aS 8 (by kernel_rfl));unfold Oper.wp;generalize hK:(fun(b':Act) (x':World)=>∃y,_/\_)=K;simp only[execOp];go_simp;refine(hld x).mono ?_;rintro e w' ⟨rfl,hB⟩;rw[←hK];exact⟨_,rfl,bQ (hAk hA hB),rfl,fun i z h=>h⟩};have e8:b.tmps[8]?.getD undef= .pointer (some ⟨P,0,none⟩):=aN (aS 0 (by kernel_rfl));rotate_left;have e18:b.tmps[18]?.getD undef= .pointer (some ⟨P,0,none⟩):=aN (aS 10 (by kernel_rfl));rotate_left;all_goals(unfold Oper.wp;generalize hK:(fun(b':Act) (x':World)=>∃y,_/\_)=K;simp only[execOp];go_simp;rw[←hK];exact⟨_,rfl,bQ hA,rfl,fun i z h=>h⟩)};intro b x hA hF hb;have e8:b.eval (.tmp 8)= .pointer (some ⟨P,0,none⟩):=hF 0 (by decide);have e9:b.eval (.tmp 9)= .pointer (some ⟨P,0,none⟩):=hF 1 (by decide);have e10:b.eval (.tmp 10)= .pointer (some ⟨P,0,none⟩):=hF 2 (by decide);have e11:b.eval (.tmp 11)= .pointer (some ⟨P,0,none⟩):=hF 3 (by decide);have e12:b.eval (.tmp 12)= .agg cs:=hF 4 (by decide);have e13:b.eval (.tmp 13)= .int .u32 a:=hF 5 (by decide);have e14:b.eval (.tmp 14)= .int .i64 o:=hF 6 (by decide);have e15:b.eval (.tmp 15)= .int .i64 (a+o):=hF 7 (by decide);have e16:b.eval (.tmp 16)= .int .u32 v:=hF 8 (by decide);have e17:b.eval (.tmp 17)= .agg ds.toArray:=hF 9 (by decide);have e18:b.eval (.tmp 18)= .pointer (some ⟨P,0,none⟩):=hF 10 (by decide);have e19:b.eval (.tmp 19)= .pointer (some ⟨P,0,none⟩):=hF 11 (by decide);simp only[List.foldl,e8,e9,e10,e11,e12,e13,e14,e15,e16,e17,e18,e19]at hb;clear hF e8 e9 e10 e11 e12 e13 e14 e15 e16 e17 e18 e19;subst hb;simp only[List.drop_succ_cons,List.drop_zero];go_simp;have hA1:AA false x:=by{simpa using hA};clear hA;have hKx:=(gZ hA1).2;refine pu rfl _ _ _ rfl P rfl ds rfl _ (mem.map bv) _ hKx.pb (by rw[←Qj.out,List.length_map,Cv.out.1];exact iZ) (by rw[←Qj.out,List.length_map,List.length_map,Cv.out.1,Cv.out.2]) (by rw[←Qj.out];exact lG) ?_;intro w' hA' hg';rw[←Qj.out]at hA';have r1:LR P mm aG b d cv w':=⟨hA',Cv.out.1⟩;have HF:=ae (aj r1 (xx (gZ hA1).1 hg'));clear r1 hKx hA' hg' hA1;go_wp2;(try simp only[Exit.inBlock,Exit.then]);exact bodyPost_end (results_none rfl _ _ _) rfl ⟨rfl,HF.out⟩
theorem zI (a o v:Int)(ha:Wd.ok a=true)(hv:Wd.ok v=true)(hb:∀j,0<=mem.getD j 0/\mem.getD j 0<=255)(h:Mm.there a o=false)(K:LR P mem aG b d cv W):Calls Tryz.prog 126 #[.pointer (some ⟨P,0,none⟩), .int .u32 a, .int .i64 o, .int .u32 v] W fun e w'=>e=iJ 3/\Below W.heap.size W w':=by have hpl:=fun x:World=>kv a o ha h x;obtain⟨AA,dH⟩:∃AA:Bool->World->Prop,AA=fun _ x=>Below W.heap.size W x/\LR P mem aG b d cv x:=⟨_,rfl⟩;have mg:AA false W.drew:=by{rw[dH];exact⟨(Below.refl _ _).drew,K.kept (Below.refl _ _).drew⟩};have sS:∀{t:Bool}{x:World},AA t x->(Instr.loadAt 115 (.pointer (some ⟨P,0,none⟩))).run Tryz.prog x= .ok (.agg (mem.map bv).toArray) x:=fun h=>by{rw[dH]at h;exact yJ h.2};have hAk:∀{t t':Bool}{x x':World},AA t x->Below x.heap.size x x'->AA t' x':=fun h hB=>by{rw[dH]at h ⊢;exact⟨h.1.trans (hB.mono h.1.size),h.2.kept hB⟩};have gZ:∀{t:Bool}{x:World},AA t x->Below W.heap.size W x/\LR P mem aG b d cv x:=fun h=>by{rw[dH]at h;exact h};obtain⟨cs,hcs⟩:∃cs,(mem.map bv).toArray=cs:=⟨_,rfl⟩;rw[hcs]at sS;clear dH hcs K hb;go_enter Tryz.func126,Tryz.ntmps126;go_wp2_with fail;refine dh 12 [8,9,10,11,12,13,14,15,16,17,18,19] 100 AA (fun j y _=>j≠7/\y=[.pointer (some ⟨P,0,none⟩), .pointer (some ⟨P,0,none⟩), .pointer (some ⟨P,0,none⟩), .pointer (some ⟨P,0,none⟩), .agg cs, .int .u32 a, .int .i64 o, .int .i64 (a+o), .int .u32 v,undef, .pointer (some ⟨P,0,none⟩), .pointer (some ⟨P,0,none⟩)].getD j undef) (by kernel_rfl) (by kernel_rfl) (by simp) mg ?_ ?_;{simp only[List.take_succ_cons,List.take_zero];refine⟨?_,?_,?_,?_,?_,?_,?_,?_,?_,?_,?_,?_,trivial⟩;(all_goals(intro t b x hA ht hm hfr hdf aS;replace hdf:=ae hdf));have e0:b.tmps[0]?.getD undef= .pointer (some ⟨P,0,none⟩):=aN (hfr 0 (by decide));rotate_left;have e0:b.tmps[0]?.getD undef= .pointer (some ⟨P,0,none⟩):=aN (hfr 0 (by decide));rotate_left;have e9:b.tmps[9]?.getD undef= .pointer (some ⟨P,0,none⟩):=by{simpa[Act.eval]using(aS 1 (by kernel_rfl)).2};rotate_left;have e10:b.tmps[10]?.getD undef= .pointer (some ⟨P,0,none⟩):=by{simpa[Act.eval]using(aS 2 (by kernel_rfl)).2};rotate_left;{have e11:b.tmps[11]?.getD undef= .pointer (some ⟨P,0,none⟩):=by{simpa[Act.eval]using(aS 3 (by kernel_rfl)).2};exact eu _ _ rfl _ _ (by simpa[Act.eval]using e11) (sS hA) ⟨_,rfl,bQ hA,⟨by decide,rfl⟩,fun i z h=>h⟩};have e1:b.tmps[1]?.getD undef= .int .u32 a:=aN (hfr 1 (by decide));rotate_left;have e2:b.tmps[2]?.getD undef= .int .i64 o:=aN (hfr 2 (by decide));rotate_left;{have e13:b.tmps[13]?.getD undef= .int .u32 a:=by{simpa[Act.eval]using(aS 5 (by kernel_rfl)).2};have e14:b.tmps[14]?.getD undef= .int .i64 o:=by{simpa[Act.eval]using(aS 6 (by kernel_rfl)).2};unfold Oper.wp;generalize hK:(fun(b':Act) (x':World)=>∃y,_/\_)=K;simp only[execOp];go_simp;refine(hpl x).mono ?_;rintro e w' ⟨rfl,aQ⟩;subst w';exact⟨hdf.out,rfl,(gZ hA).1⟩};have e3:b.tmps[3]?.getD undef= .int .u32 v:=aN (hfr 3 (by decide));rotate_left;{have e12:b.tmps[12]?.getD undef= .agg cs:=by{simpa[Act.eval]using(aS 4 (by kernel_rfl)).2};exact absurd rfl (aS 7 (by kernel_rfl)).1};have e8:b.tmps[8]?.getD undef= .pointer (some ⟨P,0,none⟩):=by{simpa[Act.eval]using(aS 0 (by kernel_rfl)).2};rotate_left;have e18:b.tmps[18]?.getD undef= .pointer (some ⟨P,0,none⟩):=by{simpa[Act.eval]using(aS 10 (by kernel_rfl)).2};rotate_left;all_goals(unfold Oper.wp;generalize hK:(fun(b':Act) (x':World)=>∃y,_/\_)=K;simp only[execOp];go_simp;rw[←hK];exact⟨_,rfl,bQ hA,⟨by decide,rfl⟩,fun i z h=>h⟩)};intro b x hA hF hb;exact absurd rfl (hF 7 (by decide)).1
end
def XB (bx:List Int)(P:Nat)(lv:Value)(nx:Int)(gv:Bool)(vv:Int):List Value:=bx.map wv++[.pointer (some ⟨P,0,none⟩),lv, .int .i64 nx, .bool gv, .int .u32 vv]
section
variable {bx : List Int} {P : Nat} {lv : Value} {nx : Int} {gv : Bool} {vv : Int} {C : Nat} {W W' : World}
theorem nA (hl:bx.length=40)(i:Nat):(XB bx P lv nx gv vv)[40+i]?=[.pointer (some ⟨P,0,none⟩),lv, .int .i64 nx, .bool gv, .int .u32 vv][i]?:=by unfold XB;rw[List.getElem?_append_right (by rw[List.length_map,hl];omega),List.length_map,hl,Nat.add_sub_cancel_left]
theorem xB (hl:bx.length=40)(i:Nat)(v:Value):(XB bx P lv nx gv vv).set (40+i) v=bx.map wv++[.pointer (some ⟨P,0,none⟩),lv, .int .i64 nx, .bool gv, .int .u32 vv].set i v:=by unfold XB;rw[List.set_append_right _ _ (by rw[List.length_map,hl];omega),List.length_map,hl,Nat.add_sub_cancel_left]
theorem Gs (hl:bx.length=40){i:Nat}(hi:i<40):(XB bx P lv nx gv vv)[i]?=some (.int .u32 (bx.getD i 0)):=by unfold XB;rw[List.getElem?_append_left (by rw[List.length_map,hl];omega),List.getElem?_map,ag,ah (by omega)];rfl
theorem Gn (hl:bx.length=40){i:Nat}(hi:i<40)(x:Int):(XB bx P lv nx gv vv).set i (.int .u32 x)=XB (bx.set i x) P lv nx gv vv:=by unfold XB;rw[List.set_append_left _ _ (by rw[List.length_map,hl];omega),List.map_set];rfl
structure XR (C:Nat)(bx:List Int)(P:Nat)(lv:Value)(nx:Int)(gv:Bool)(vv:Int)(W:World):Prop where
 arr:bP W C 178 (XB bx P lv nx gv vv)
 lb:bx.length=40
theorem XR.kept (h:XR C bx P lv nx gv vv W)(hB:Below W.heap.size W W'):XR C bx P lv nx gv vv W':=⟨h.arr.kept hB,h.lb⟩
theorem XR.fA {r:Nat}(h:XR C bx P lv nx gv vv W)(hg:W.grownBy W' (some r))(hne:C≠r):XR C bx P lv nx gv vv W':=⟨(hg.block C h.arr.lt (by simpa using hne)).trans h.arr,h.lb⟩
theorem XR.row (h:XR C bx P lv nx gv vv W){i:Nat}(hi:i<40):W.cell? ⟨C,i,none⟩=some (.int .u32 (bx.getD i 0)):=h.arr.cell (Gs h.lb hi)
theorem XR.all (h:XR C bx P lv nx gv vv W):W.cell? ⟨C,40,none⟩=some (.pointer (some ⟨P,0,none⟩)):=h.arr.cell (nA h.lb 0)
theorem XR.lines (h:XR C bx P lv nx gv vv W):W.cell? ⟨C,41,none⟩=some lv:=h.arr.cell (nA h.lb 1)
theorem XR.next (h:XR C bx P lv nx gv vv W):W.cell? ⟨C,42,none⟩=some (.int .i64 nx):=h.arr.cell (nA h.lb 2)
theorem XR.given (h:XR C bx P lv nx gv vv W):W.cell? ⟨C,43,none⟩=some (.bool gv):=h.arr.cell (nA h.lb 3)
theorem XR.value (h:XR C bx P lv nx gv vv W):W.cell? ⟨C,44,none⟩=some (.int .u32 vv):=h.arr.cell (nA h.lb 4)
theorem XR.put (h:XR C bx P lv nx gv vv W){i:Nat}(hi:i<40)(x:Int):XR C (bx.set i x) P lv nx gv vv (W.setCell ⟨C,i,none⟩ (.int .u32 x)):=⟨by rw[←Gn h.lb hi x];exact h.arr.set i _,by rw[List.length_set];exact h.lb⟩
theorem XR.bS (h:XR C bx P lv nx gv vv W)(x:Int):XR C bx P lv x gv vv (W.setCell ⟨C,42,none⟩ (.int .i64 x)):=⟨by
 have:=h.arr.set 42 (.int .i64 x)
 rw[show(42:Nat)=40+2 from rfl,xB h.lb]at this
 exact this,h.lb⟩
theorem XR.iG (h:XR C bx P lv nx gv vv W)(x:Bool):XR C bx P lv nx x vv (W.setCell ⟨C,43,none⟩ (.bool x)):=⟨by
 have:=h.arr.set 43 (.bool x)
 rw[show(43:Nat)=40+3 from rfl,xB h.lb]at this
 exact this,h.lb⟩
theorem XR.setValue (h:XR C bx P lv nx gv vv W)(x:Int):XR C bx P lv nx gv x (W.setCell ⟨C,44,none⟩ (.int .u32 x)):=⟨by
 have:=h.arr.set 44 (.int .u32 x)
 rw[show(44:Nat)=40+4 from rfl,xB h.lb]at this
 exact this,h.lb⟩
theorem eU (h:XR C bx P lv nx gv vv W){i:Nat}(hi:i<40):Calls Tryz.prog 122 #[.pointer (some ⟨C,0,none⟩), .int .i64 (i:Int)] W fun e w'=>e= .returned (.int .u32 (bx.getD i 0))/\w'=W:=by have c0:=h.row hi;obtain⟨v,hv⟩:∃v,bx.getD i 0=v:=⟨_,rfl⟩;rw[hv]at c0 ⊢;have XE:(i:Int)<40:=by{omega};clear h hv;go_enter Tryz.func122,Tryz.ntmps122;go_wp2;go_ret;exact⟨rfl,rfl⟩
theorem iU (h:XR C bx P lv nx gv vv W){i:Nat}(hi:i<40)(x:Int):Calls Tryz.prog 121 #[.pointer (some ⟨C,0,none⟩), .int .i64 (i:Int), .int .u32 x] W fun e w'=>e= .returned (.tuple #[])/\w'=W.setCell ⟨C,i,none⟩ (.int .u32 x):=by have c0:=h.row hi;have f0:=h.arr.frozen i;have XE:(i:Int)<40:=by{omega};clear h;go_enter Tryz.func121,Tryz.ntmps121;go_wp2;(try simp only[Exit.inBlock,Exit.then]);exact bodyPost_end (results_none rfl _ _ _) rfl ⟨rfl,rfl⟩
theorem nJ (h:XR C bx P lv nx gv vv W)(a:Option Addr)(n cap:Nat)(l:List Int)(hn:n<=3)(hl:IL W a n l)(hin:∀y∈l,0<=y/\y<=39):Calls Tryz.prog 124 #[.pointer (some ⟨C,0,none⟩), .slice a n cap] W fun e w'=>∃g c,e= .returned (.slice (some ⟨g,0,none⟩) n c)/\w'.ownsRow W.heap.size 125 1 (.slice (some ⟨g,0,none⟩) n c) n ((l.map (Rl.bx bx)).map wv)/\Below W.heap.size W w':=by obtain⟨i0,hi,hz0,hz1,hz2⟩:=info_parts pY;obtain⟨wm,hmk,hown,hgrow⟩:=run_make_own (P:=Tryz.prog) W W.heap.size 127 125 i0 _ 1 Tryz.underlying127 hi hz0 hz1 .i64 .i64 n (by rw[hz2];omega) (by simp only[maxLen];omega) (Nat.le_refl _);have HB0:=ae (gK hgrow);have Fx:=ae hown;have hll:=hl.1;have HL:=ae hll;have R4:=ae hin;have HX:=ae h;have jh:=ae hl;clear hown hgrow hll hin h hl;go_enter Tryz.func124,Tryz.ntmps124;go_wp2;go_loopw [5,13] (fun vs vi wr=>∃k g c:Nat,vs= .slice (some ⟨g,0,none⟩) k c/\vi= .int .i64 (k:Int)/\k<=n/\wr.ownsRow W.heap.size 125 1 (.slice (some ⟨g,0,none⟩) k c) k (((l.take k).map (Rl.bx bx)).map wv)/\Below W.heap.size W wr) (fun _ i _=>n-(intOf i).toNat);(case atStart=>exact⟨0,_,n,rfl,rfl,Nat.zero_le _,Fx.out,HB0.out⟩);case round=>obtain⟨k,g,c,rfl,rfl,hk,hrow,hB⟩:=hrel;clear hmk Fx HB0;by_cases hlt:k<n;{have gU:(k:Int)<(n:Int):=by{omega};obtain⟨y,hy⟩:∃y,l.getD k 0=y:=⟨_,rfl⟩;have hkl:k<l.length:=by{rw[HL.out];exact hlt};have hyl:y∈l:=by{rw[←hy,ag,ah hkl];exact List.getElem_mem hkl};have hy39:=R4.out y hyl;obtain⟨yn,rfl⟩:∃yn:Nat,y=(yn:Int):=⟨y.toNat,by omega⟩;have hyn:yn<40:=by{omega};have R9:(yn:Int)<40:=by{omega};obtain⟨-,-,h0|⟨bb,bo,rfl,hbb,lY⟩⟩:=jh.out.kept hB;{omega};have zl:=lY k hlt;rw[hy]at zl;have tb:=(HX.out.kept hB).row hyn;obtain⟨v,hv⟩:∃v,bx.getD yn 0=v:=⟨_,rfl⟩;rw[hv]at tb;have HN:Hid ((l.take (k+1)).map (Rl.bx bx)=(l.take k).map (Rl.bx bx)++[v]):=by{show _=_;rw[←List.take_append_getElem hkl,List.map_append];congr 1;have e1:l[k]=(yn:Int):=by{rw[ag,ah hkl]at hy;exact hy};rw[e1,←hv];rfl};have hal:=aB wr (.cells #[.int .u32 v] 125);have Sa:=ae (aT hrow hal);have Sb:=ae (hB.trans (hal.mono hB.size));have hgl:=hrow.lt g rfl;have hsz:=hB.size;clear lY hy hyl hy39 hv hal hrow hB hbb;go_wp2_with(at_builtin;refine wpList_append_own _ rfl _ _ 127 rfl W.heap.size 125 i0 (.int .u32 0) 1 4 Tryz.underlying127 hi hz0 hz1 hz2 rfl (by decide) _ _ _ rfl Sa.out ⟨wr.heap.size,0,none⟩ 1 1 [.int .u32 v] rfl rfl (mX _ _ _ _ rfl) (by simp[Value.oneCell']) (by simp only[maxLen];omega) (by omega) (by simp;omega) ?_;intro v' wA hown' hgrow MB;have HF:=ae (aj hown' (aj hgrow MB));clear hown' hgrow MB);rcases HF.out.1.2 with⟨rfl,h0⟩|⟨g',cap',cur,rfl,_⟩;{exact absurd (HF.out.2.2.1 rfl).1 (fun h=>by cases h)};go_roundw;(case rel=>refine⟨k+1,g',cap',rfl,by congr 1,by omega,?_,aF Sb.out HF.out.2.1 hgl.1⟩;rw[HN.out,List.map_append];exact HF.out.1);case measure=>simp[intOf];omega};obtain rfl:n=k:=by{omega};have gU:¬((n:Int)<(n:Int)):=by{omega};have e:l.take n=l:=List.take_of_length_le (by have:=HL.out;omega);rw[e]at hrow;have HR:=ae (aj hrow hB);clear hrow hB;go_wp2;go_ret;exact⟨g,c,rfl,by have:=HR.out.1;rwa [List.map_map]at this,HR.out.2⟩
end
structure XC where
 P:Nat
 aG:Nat
 cb:Nat
 cc:Nat
 cs:List (List Ln)
def XC.cv (c:XC):Value:= .slice (some ⟨c.cb,0,none⟩) c.cs.length c.cc
def Bn (P:Nat)(W0:World)(g:Nat)(ls:List Ln):Prop:=∀j,j<ls.length->∃la ln lc,∀W,fU P W0 W->W.cell? ⟨g,j,none⟩=some (bi (ls.getD j .z) (.slice la ln lc))/\IL W la ln (ls.getD j .z).l
structure xq (c:XC)(W0:World):Prop where
 codes:∀k,k<c.cs.length->∃g cc,(∀W,fU c.P W0 W->W.cell? ⟨c.cb,k,none⟩=some (.slice (some ⟨g,0,none⟩) (c.cs.getD k []).length cc))/\Bn c.P W0 g (c.cs.getD k [])
 val:Rl.zW c.cs
 fl:c.aG<=200000
structure XQ where
 w:World
 k:Nat
 d:Nat
 C:Nat
 g:Nat
 lc:Nat
def XQ.lv (q:XQ)(c:XC):Value:= .slice (some ⟨q.g,0,none⟩) (c.cs.getD q.k []).length q.lc
structure ko (c:XC)(W0:World)(q:XQ):Prop where
 tab:xq c W0
 lt:q.k<c.cs.length
 dp:q.d<12
 bZ:fU c.P W0 q.w
 code:Bn c.P W0 q.g (c.cs.getD q.k [])
 Qk:c.P<q.w.heap.size
 Ql:q.w.heap.size<=q.C
structure XM (c:XC)(q:XQ)(nx:Int)(gv:Bool)(vv:Int)(bx mem:List Int)(b:Int)(W:World):Prop where
 lr:LR c.P mem c.aG b ((q.d+1:Nat):Int) c.cv W
 xr:XR q.C bx c.P (q.lv c) nx gv vv W
 bZ:fU c.P q.w W
section
variable {c : XC} {W0 : World} {q : XQ} {nx : Int} {gv : Bool} {vv : Int} {bx mem : List Int} {b : Int} {W W' : World}
theorem XM.kept (h:XM c q nx gv vv bx mem b W)(hB:Below W.heap.size W W'):XM c q nx gv vv bx mem b W':=⟨h.lr.kept hB,h.xr.kept hB,h.bZ.trans (fU.below hB)⟩
theorem LR.fA {P:Nat}{mem:List Int}{aG b d:Int}{cv:Value}{W W':World}{r:Nat}(h:LR P mem aG b d cv W)(hg:W.grownBy W' (some r))(hne:P≠r):LR P mem aG b d cv W':=⟨(hg.block P h.pb.lt (by simpa using hne)).trans h.pb,h.ml⟩
theorem XM.own (Q:ko c W0 q)(h:XM c q nx gv vv bx mem b W){nx':Int}{VD:Bool}{VE:Int}{bx':List Int}(hg:W.grownBy W' (some q.C))(hx:XR q.C bx' c.P (q.lv c) nx' VD VE W'):XM c q nx' VD VE bx' mem b W':=by have h1:=Q.Qk;have h2:=Q.Ql;exact⟨h.lr.fA hg (by omega),hx,h.bZ.grow hg (fun r e=>by cases e;exact .inl h2)⟩
theorem XM.put (Q:ko c W0 q)(h:XM c q nx gv vv bx mem b W){i:Nat}(hi:i<40)(x:Int):XM c q nx gv vv (bx.set i x) mem b (W.setCell ⟨q.C,i,none⟩ (.int .u32 x)):=h.own Q (aA W ⟨q.C,i,none⟩ _) (h.xr.put hi x)
theorem XM.bS (Q:ko c W0 q)(h:XM c q nx gv vv bx mem b W)(x:Int):XM c q x gv vv bx mem b (W.setCell ⟨q.C,42,none⟩ (.int .i64 x)):=h.own Q (aA W ⟨q.C,42,none⟩ _) (h.xr.bS x)
theorem XM.iG (Q:ko c W0 q)(h:XM c q nx gv vv bx mem b W)(x:Bool):XM c q nx x vv bx mem b (W.setCell ⟨q.C,43,none⟩ (.bool x)):=h.own Q (aA W ⟨q.C,43,none⟩ _) (h.xr.iG x)
theorem XM.setValue (Q:ko c W0 q)(h:XM c q nx gv vv bx mem b W)(x:Int):XM c q nx gv x bx mem b (W.setCell ⟨q.C,44,none⟩ (.int .u32 x)):=h.own Q (aA W ⟨q.C,44,none⟩ _) (h.xr.setValue x)
theorem XM.GG (Q:ko c W0 q)(h:XM c q nx gv vv bx mem b W){ib:List Int}{b':Int}(hg:W.grownBy W' (some c.P))(hl:LR c.P ib c.aG b' ((q.d+1:Nat):Int) c.cv W'):XM c q nx gv vv bx ib b' W':=by have h1:=Q.Qk;have h2:=Q.Ql;exact⟨hl,h.xr.fA hg (by omega),h.bZ.grow hg (fun r e=>by cases e;exact .inr rfl)⟩
theorem XM.call (Q:ko c W0 q)(h:XM c q nx gv vv bx mem b W){ib:List Int}{b':Int}(ha:fU c.P W W')(hl:LR c.P ib c.aG b' ((q.d+1:Nat):Int) c.cv W'):XM c q nx gv vv bx ib b' W':=by have h1:=Q.Qk;have h2:=Q.Ql;exact⟨hl,⟨(ha.blk q.C h.xr.arr.lt (by omega)).trans h.xr.arr,h.xr.lb⟩,h.bZ.trans ha⟩
end
structure XI (c:XC)(q:XQ)(R:Mn.Rs)(at':Nat)(bx mem:List Int)(n:Nat)(W:World):Prop where
 nb:n<=c.aG
 m:XM c q at' false 0 bx mem ((c.aG:Int)-n) W
 good:Rl.Good c.cs q.k at' bx mem
 run:Rl.run c.cs (n+1) n q.d q.k at' bx mem=R
structure XF (c:XC)(q:XQ)(R:Mn.Rs)(v:Int)(mem:List Int)(n:Nat)(W:World):Prop where
 nb:n<=c.aG
 m:∃nx bx,XM c q nx true v bx mem ((c.aG:Int)-n) W
 run:R= .done v mem n
structure XX (c:XC)(w0:World)(R:Mn.Rs)(cd:Int)(W:World):Prop where
 bZ:fU c.P w0 W
 box:∃mem n d,R= .stop cd mem n/\n<=c.aG/\LR c.P mem c.aG ((c.aG:Int)-n) d c.cv W
def XP (c:XC)(q:XQ)(R:Mn.Rs)(n:Nat)(e:Ending)(W:World):Prop:=
 (e= .returned (.tuple #[])/\∃at' bx mem m,m<=n/\XI c q R at' bx mem m W)\/(e= .returned (.tuple #[])/\∃v mem m,m<=n/\XF c q R v mem m W)\/∃cd,e=iJ cd/\XX c q.w R cd W
structure XJ (c:XC)(q:XQ)(R:Mn.Rs)(at':Nat)(bx mem:List Int)(n:Nat)(W:World):Prop where
 nb:n+1<=c.aG
 m:XM c q at' false 0 bx mem ((c.aG:Int)-n) W
 good:Rl.Good c.cs q.k at' bx mem
 run:Rl.run c.cs (n+2) (n+1) q.d q.k at' bx mem=R
section
variable {c : XC} {W0 : World} {q : XQ} {R : Mn.Rs} {at' : Nat} {bx mem : List Int} {n : Nat} {W W' : World}
theorem XJ.next (Q:ko c W0 q)(h:XJ c q R at' bx mem n W){a2:Nat}{b2 m2:List Int}(hs:Rl.aV c.cs q.k at' bx mem= .next a2 b2 m2)(hm:XM c q a2 false 0 b2 m2 ((c.aG:Int)-n) W'):XP c q R n (.returned (.tuple #[])) W':=by have F:=Rl.dC Q.tab.val Q.lt h.good;rw[hs]at F;exact .inl ⟨rfl,a2,b2,m2,n,Nat.le_refl _,by have:=h.nb;omega,hm,F,by rw[←h.run,Rl.dA hs]⟩
theorem XJ.pI (h:XJ c q R at' bx mem n W){v:Int}(hs:Rl.aV c.cs q.k at' bx mem= .pI v){nx:Int}{b2:List Int}(hm:XM c q nx true v b2 mem ((c.aG:Int)-n) W'):XP c q R n (.returned (.tuple #[])) W':=
 .inr (.inl ⟨rfl,v,mem,n,Nat.le_refl _,by have:=h.nb;omega,⟨nx,b2,hm⟩,by rw[←h.run,Rl.iF hs]⟩)
theorem XJ.halt (h:XJ c q R at' bx mem n W){cd:Int}(hs:Rl.aV c.cs q.k at' bx mem= .halt cd){nx:Int}{gv:Bool}{vv:Int}{b2:List Int}(hm:XM c q nx gv vv b2 mem ((c.aG:Int)-n) W'):XP c q R n (iJ cd) W':=
 .inr (.inr ⟨cd,rfl,hm.bZ,mem,n,_,by rw[←h.run,Rl.run_halt hs],by have:=h.nb;omega,hm.lr⟩)
end
def XG (c:XC)(w:World)(R:Mn.Rs)(d:Int)(e:Ending)(W:World):Prop:=
 (∃v m l,R= .done v m l/\e= .returned (.int .u32 v)/\fU c.P w W/\l<=c.aG/\LR c.P m c.aG ((c.aG:Int)-l) d c.cv W)\/∃cd,e=iJ cd/\XX c w R cd W
def nM (cs:List (List Ln))(n d k:Nat)(args mem:List Int):Mn.Rs:=if 12<=d then .stop 6 mem n else Rl.run cs (n+1) n d k 0 (Rl.jZ args) mem
def u6 (c:XC)(W0:World)(n:Nat):Prop:=
 ∀ (w:World) (k d:Nat) (mem args:List Int) (va:Value) (ba:Nat),fU c.P W0 w->k<c.cs.length->d<=12->Mm.ok mem=true->Mn.words args->args.length<=3->w.ownsRow ba 125 1 va args.length (args.map wv)->n<=c.aG->LR c.P mem c.aG ((c.aG:Int)-n) (d:Int) c.cv w->
   Calls Tryz.prog 70 #[.pointer (some ⟨c.P,0,none⟩), .int .i64 k,va] w (XG c w (nM c.cs n d k args mem) d)
theorem xJ (b:Bool)(w:World):Calls Tryz.prog 89 #[.bool b] w fun e w'=>e= .returned (.int .i64 (if b=true then 1 else 0))/\w'=w:=by cases b;all_goals go_enter Tryz.func89,Tryz.ntmps89;go_wp2;go_ret;exact⟨rfl,rfl⟩
structure CC where
 w:World
 k:Nat
 d:Nat
 fb:Nat
 gl:Nat
 cl:Nat
 bb:Nat
 bo:Nat
 bl:Nat
 bc:Nat
 R:Mn.Rs
structure CQ (c:WC)(W0:World)(q:CC):Prop where
 tab:Vm c W0
 lt:q.k<c.fs.length
 dp:q.d<12
 bZ:mh c W0 q.w
 ZM:q.w.cell? ⟨c.fb,c.fo+q.k*4+3,none⟩=some (.slice (some ⟨q.bb,q.bo,none⟩) q.bl q.bc)
 bO:c.B<q.w.heap.size
 vQ:c.M<q.w.heap.size
 len:(Mn.fn c.fs q.k).b.length=q.bl
 ZN:q.bl<=80
structure CI (c:WC)(W0:World)(q:CC)(at':Nat)(pile loc mem:List Int)(n gp cp:Nat)(wr:World):Prop where
 nb:n<=3000
 wk:WK c W0 wr mem n 0
 fx:bF wr q.fb [.int .i64 (Mn.fn c.fs q.k).a, .int .i64 (Mn.fn c.fs q.k).l, .int .i64 (Mn.fn c.fs q.k).g, .slice (some ⟨q.bb,q.bo,none⟩) q.bl q.bc]
 lr:wr.ownsRow (q.fb+1) 2 1 (.slice (some ⟨q.gl,0,none⟩) loc.length q.cl) loc.length (loc.map iv)
 pr:wr.ownsRow (q.gl+1) 2 1 (.slice (some ⟨gp,0,none⟩) pile.length cp) pile.length (pile.map iv)
 n4:q.w.heap.size<=q.fb
 bZ:mh c q.w wr
 good:Mn.Good c.fs (Mn.fn c.fs q.k) (Mn.zf c.fs q.k) at' pile loc mem
 run:Mn.run c.fs (n+1) n q.d q.k at' pile loc mem=q.R
theorem CI.next {c:WC}{W0:World}{q:CC}{at':Nat}{pile loc mem:List Int}{m gp cp:Nat}{wr:World}(Q:CQ c W0 q)(h:CI c W0 q at' pile loc mem (m+1) gp cp wr){a2:Nat}{p2 l2 m2:List Int}(hs:Mn.aV c.fs q.k at' pile loc mem= .next a2 p2 l2 m2):Mn.Good c.fs (Mn.fn c.fs q.k) (Mn.zf c.fs q.k) a2 p2 l2 m2/\Mn.run c.fs (m+1) m q.d q.k a2 p2 l2 m2=q.R:=by have F:Mn.oO c.fs (Mn.fn c.fs q.k) (Mn.zf c.fs q.k) at' loc mem (Mn.aV c.fs q.k at' pile loc mem):=Mn.dC (Md.bU Q.tab.val.all Q.lt) Q.tab.val.all (Q.tab.val.acc q.k Q.lt) h.good;rw[hs]at F;exact⟨F,by rw[←h.run,Mn.dA hs]⟩
theorem CI.fin {c:WC}{W0:World}{q:CC}{at':Nat}{pile loc mem:List Int}{m gp cp:Nat}{wr:World}(Q:CQ c W0 q)(h:CI c W0 q at' pile loc mem (m+1) gp cp wr){p2:List Int}(hs:Mn.aV c.fs q.k at' pile loc mem= .fin p2):(p2.length:Int)=(Mn.fn c.fs q.k).g/\q.R= .done (Mn.gives (Mn.fn c.fs q.k) p2) mem m:=by have F:Mn.oO c.fs (Mn.fn c.fs q.k) (Mn.zf c.fs q.k) at' loc mem (Mn.aV c.fs q.k at' pile loc mem):=Mn.dC (Md.bU Q.tab.val.all Q.lt) Q.tab.val.all (Q.tab.val.acc q.k Q.lt) h.good;rw[hs]at F;exact⟨F.1,by rw[←h.run,Mn.kG hs]⟩
theorem CI.halt {c:WC}{W0:World}{q:CC}{at':Nat}{pile loc mem:List Int}{m gp cp:Nat}{wr:World}(h:CI c W0 q at' pile loc mem (m+1) gp cp wr){e:Int}(hs:Mn.aV c.fs q.k at' pile loc mem= .halt e):q.R= .stop e mem m:=by rw[←h.run,Mn.run_halt hs]
structure CO (c:WC)(q:CC)(pile loc:List Int)(gp cp:Nat)(wr:World):Prop where
 fx:bF wr q.fb [.int .i64 (Mn.fn c.fs q.k).a, .int .i64 (Mn.fn c.fs q.k).l, .int .i64 (Mn.fn c.fs q.k).g, .slice (some ⟨q.bb,q.bo,none⟩) q.bl q.bc]
 lr:wr.ownsRow (q.fb+1) 2 1 (.slice (some ⟨q.gl,0,none⟩) loc.length q.cl) loc.length (loc.map iv)
 pr:wr.ownsRow (q.gl+1) 2 1 (.slice (some ⟨gp,0,none⟩) pile.length cp) pile.length (pile.map iv)
theorem CI.own {c:WC}{W0:World}{q:CC}{at':Nat}{pile loc mem:List Int}{n gp cp:Nat}{wr:World}(h:CI c W0 q at' pile loc mem n gp cp wr):CO c q pile loc gp cp wr:=⟨h.fx,h.lr,h.pr⟩
theorem CO.fA {c:WC}{q:CC}{pile loc:List Int}{gp cp:Nat}{W W':World}{row:Option Nat}(h:CO c q pile loc gp cp W)(hg:W.grownBy W' row)(h1:row≠some q.fb)(h2:row≠some q.gl)(h3:row≠some gp):CO c q pile loc gp cp W':=
 ⟨h.fx.fA hg h1,h.lr.kept hg (.inr (by simpa[Value.ownBlock]using Ne.symm h2)),h.pr.kept hg (.inr (by simpa[Value.ownBlock]using Ne.symm h3))⟩
theorem CO.kept {c:WC}{q:CC}{pile loc:List Int}{gp cp:Nat}{W W':World}(h:CO c q pile loc gp cp W)(hB:Below W.heap.size W W'):CO c q pile loc gp cp W':=
 h.fA (row:=none) ⟨hB.os,hB.tape,hB.output,hB.size,fun k hk _=>hB.block k hk⟩ (by simp) (by simp) (by simp)
theorem CO.ord {c:WC}{q:CC}{pile loc:List Int}{gp cp:Nat}{W:World}(h:CO c q pile loc gp cp W):q.fb<q.gl/\q.gl<gp/\gp<W.heap.size:=by have h1:=h.lr.lt q.gl rfl;have h2:=h.pr.lt gp rfl;omega
theorem CO.cut {c:WC}{q:CC}{pile loc:List Int}{gp cp:Nat}{W:World}(h:CO c q pile loc gp cp W)(n:Nat)(hn:n<=pile.length):CO c q (pile.take n) loc gp cp W:=by refine⟨h.fx,h.lr,?_⟩;have:=Bc h.pr n hn;rw[Nat.mul_one,←List.map_take]at this;rw[List.length_take,Nat.min_eq_left hn];exact this
theorem mh.grow {c:WC}{W0 W W':World}{r:Nat}(h:mh c W0 W)(hg:W.grownBy W' (some r))(hr:W0.heap.size<=r\/r=c.B\/r=c.M):mh c W0 W':=
 ⟨hg.os.trans h.os,hg.tape.trans h.tape,hg.output.trans h.out,Nat.le_trans h.size hg.size,fun i hi h1 h2=>(hg.block i (ai hi h.size) (by
   simp only[ne_eq,af]
   rcases hr with hr|rfl|rfl
   · omega
   · exact h1
   · exact h2)).trans (h.blk i hi h1 h2)⟩
theorem WK.fA {c:WC}{W0 W W':World}{mem:List Int}{aG code:Int}{r:Nat}(h:WK c W0 W mem aG code)(hg:W.grownBy W' (some r))(hr:W0.heap.size<=r)(h1:r≠c.B)(h2:r≠c.M):WK c W0 W' mem aG code:=
 ⟨h.bZ.grow hg (.inl hr),h.box.fA hg (by simpa using h1),h.row.kept hg (.inr (by simpa[Value.ownBlock]using Ne.symm h2))⟩
structure CM (c:WC)(W0:World)(q:CC)(pile loc mem:List Int)(n gp cp:Nat)(wr:World):Prop where
 wk:WK c W0 wr mem n 0
 co:CO c q pile loc gp cp wr
 n4:q.w.heap.size<=q.fb
 bZ:mh c q.w wr
theorem CM.kept {c:WC}{W0:World}{q:CC}{pile loc mem:List Int}{n gp cp:Nat}{W W':World}(h:CM c W0 q pile loc mem n gp cp W)(hB:Below W.heap.size W W'):CM c W0 q pile loc mem n gp cp W':=
 ⟨h.wk.kept hB,h.co.kept hB,h.n4,h.bZ.trans (mh.below hB)⟩
theorem CM.cut {c:WC}{W0:World}{q:CC}{pile loc mem:List Int}{n gp cp:Nat}{W:World}(h:CM c W0 q pile loc mem n gp cp W)(k:Nat)(hk:k<=pile.length):CM c W0 q (pile.take k) loc mem n gp cp W:=⟨h.wk,h.co.cut k hk,h.n4,h.bZ⟩
theorem CI.cm {c:WC}{W0:World}{q:CC}{at':Nat}{pile loc mem:List Int}{n gp cp:Nat}{wr:World}(h:CI c W0 q at' pile loc mem n gp cp wr):CM c W0 q pile loc mem n gp cp wr:=⟨h.wk,h.own,h.n4,h.bZ⟩
theorem WK.set {c:WC}{W0 W:World}{mem:List Int}{aG code:Int}(T:Vm c W0)(h:WK c W0 W mem aG code)(x:Int):WK c W0 (W.setCell ⟨c.B,6,none⟩ (.int .i64 x)) mem x code/\WK c W0 (W.setCell ⟨c.B,7,none⟩ (.int .i64 x)) mem aG x:=by
 have hr:∀o v,(W.setCell ⟨c.B,o,none⟩ v).ownsRow 0 2 1 (.slice (some ⟨c.M,0,none⟩) 64 c.Mc) 64 (mem.map iv):=fun o v=>
  h.row.kept (row:=some c.B) (aA W ⟨c.B,o,none⟩ v) (.inr (by simpa[Value.ownBlock]using Ne.symm T.ne))
 have ha:∀o v,mh c W0 (W.setCell ⟨c.B,o,none⟩ v):=fun o v=>h.bZ.trans (mh.grown (aA W ⟨c.B,o,none⟩ v) (.inr (.inl rfl)))
 exact⟨⟨ha _ _,h.box.set 6 _,hr _ _⟩,⟨ha _ _,h.box.set 7 _,hr _ _⟩⟩
theorem CM.aG {c:WC}{W0:World}{q:CC}{pile loc mem:List Int}{n gp cp:Nat}{W:World}(Q:CQ c W0 q)(h:CM c W0 q pile loc mem n gp cp W)(m:Nat):CM c W0 q pile loc mem m gp cp (W.setCell ⟨c.B,6,none⟩ (.int .i64 (m:Int))):=by obtain⟨o1,o2,o3⟩:=h.co.ord;have h4:=h.n4;have iB:=Q.bO;have hg:=aA W ⟨c.B,6,none⟩ (.int .i64 (m:Int));exact⟨(h.wk.set Q.tab (m:Int)).1,h.co.fA hg (by simp only[ne_eq,af];omega) (by simp only[ne_eq,af];omega) (by simp only[ne_eq,af];omega),h.n4,h.bZ.grow hg (.inr (.inl rfl))⟩
namespace Mn
open Hg
variable {fs : List Fn} {k aM : Nat} {pile loc mem : List Int} {a : Int}
end Mn
theorem CI.take {c:WC}{W0:World}{q:CC}{at':Nat}{pile loc mem:List Int}{n gp cp:Nat}{wr:World}(Q:CQ c W0 q)(h:CI c W0 q at' pile loc mem n gp cp wr):Hg.Typed c.fs (Mn.fn c.fs q.k) (aO.ends (Mn.fn c.fs q.k).b) (aO.fH (Mn.fn c.fs q.k).b) (Mn.zf c.fs q.k) at':=
 (Q.tab.val.acc q.k Q.lt).typ at' h.good.lt (by have:=h.good.here;omega)
theorem yE {W:World}{b g c j n:Nat}{xs:List Int}(h:W.ownsRow b 2 1 (.slice (some ⟨g,0,none⟩) n c) n (xs.map iv))(hl:xs.length=n)(hj:j<n):W.cell? ⟨g,j,none⟩=some (.int .i64 (xs.getD j 0)):=by rw[h.cellAt j (by omega),dV (by omega)];rfl
section
theorem vJ (k a b:Int)(w:World)(ha:Wd.ok a=true)(hb:Wd.ok b=true)(hk:k<1):Calls Tryz.prog 88 #[.int .i64 k, .int .i64 a, .int .i64 b] w fun e w'=>e= .returned (.tuple #[.int .i64 (Wd.dv k a b), .int .i64 (Wd.dc k a b)])/\∃q,w'=w.drewN q:=by go_enter Tryz.func88,Tryz.ntmps88;go_wp2_with(first|(go_at_call 56;refine(aD _ _).mono ?_;rintro e w' ⟨rfl,rfl⟩)|go_in);all_goals(go_ret2;exact⟨bM (Wd.lD (by omega)) (Wd.ni ha hb (by omega)),0,rfl⟩)
theorem vG (k a b:Int)(w:World)(ha:Wd.ok a=true)(hb:Wd.ok b=true)(hk:12<k):Calls Tryz.prog 88 #[.int .i64 k, .int .i64 a, .int .i64 b] w fun e w'=>e= .returned (.tuple #[.int .i64 (Wd.dv k a b), .int .i64 (Wd.dc k a b)])/\∃q,w'=w.drewN q:=by go_enter Tryz.func88,Tryz.ntmps88;go_wp2_with(first|(go_at_call 56;refine(aD _ _).mono ?_;rintro e w' ⟨rfl,rfl⟩)|go_in);all_goals(go_ret2;exact⟨bM (Wd.lD (by omega)) (Wd.ni ha hb (by omega)),0,rfl⟩)
theorem uk (k a b:Int)(w:World)(ha:Wd.ok a=false):Calls Tryz.prog 88 #[.int .i64 k, .int .i64 a, .int .i64 b] w fun e w'=>e= .returned (.tuple #[.int .i64 (Wd.dv k a b), .int .i64 (Wd.dc k a b)])/\∃q,w'=w.drewN q:=by go_enter Tryz.func88,Tryz.ntmps88;go_wp2_with(first|(go_at_call 56;refine(aD _ _).mono ?_;rintro e w' ⟨rfl,rfl⟩)|go_in);all_goals(go_ret2;exact⟨bM (Wd.yA (.inl ha)) (Wd.BK (.inl ha)),0,rfl⟩)
theorem tQ (k a b:Int)(w:World)(ha:Wd.ok a=true)(hb:Wd.ok b=false):Calls Tryz.prog 88 #[.int .i64 k, .int .i64 a, .int .i64 b] w fun e w'=>e= .returned (.tuple #[.int .i64 (Wd.dv k a b), .int .i64 (Wd.dc k a b)])/\∃q,w'=w.drewN q:=by go_enter Tryz.func88,Tryz.ntmps88;go_wp2_with(first|(go_at_call 56;refine(aD _ _).mono ?_;rintro e w' ⟨rfl,rfl⟩)|go_in);all_goals(go_ret2;exact⟨bM (Wd.yA (.inr hb)) (Wd.BK (.inr hb)),0,rfl⟩)
theorem zJ (k a b:Int)(w:World):Calls Tryz.prog 88 #[.int .i64 k, .int .i64 a, .int .i64 b] w fun e w'=>e= .returned (.tuple #[.int .i64 (Wd.dv k a b), .int .i64 (Wd.dc k a b)])/\∃q,w'=w.drewN q:=by rcases ha:Wd.ok a with _|_;{exact uk k a b w ha};rcases hb:Wd.ok b with _|_;{exact tQ k a b w ha hb};by_cases h1:k<1;{exact vJ k a b w ha hb h1};by_cases h2:12<k;{exact vG k a b w ha hb h2};have hk:k=1\/k=2\/k=3\/k=4\/k=5\/k=6\/k=7\/k=8\/k=9\/k=10\/k=11\/k=12:=by{omega};clear h1 h2;rcases hk with rfl|rfl|rfl|rfl|rfl|rfl|rfl|rfl|rfl|rfl|rfl|rfl;{exact uG a b w ha hb};{exact uf a b w ha hb};{exact vo a b w ha hb};{by_cases h0:Wd.sg b=0;{exact qF a b w ha hb h0};by_cases h1:Wd.sg a=-2147483648/\Wd.sg b=-1;{exact sH a b w ha hb h1.1 h1.2};exact qy a b w ha hb h0 h1};{exact uC a b w ha hb};{exact uQ a b w ha hb};{exact uR a b w ha hb};{exact uZ a b w ha hb};{exact uy a b w ha hb};{by_cases h:a=b;{exact oP a b w ha hb (by simpa using h)};exact oD a b w ha hb (by simpa using h)};{by_cases h:Wd.sg a<Wd.sg b;{exact oI a b w ha hb h};exact oC a b w ha hb h};by_cases h:a<b;{exact oM a b w ha hb h};exact pE a b w ha hb h
attribute [local go_sem] xu qx wP qC
end
end Go.Proofs.YthkjdjmjdlimnaaGreat
