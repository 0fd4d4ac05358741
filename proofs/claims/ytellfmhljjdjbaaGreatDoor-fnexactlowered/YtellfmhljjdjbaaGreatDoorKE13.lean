/-
  Own texts for a law: Lo9b Lo10 Insp5
-/
import Derived.Test.YtellfmhljjdjbaaGreatDoorKE10
import Derived.Test.YtellfmhljjdjbaaGreatDoorKE11
import Derived.Test.YtellfmhljjdjbaaGreatDoorKE12
namespace Go.Proofs.YtellfmhljjdjbaaGreatDoor
open Go.RowKit Go.Shelf
set_option linter.all false
set_option maxRecDepth 100000
set_option maxHeartbeats 16000000
section
variable {c : LY} {st : List Int} {W0 W : World} {v vg : Value} {out : List (Ln × Int)} {bg : List Int} {P : Nat}
theorem zt (T:TY c W0)(K:MY c st W0 W v vg out bg P)(at':Nat)(hat:at'<c.f.b.length)(hr:0<=c.H.getD at' 0)(hlen:out.length<=900)(hst:st=Lw.bD c.fs c.f c.E c.O c.H)(hout:out=(Lw.bF c.fs c.f c.E c.O c.H at').1):Calls Tryz.prog 90 #[.pointer (some ⟨c.B,0,none⟩), .int .i64 (at':Int)] W fun e w'=>∃v',e= .returned (.tuple #[])/\MY c st W0 w' v' vg (out++Lw.step c.fs c.f c.E c.O c.H at') bg w'.heap.size/\FY c.B v v' W w':=by
 have hty:=T.acc.typ at' hat hr
 have htop:=T.acc.bV at' hat
 have hok:St.ok (aC.op c.f.b at') (Hg.arg c.f.b at')=true:=St.aM T.all hat
 simp only[St.ok,ax,Wd.aW]at hok
 have qE:=Lw.l6 T.acc hat hr
 have rW:=T.ok.2.2.2.2.2
 have hsl:st.length=c.f.b.length:=by rw[hst];exact Lw.uQ _ _ _ _ _
 obtain⟨p,hp⟩:∃p,aC.op c.f.b at'=p:=⟨_,rfl⟩
 obtain⟨a,ha⟩:∃a,Hg.arg c.f.b at'=a:=⟨_,rfl⟩
 obtain⟨h,hh⟩:∃h,c.H.getD at' 0=h:=⟨_,rfl⟩
 rw[hp,ha]at hok
 rw[hh]at hr htop
 have B:∀q,p=q->TB c W0 W W at' q a h:=fun q e=>⟨hp.trans e,ha,hh,by subst e;exact⟨hok.2.1,hok.2.2,hok.1.1,hok.1.2⟩,⟨hr,htop⟩,hty⟩
 have hstep:Lw.step c.fs c.f c.E c.O c.H at'=Lw.yI c.fs c.f c.E c.O c.H at' p a (Lw.bx c.f (h-1)):=by unfold Lw.step;rw[hp,ha,hh]
 have hb1:Lw.bx c.f (h-1)+1=Lw.bx c.f h:=by unfold Lw.bx;omega
 have hb2:Lw.bx c.f (h-1)-1=Lw.bx c.f (h-2):=by unfold Lw.bx;omega
 have pJ:0<=h/\h<=20:=⟨hr,htop⟩
 have hW:∀X,p≠10/\p≠11/\p≠13/\p≠14/\p≠15/\p≠19->Lw.yI c.fs c.f c.E c.O c.H at' p a (Lw.bx c.f (h-1))=X->(∀(W1:World),Below W.heap.size W W1->Calls Tryz.prog 126 #[.pointer (some ⟨c.B,0,none⟩), .agg #[.int .i64 p, .int .i64 a], .int .i64 h] W1 fun e w'=>∃v',e= .returned (.tuple #[])/\MY c st W0 w' v' vg (out++X) bg w'.heap.size/\FY c.B v v' W1 w')->
     Calls Tryz.prog 90 #[.pointer (some ⟨c.B,0,none⟩), .int .i64 (at':Int)] W fun e w'=>∃v',e= .returned (.tuple #[])/\MY c st W0 w' v' vg (out++Lw.step c.fs c.f c.E c.O c.H at') bg w'.heap.size/\FY c.B v v' W w':=fun X hne e hw=>by
   rw[hstep,e]
   exact xQ T K at' hat p a h (B p rfl) hlen hne X hw
 have hgo:=fun(x:Ln×Int) hx=>qE x hx
 rw[hstep]at hgo
 have NN:=fun dp=>Lw.jS T.acc hat dp
 have Mi:=fun dp=>Lw.ES (fs:=c.fs) (H:=c.H) T.acc.Dg T.all T.ok.2.2.2.2.1 hat dp
 have BA:∀x:Int,x=0\/x=1->((decide (0<x)=true)↔x=1):=fun x hx=>by rw[decide_eq_true_eq];omega
 have hk:p=1\/p=2\/p=3\/p=4\/p=5\/p=6\/p=7\/p=8\/p=9\/p=10\/p=11\/p=12\/p=13\/p=14\/p=15\/p=16\/p=17\/p=18\/p=19\/p=20:=by omega
 rcases hk with e|e|e|e|e|e|e|e|e|e|e|e|e|e|e|e|e|e|e|e
 · subst e;exact hW _ (by decide) (by rw[←hb1];rfl) (fun W1 hB=>yO T (K.kept hB) a h pJ (by omega))
 · subst e;exact hW _ (by decide) (by rw[←hb1];rfl) (fun W1 hB=>x9 T (K.kept hB) a h pJ (by omega))
 · subst e;exact hW _ (by decide) rfl (fun W1 hB=>yN T (K.kept hB) a h pJ (by omega))
 · subst e;exact hW _ (by decide) rfl (fun W1 hB=>yh T (K.kept hB) a h pJ (by omega))
 · subst e;exact hW _ (by decide) (by rw[←hb2];rfl) (fun W1 hB=>xY T (K.kept hB) a h pJ (by omega))
 · subst e;exact hW _ (by decide) rfl (fun W1 hB=>yH T (K.kept hB) a h pJ (by omega))
 · subst e;exact hW _ (by decide) rfl (fun W1 hB=>ja T (K.kept hB) 7 a h (by decide) pJ)
 · subst e;exact hW _ (by decide) rfl (fun W1 hB=>ja T (K.kept hB) 8 a h (by decide) pJ)
 · subst e;exact hW _ (by decide) rfl (fun W1 hB=>ja T (K.kept hB) 9 a h (by decide) pJ)
 · subst e;have hg:=(hgo (⟨6,0,Lw.bx c.f (h-1),0,0,[]⟩,if 0<=aC.aO c.O at' then aC.aO c.O at'+1 else aC.aO c.E at') (List.mem_cons_of_mem _ (List.mem_singleton.2 rfl)));have hi:=hty.iff hp;rw[hstep];refine vP T K at' hat a h (B 10 rfl) hlen ⟨?_,by rw[hsl];exact hg.2⟩ (by omega);split;{omega};rcases hi with⟨h1,-⟩|⟨-,h1,-⟩<;>omega
 · subst e;have hi:=hty.yP hp;have hg:=(hgo (⟨5,0,0,0,0,[]⟩,aC.aO c.E at') (List.mem_singleton.2 rfl));rw[hstep];exact vz T K at' hat a h (B 11 rfl) hlen ⟨hi.1,by rw[hsl];exact hg.2⟩
 · subst e;exact hW _ (by decide) rfl (fun W1 hB=>ja T (K.kept hB) 12 a h (by decide) pJ)
 · subst e;have hJ:=hty.jump hp;rw[ha]at hJ;have Mj:0<=a/\a<=9:=hok.2;have hx:Lw.yI c.fs c.f c.E c.O c.H at' 13 a (Lw.bx c.f (h-1))=((if decide (0<(Lw.bT c.f c.E c.H at' a).2.2)=true/\(Lw.bT c.f c.E c.H at' a).2.1≠Lw.bx c.f (h-1)then[(⟨2,(Lw.bT c.f c.E c.H at' a).2.1,Lw.bx c.f (h-1),0,0,[]⟩,-1)]else[])++[(⟨5,0,0,0,0,[]⟩,(Lw.bT c.f c.E c.H at' a).1)]):=by{simp only[BA _ (Mi a)];rfl};rw[hstep,hx];refine uY T K at' hat a h (B 13 rfl) hlen Mj.1 (by omega) (fun t h1 h2=>?_) ⟨(NN a).1,by rw[hsl];exact(NN a).2⟩;obtain⟨t',e1,e2,e3,e4,-⟩:=hJ.1 h1;rw[h2]at e1;have:t=t':=by{omega};subst this;exact e4
 · subst e;have hJ:=hty.Ny hp;rw[ha]at hJ;have Mj:0<=a/\a<=9:=hok.2;have hnx:=hty.next (by rw[hp];decide) (by rw[hp];decide) (by rw[hp];decide) (by rw[hp];decide) (by rw[hp];decide);have hx:Lw.yI c.fs c.f c.E c.O c.H at' 14 a (Lw.bx c.f (h-1))=(if decide (0<(Lw.bT c.f c.E c.H at' a).2.2)=true/\(Lw.bT c.f c.E c.H at' a).2.1≠Lw.bx c.f (h-1)-1 then[(⟨4,Lw.bx c.f (h-1),Lw.bx c.f (h-1),0,0,[]⟩,-1),(⟨6,0,Lw.bx c.f (h-1),0,0,[]⟩,(at':Int)+1),(⟨2,(Lw.bT c.f c.E c.H at' a).2.1,Lw.bx c.f (h-1)-1,0,0,[]⟩,-1),(⟨5,0,0,0,0,[]⟩,(Lw.bT c.f c.E c.H at' a).1)]else[(⟨6,0,Lw.bx c.f (h-1),0,0,[]⟩,(Lw.bT c.f c.E c.H at' a).1)]):=by{simp only[BA _ (Mi a)];rfl};have Mk:decide (0<(Lw.bT c.f c.E c.H at' a).2.2)=true/\(Lw.bT c.f c.E c.H at' a).2.1≠Lw.bx c.f (h-1)-1->(Lw.step c.fs c.f c.E c.O c.H at').length=4:=fun hc=>by{rw[hstep,hx,az hc];rfl};rw[hstep,hx];refine vW T K at' hat a h (B 14 rfl) hlen Mj.1 (by omega) (fun t h1 h2=>?_) ⟨(NN a).1,by rw[hsl];exact(NN a).2⟩ ((at':Int)+1) ?_;{obtain⟨t',e1,e2,e3,e4,-⟩:=hJ.1 h1;rw[h2]at e1;have:t=t':=by{omega};subst this;exact e4};by_cases hc:decide (0<(Lw.bT c.f c.E c.H at' a).2.2)=true/\(Lw.bT c.f c.E c.H at' a).2.1≠Lw.bx c.f (h-1)-1;{left;refine⟨by omega,by rw[hsl];omega,?_⟩;rw[show((at':Int)+1).toNat=at'+1 by omega,hst,Lw.yG _ _ _ _ _ hnx.1,(Lw.tL c.fs c.f c.E c.O c.H at').1,az (by rw[hh];exact hr),List.length_append,Mk hc,hout];omega};exact .inr hc
 · subst e
   have hx:Lw.yI c.fs c.f c.E c.O c.H at' 15 a (Lw.bx c.f (h-1))=((if decide (0<c.f.g)=true/\Lw.bx c.f 0≠Lw.bx c.f (h-1)then[(⟨2,Lw.bx c.f 0,Lw.bx c.f (h-1),0,0,[]⟩,-1)]else[])++[(⟨5,0,0,0,0,[]⟩,(c.f.b.length:Int)-1)]):=by
    have hal:=aC.jU c.f.b c.E at' at'
    have hlo:Lw.bT c.f c.E c.H at' 99=((c.f.b.length:Int)-1,Lw.bx c.f 0,c.f.g):=Lw.ko (by
     show¬(99:Nat)<_
     omega)
    have e1:Lw.yI c.fs c.f c.E c.O c.H at' 15 a (Lw.bx c.f (h-1))=((if(Lw.bT c.f c.E c.H at' 99).2.2=1/\(Lw.bT c.f c.E c.H at' 99).2.1≠Lw.bx c.f (h-1)then[(⟨2,(Lw.bT c.f c.E c.H at' 99).2.1,Lw.bx c.f (h-1),0,0,[]⟩,-1)]else[])++[(⟨5,0,0,0,0,[]⟩,(Lw.bT c.f c.E c.H at' 99).1)]):=rfl
    rw[e1,hlo]
    simp only[BA _ T.ok.2.2.2.2.1]
   rw[hstep,hx]
   exact vN T K at' hat a h (B 15 rfl) hlen ⟨by omega,by rw[hsl];omega⟩
 · subst e;have Mj:0<=a/\a<=3:=hok.2;obtain⟨n,rfl⟩:=Int.eq_ofNat_of_zero_le Mj.1;have mV:=hty.call hp;rw[ha]at mV;have htk:=hty.take;rw[hp,ha,hh]at htk;have Tu:(c.fs.getD n .z).a<=h:=htk;refine hW _ (by decide) ?_ (fun W1 hB=>vk T (K.kept hB) n (by omega) h pJ Tu (by omega));have hbx:Lw.bx c.f (h-1)-(c.fs.getD n .z).a+1=Lw.bx c.f (h-(c.fs.getD n .z).a):=by{unfold Lw.bx;omega};rw[←hbx];rfl
 · subst e;exact hW _ (by decide) rfl (fun W1 hB=>uK T (K.kept hB) a h pJ (by omega))
 · subst e;exact hW _ (by decide) (by rw[←hb2];rfl) (fun W1 hB=>uM T (K.kept hB) a h pJ (by omega))
 · subst e;rw[hstep];exact ve T K at' hat a h (B 19 rfl) hlen
 · subst e;exact hW _ (by decide) rfl (fun W1 hB=>ja T (K.kept hB) 20 a h (by decide) pJ)
end
section
variable {c : LY} {st : List Int} {W0 W : World} {v vg : Value} {out : List (Ln × Int)} {bg : List Int} {P : Nat}
theorem Ck (T:TY c W0)(K:MY c st W0 W v vg out bg P)(hlen:out.length<=990):Calls Tryz.prog 91 #[.pointer (some ⟨c.B,0,none⟩)] W fun e w'=>∃v',e= .returned (.tuple #[])/\MY c st W0 w' v' vg (out++Lw.last c.f) bg w'.heap.size/\FY c.B v v' W w':=by have hbx:=bJ T K 0 (by decide) (by decide);have hsp:=pY T K;have d3:=(K.box.2 3 _ rfl).1;have HG:=af T.ok.2.2.2.2.1;obtain⟨gg,hgg⟩:∃g,c.f.g=g:=⟨_,rfl⟩;have hb0:Lw.bx c.f 0=Lw.wd c.f:=by{unfold Lw.bx;omega};rw[hb0]at hbx;rw[hgg]at d3 HG;have HL:Hid (Lw.last c.f=if gg=0 then[(⟨1,Lw.wd c.f+20,0,0,0,[]⟩,-1),(⟨10,0,Lw.wd c.f+20,0,0,[]⟩,-1)]else[(⟨10,0,Lw.wd c.f,0,0,[]⟩,-1)]):=by{show _=_;unfold Lw.last;rw[hgg]};have HK:=af (au T K);clear hgg T K hb0;generalize Lw.wd c.f=u at*;rcases HG.out with rfl|rfl;{rw[HL.out,az rfl];have ha:=cK HK.out.1 HK.out.2 ⟨1,u+20,0,0,0,[]⟩ 143 (.agg #[.int .i64 (u+20), .int .i64 0]) rfl (by simp) rfl (by simp) (by omega);go_enter Tryz.func91,Tryz.ntmps91;go_wp2_with(first|(go_at_call 118;refine hbx.mono ?_;rintro e w' ⟨rfl,dw⟩;subst w';dsimp only)|(go_at_call 127;refine hsp.mono ?_;rintro e w' ⟨rfl,dw⟩;subst w';dsimp only));refine ha.mono ?_;rintro e w2 ⟨v2,rfl,K2,F2⟩;dsimp only;have ha2:=cK HK.out.1 K2 ⟨10,0,u+20,0,0,[]⟩ 198 (.agg #[.int .i64 (u+20)]) rfl (by simp) rfl (by simp) (by simp only[List.length_append,List.length_singleton];omega);rw[List.append_assoc]at ha2;have HF:=af F2;clear K2 F2 ha hbx hsp d3;go_wp2_with fail;refine ha2.mono ?_;rintro e w3 ⟨v3,rfl,K3,F3⟩;dsimp only;go_wp2;(try simp only[Exit.inBlock,Exit.then]);exact bodyPost_end (results_none rfl _ _ _) rfl ⟨_,rfl,K3,HF.out.trans F3⟩};rw[HL.out,ay (by decide)];have ha2:=cK HK.out.1 HK.out.2 ⟨10,0,u,0,0,[]⟩ 198 (.agg #[.int .i64 u]) rfl (by simp) rfl (by simp) (by omega);clear HK HL HG;go_enter Tryz.func91,Tryz.ntmps91;go_wp2_with(go_at_call 118;refine hbx.mono ?_;rintro e w' ⟨rfl,dw⟩;subst w';dsimp only);refine ha2.mono ?_;rintro e w3 ⟨v3,rfl,K3,F3⟩;dsimp only;go_wp2;(try simp only[Exit.inBlock,Exit.then]);exact bodyPost_end (results_none rfl _ _ _) rfl ⟨_,rfl,K3,F3⟩
theorem MY.begin {W1 W2:World}{iq:Value}(K:MY c st W0 W v vg out bg P)(hW:W0.heap.size<=c.B)(hB1:Below W.heap.size W W1)(x:Int)(hrow:W2.ownsRow (c.B+1) 2 1 iq (bg.length+1) (bg.map iv++[.int .i64 x]))(hg:W1.grownBy W2 vg.ownBlock)(hat:iq.ownBlock=vg.ownBlock\/iq.ownBlock=some W1.heap.size):MY c st W0 (W2.setCell ⟨c.B,8,none⟩ iq) v iq out (bg++[x]) P:=by obtain⟨D,cs,us,r1,r2,r3,r4,r5,r6⟩:=K.row;have gB:∀g,vg.ownBlock=some g->c.B+1<=g:=fun g hg=>(aS K.yZ hg).1;have gs:=aL W2 ⟨c.B,8,none⟩ iq;have FI:=((K.box.kept hB1).gz hg (fun e=>by have:=gB c.B e;omega)).set 8 iq;have hint:89≠2:=by{decide};have Dh:OI W1 (c.B+1) vg bg:=K.yZ.kept hB1;have s1:=aD r1 hB1;have s2:=bL s1 hg (fun g e=>dR s1 Dh hint e);have s3:=bL s2 gs (fun g e=>by have:=(aS s2 e).1;simp only[ne_eq,ah];omega);have hr3:=bL hrow gs (fun g e=>by have:=(aS hrow e).1;simp only[ne_eq,ah];omega);have b1:=K.bA.trans (hB1.mono K.bA.size);have b2:=aV b1 hg (fun g e=>by have:=gB g e;omega);have b3:=aV b2 gs (fun g e=>by cases e;exact hW);have pK:W1.heap.size<=(W2.setCell ⟨c.B,8,none⟩ iq).heap.size:=Nat.le_trans hg.size gs.size;refine⟨b3,FI,Nat.le_trans K.sz (Nat.le_trans hB1.size pK),⟨D,cs,us,s3,r2,r3,fun j hj=>(r4 j hj).same (fun g hg'=>?_) (fun g h=>h),fun g hg'=>?_,r6⟩,?_⟩;{obtain⟨a1,a2,a3,a4⟩:=r5 g hg';exact(gs.block g (ak a2 (Nat.le_trans hB1.size hg.size)) (by simp only[ne_eq,ah];omega)).trans ((hg.block g (ak a2 hB1.size) (fun e=>a4 e.symm)).trans (hB1.block g a2))};{obtain⟨a1,a2,a3,a4⟩:=r5 g hg';refine⟨a1,ak a2 (Nat.le_trans hB1.size pK),a3,?_⟩;rcases hat with e|e;{rw[e];exact a4};have:=hB1.size;rw[e];simp only[ne_eq,ah];omega};show World.ownsRow _ _ _ _ _ _ _;rw[List.length_append,List.map_append];exact hr3
theorem Lw.vL {f:Fn}{i:Nat}(hi:i<f.l.toNat):(Lw.first f).take (i+1)=(Lw.first f).take i++[(⟨1,f.a+(i:Int),0,0,0,[]⟩,-1)]:=by rw[List.take_add_one];congr 1;unfold Lw.first;simp[hi]
theorem wH (T:TY c W0)(K:MY c st W0 W v vg [] [] P)(hst:st=Lw.bD c.fs c.f c.E c.O c.H):Calls Tryz.prog 60 #[.pointer (some ⟨c.B,0,none⟩)] W fun e w'=>∃v' iq,e= .returned (.tuple #[])/\MY c st W0 w' v' iq (Lw.raw c.fs c.f c.E c.O c.H) (Lw.bD c.fs c.f c.E c.O c.H) w'.heap.size:=by
 obtain⟨j0,hj,hy0,hy1,hy2⟩:=info_parts bW
 have hok:=T.ok
 obtain⟨ln,hln⟩:=Int.eq_ofNat_of_zero_le hok.2.2.1
 have hKt:=K.tight
 have d1:=(K.box.2 1 _ rfl).1
 have hwd:Lw.wd c.f=c.f.a+(ln:Int):=by unfold Lw.wd;rw[hln]
 have hl3:ln<=3:=by omega
 have Tv:c.f.l.toNat=ln:=by omega
 have hfl:(Lw.first c.f).length=ln:=by unfold Lw.first;simp[Tv]
 have HT:=af (au T hst)
 have Cg:=af (au hfl (au Tv hwd))
 obtain⟨fa,hfa⟩:∃x,c.f.a=x:=⟨_,rfl⟩
 rw[hfa]at d1 hok
 have hf0:0<=fa/\fa<=3:=⟨hok.1,hok.2.1⟩
 have Vn:=af hfa
 clear hok hln hwd Tv hfl hfa T hst
 go_enter Tryz.func60,Tryz.ntmps60
 go_wp2
 go_loopw [2] (fun i wr=>∃(k:Nat)(v:Value),i= .int .i64 (fa+(k:Int))/\k<=ln/\MY c st W0 wr v vg ((Lw.first c.f).take k) [] wr.heap.size) (fun i _=>(fa+(ln:Int)-intOf i).toNat)
 case atStart=>exact⟨0,v,by congr 1;omega,Nat.zero_le _,by rw[List.take_zero];exact hKt⟩
 case round=>
  obtain⟨k,v2,rfl,hk,Kk⟩:=hrel
  clear hKt K d1
  have d5:=(Kk.box.2 5 _ rfl).1
  rw[Cg.out.2.2,Vn.out]at d5
  by_cases hlt:k<ln
  · have Yq:fa+(k:Int)<fa+(ln:Int):=by{omega};have ha:=cK HT.out.1 Kk ⟨1,fa+(k:Int),0,0,0,[]⟩ 143 (.agg #[.int .i64 (fa+(k:Int)), .int .i64 0]) rfl (by simp) rfl (by simp) (by rw[List.length_take];omega);clear Kk;go_wp2_with fail;refine ha.mono ?_;rintro e w2 ⟨v3,rfl,K3,F3⟩;dsimp only;have Tw:=af K3;clear ha K3 F3 d5;go_wp2;go_roundw;(case rel=>refine⟨k+1,v3,by congr 1;omega,by omega,?_⟩;rw[Lw.vL (by rw[Cg.out.2.1];exact hlt),Vn.out];exact Tw.out);case measure=>simp[intOf];omega
  · obtain rfl:k=ln:=by omega
    have Yq:¬(fa+(k:Int)<fa+(k:Int)):=by omega
    have Ml:MY c st W0 wr v2 vg (Lw.bF c.fs c.f c.E c.O c.H 0).1 (Lw.bF c.fs c.f c.E c.O c.H 0).2 wr.heap.size:=by have e:(Lw.first c.f).take k=Lw.first c.f:=by{rw[List.take_of_length_le];rw[Cg.out.1];exact Nat.le_refl _};rw[e]at Kk;exact Kk
    have d4:=(Kk.box.2 4 _ rfl).1
    have rW:=HT.out.1.ok.2.2.2.2.2
    obtain⟨bl,hbl⟩:∃n,c.f.b.length=n:=⟨_,rfl⟩
    rw[hbl]at d4 rW
    have BZ:=af hbl
    clear hbl Kk
    go_wp2
    go_loopw [28] (fun i wx=>∃(k:Nat)(v vg:Value),i= .int .i64 (k:Int)/\k<=bl/\MY c st W0 wx v vg (Lw.bF c.fs c.f c.E c.O c.H k).1 (Lw.bF c.fs c.f c.E c.O c.H k).2 wx.heap.size) (fun i _=>bl-(intOf i).toNat)
    case atStart=>exact⟨0,v2,vg,rfl,Nat.zero_le _,Ml⟩
    case round=>
     obtain⟨i,v5,Yr,rfl,hi,Ki⟩:=hrel
     clear Ml d4 d5
     have oJ:=Lw.fZ c.fs c.f c.E c.O c.H i
     have T:=HT.out.1
     have hst:=HT.out.2
     have hll:(Lw.bF c.fs c.f c.E c.O c.H i).1.length<=900:=by have:=Cg.out.2.1;omega
     have hz:W0.heap.size<=c.B:=T.lt
     by_cases hlt:i<bl
     · have rU:(i:Int)<(bl:Int):=by omega
       obtain⟨n,hn⟩:∃n:Int,((Lw.bF c.fs c.f c.E c.O c.H i).1.length:Int)=n:=⟨_,rfl⟩
       have hrw:=kV (Ki.kept (Below.refl _ _).drew) (by omega)
       rw[hn]at hrw
       have mW:wr.ownsRow (c.B+1) 2 1 Yr i ((Lw.bF c.fs c.f c.E c.O c.H i).2.map iv):=by have:=Ki.yZ;unfold OI at this;rwa [oJ.2]at this
       obtain⟨ga,cg,rfl⟩:=aQ mW
       have hBa:=(aB wr (.cells #[.int .i64 n] 2)).trans ((Below.refl _ (wr.alloc (.cells #[.int .i64 n] 2))).drew.mono (aB wr (.cells #[.int .i64 n] 2)).size)
       have hb2:=Ki.box.kept hBa
       have d8:=(Ki.box.2 8 _ rfl).1
       have HRW:=af (aD mW hBa)
       have HB:=af hb2
       have hgB:∀g,(Value.slice ga i cg).ownBlock=some g->c.B+1<=g:=fun g hg=>(aS mW hg).1
       have hKn:=fun(W2:World) (iq:Value) hrow hg hat=>MY.begin (W2:=W2) (iq:=iq) Ki hz hBa n (by rw[oJ.2];exact hrow) hg hat
       have HK:=af hKn
       have HN:=af hn
       have lB:c.B<wr.heap.size:=Ki.sz
       have HU:=af (au T (au hst (au oJ hll)))
       clear mW hb2 hBa Ki hKn hn oJ T hst hll
       go_wp2
       go_region_law (first
         |(refine mr _ rfl (.tmp 35) (.tmp 38) 39 rfl (c.B+1) 2 j0 (.int .i64 0) 1 8 Tryz.underlying39 hj hy0 hy1 hy2 rfl (by decide) (.slice ga i cg) i _ (by simp[Act.eval]) HRW.out ⟨wr.heap.size,0,none⟩ 1 1 [.int .i64 n] (by simp[Act.eval]) rfl (lm wr _ _ 2 _ rfl (fun i=>rfl)) (by simp[Value.oneCell']) (by simp only[maxLen];omega) (by omega) (by simp;omega) ?_;intro v' wA hown' hgrow _ hat;obtain⟨g',cap',rfl⟩:=ownsRow_succ hown';have jF:=HB.out.gz hgrow (fun e=>by have:=hgB c.B e;omega);have cA:=(jF.2 8 _ rfl).1;have fA:=(jF.2 8 _ rfl).2;have dY:=af (au hown' (au hgrow hat));have lA:=jF.1;clear hown' hgrow jF hat)
         |(go_simp;refine hrw.mono ?_;rintro e w' ⟨rfl,dw⟩;subst w';dsimp only))
       all_goals have K6:=HK.out _ _ dY.out.1 dY.out.2.1 dY.out.2.2;clear dY HRW HB cA fA lA HK hrw d8;generalize hW3:wA.setCell ⟨c.B,8,none⟩ (.slice (some ⟨g',0,none⟩) (i+1) cap')=W3 at K6;obtain⟨T,hst,oJ,hll⟩:=HU.out;have d7:=(K6.box.2 7 _ rfl).1;have Sz:∃b off,c.ha=some ⟨b,off,none⟩/\W3.cell? ⟨b,off+i,none⟩=some (.int .i64 (c.H.getD i 0)):=by{obtain⟨hl,-,h0|⟨b,off,e,hb,hx⟩⟩:=(T.il K6.bA).2.1;{have:=BZ.out;omega};exact⟨b,off,e,hx i (by rw[BZ.out];exact hlt)⟩};obtain⟨hb,ho,he,y2⟩:=Sz;rw[he,BZ.out]at d7;have hlow:=T.Su i (by rw[BZ.out];exact hlt);have hpre:=Lw.tL c.fs c.f c.E c.O c.H i;rw[HN.out]at hpre;obtain⟨hi9,hhi⟩:∃x,c.H.getD i 0=x:=⟨_,rfl⟩;rw[hhi]at y2 hlow;by_cases hr:0<=hi9;{have hne:(hi9==-1)=false:=by{simp;omega};have ht:=zt T K6 i (by rw[BZ.out];exact hlt) (by rw[hhi];exact hr) hll hst rfl;rw[az (by rw[hhi];exact hr)]at hpre;have HP:=af hpre;clear K6 hpre hhi oJ hll hst T hr hlow he;go_wp2_with fail;refine ht.mono ?_;rintro e w8 ⟨v8,rfl,K8,F8⟩;dsimp only;have Tx:=af K8;clear ht K8 F8 d7 y2;go_wp2;go_roundw;(case rel=>exact⟨i+1,v8,_,by congr 1<;>omega,by omega,by rw[HP.out.1,HP.out.2];exact Tx.out⟩);case measure=>simp[intOf];omega};obtain rfl:hi9=-1:=by{omega};rw[ay (by rw[hhi];exact hr),List.append_nil]at hpre;have HP:=af hpre;have Tx:=af K6.tight;clear K6 hpre hhi oJ hll hst T hr hlow he;go_wp2;go_roundw;(case rel=>exact⟨i+1,v5,_,by congr 1<;>omega,by omega,by rw[HP.out.1,HP.out.2];exact Tx.out⟩);case measure=>simp[intOf];omega
     · obtain rfl:i=bl:=by{omega};have rU:¬((i:Int)<(i:Int)):=by{omega};have he:=Ck T Ki (by omega);have HR:Hid ((Lw.bF c.fs c.f c.E c.O c.H i).1++Lw.last c.f=Lw.raw c.fs c.f c.E c.O c.H/\(Lw.bF c.fs c.f c.E c.O c.H i).2=Lw.bD c.fs c.f c.E c.O c.H):=by{show _/\_;unfold Lw.raw Lw.bD;rw[BZ.out];exact⟨rfl,rfl⟩};rw[HR.out.1,HR.out.2]at he;clear Ki oJ T hst hll;go_wp2_with fail;refine he.mono ?_;rintro e w8 ⟨v8,rfl,K8,F8⟩;dsimp only;go_wp2;(try simp only[Exit.inBlock,Exit.then]);exact bodyPost_end (results_none rfl _ _ _) rfl ⟨_,_,rfl,K8⟩
end
section
variable {c : IC} {h : Int} {H : List Int} {S : List bq} {W : World}
def Ref (s:jh)(e:Ending):Prop:=∃ad,ad∈s.rest/\e= .returned (dm ad)
theorem Bc (s:jh)(bu:jd s c.w)(fs:List Fn)(hfs:FL c.w c.a c.len fs)(hsl:SL c.w c.ba c.bl c.f.b)(iB:c.bl<=80)(i:Nat)(hi:i<c.bl)(p q o:Int)(hpq:c.f.b.getD i (0,0)=(p,q))(ho:c.O.getD i (-1)=o)(hol:-1<=o)(hok:St.ok p q=true)(hfa:0<=c.f.a/\c.f.a<=3)(hfl:0<=c.f.l/\c.f.l<=3)(hS:S.length<=81)(hs:IS c h H S W):Calls Tryz.prog 111 #[.pointer (some ⟨c.N,0,none⟩), .int .i64 i] W fun e w'=>(if Hg.bad fs c.f o S.length p q=true then Ref s e else e= .returned .nilIface)/\Below W.heap.size W w':=by have gM:=St.gK hok;have BB:Wd.eY q (St.least p) (St.aX p)=true:=by{rw[St.ok,ax]at hok;exact hok.2};have BB:=Wd.aW.1 BB;obtain⟨av,cv,hr,hb⟩:=hs.cells;have c0:=(hb.2 0 _ rfl).1;have c4:=(hb.2 4 _ rfl).1;have c5:=(hb.2 5 _ rfl).1;have c6:=(hb.2 6 _ rfl).1;have hN:=hs.si;have Nw:c.gO<W.heap.size:=by{have:=hs.iO;have:=hs.hm;omega};have e0:=dx hs.rO hi (-1);rw[ho]at e0;have hsk:=hsl.kept hs.bA;obtain⟨hsl1,-,dH⟩:=hsk;rcases dH with h0|⟨bb,bo,BC,hbb,gD⟩;{omega};rw[BC]at c4;obtain⟨z0,z1⟩:=gD i hi;rw[hpq]at z0 z1;simp only at z0 z1;have Mo:=hfs.1;have hfm:=hfs.2.1;unfold maxLen at hfm;have hsw:=bu.kept hs.bA bu.sz;have g1:=hsw.lo;have g2:=hsw.ca;have g3:=hsw.la;have g4:=hsw.el;have hsz:=hsw.sz;have y1:4<W.heap.size:=by{omega};have y2:5<W.heap.size:=by{omega};have y3:6<W.heap.size:=by{omega};have y4:7<W.heap.size:=by{omega};have hB1:=aB W (.cells #[.int .i64 p, .int .i64 q] 121);have HS:=af (hs.kept hB1);have HL:=af Mo;unfold dm at g1 g2 g3 g4;clear gD BC hr hb hs hsl hfs hpq ho hsw bu hok hsl1 Mo;by_cases hoth:p≠2/\p≠3/\p≠4/\p≠10/\p≠13/\p≠14/\p≠16;{obtain⟨k2,k3,k4,k10,k13,k14,k16⟩:=hoth;have l2:(p==2)=false:=by{simpa using k2};have l3:(p==3)=false:=by{simpa using k3};have l4:(p==4)=false:=by{simpa using k4};have l10:(p==10)=false:=by{simpa using k10};have Tt:(p==13)=false:=by{simpa using k13};have Vk:(p==14)=false:=by{simpa using k14};have Yt:(p==16)=false:=by{simpa using k16};have hbad:Hg.bad fs c.f o S.length p q=false:=by{unfold Hg.bad;simp[k2,k3,k4,k16,k13,k14,k10]};rw[hbad];clear hbad k2 k3 k4 k10 k13 k14 k16;go_enter Tryz.func111,Tryz.ntmps111;go_wp2;go_ret;exact⟨rfl,hB1⟩};have hk:(p=2\/p=3\/p=4)\/p=10\/(p=13\/p=14)\/p=16:=by{omega};clear hoth;rcases hk with hk|rfl|hk|rfl;{by_cases hloc:c.f.a+c.f.l<=q;{have hbad:Hg.bad fs c.f o S.length p q=true:=by{unfold Hg.bad;simp[hk,hloc]};rw[hbad];clear hbad;rcases hk with rfl|rfl|rfl;all_goals clear BB;go_enter Tryz.func111,Tryz.ntmps111;go_wp2;go_quiet (fail);go_wp2;go_ret;exact⟨⟨s.lo,by simp[jh.rest],rfl⟩,hB1.trans ((dD _ _).mono hB1.size)⟩};have hbad:Hg.bad fs c.f o S.length p q=false:=by{unfold Hg.bad;simp;omega};rw[hbad];clear hbad;have Vo:¬(c.f.a+c.f.l<=q):=hloc;rcases hk with rfl|rfl|rfl;all_goals clear BB;go_enter Tryz.func111,Tryz.ntmps111;go_wp2;go_quiet (fail);go_wp2;go_ret;exact⟨rfl,hB1.trans ((dD _ _).mono hB1.size)⟩};{simp only[St.least,St.aX]at BB;have hq1:0<=q/\q<=1:=by{simpa using BB};clear BB;by_cases hq:q=1;{subst hq;by_cases ho0:o=-1;{subst ho0;have hbad:Hg.bad fs c.f (-1) S.length 10 1=true:=by{simp[Hg.bad]};rw[hbad];clear hbad hol;go_enter Tryz.func111,Tryz.ntmps111;go_wp2;go_ret;exact⟨⟨s.el,by simp[jh.rest],rfl⟩,hB1⟩};have hbad:Hg.bad fs c.f o S.length 10 1=false:=by{simp[Hg.bad];omega};rw[hbad];have ho1:(o==-1)=false:=by{simpa using ho0};clear hbad ho0;go_enter Tryz.func111,Tryz.ntmps111;go_wp2;go_ret;exact⟨rfl,hB1⟩};have hq0:q=0:=by{omega};subst hq0;have hbad:Hg.bad fs c.f o S.length 10 0=false:=by{simp[Hg.bad]};rw[hbad];clear hbad hq hq1;go_enter Tryz.func111,Tryz.ntmps111;go_wp2;go_ret;exact⟨rfl,hB1⟩};{have hq1:0<=q:=by{have h1:St.least p=0:=by{unfold St.least;rw[ay (by omega)]};omega};clear BB;have hcon:=jA q hq1 hS HS.out;by_cases hlb:q<S.length;{have hbad:Hg.bad fs c.f o S.length p q=false:=by{unfold Hg.bad;simp;omega};rw[hbad];rw[decide_eq_true hlb]at hcon;clear hbad hlb;rcases hk with rfl|rfl;all_goals go_enter Tryz.func111,Tryz.ntmps111;go_wp2_with fail;refine hcon.mono ?_;rintro e w1 ⟨rfl,hB2⟩;clear hcon;have hB3:=hB1.trans (hB2.mono hB1.size);clear hB2;go_wp2;go_ret;exact⟨rfl,hB3⟩};have hbad:Hg.bad fs c.f o S.length p q=true:=by{unfold Hg.bad;simp;omega};rw[hbad];rw[decide_eq_false hlb]at hcon;clear hbad hlb;rcases hk with rfl|rfl;all_goals go_enter Tryz.func111,Tryz.ntmps111;go_wp2_with fail;refine hcon.mono ?_;rintro e w1 ⟨rfl,hB2⟩;clear hcon;have hB3:=hB1.trans (hB2.mono hB1.size);have g3':=(hB3.cell (p:=⟨6,0,none⟩) (by simp only;omega)).trans g3;clear hB2;go_wp2;go_ret;exact⟨⟨s.la,by simp[jh.rest],rfl⟩,hB3⟩};simp only[St.least,St.aX]at BB;have hq1:0<=q/\q<=3:=by{simpa using BB};clear BB;by_cases hcl:(c.len:Int)<=q;{have hbad:Hg.bad fs c.f o S.length 16 q=true:=by{have:=HL.out;simp[Hg.bad];omega};rw[hbad];clear hbad;go_enter Tryz.func111,Tryz.ntmps111;go_wp2;go_quiet (fail);go_wp2;go_ret;exact⟨⟨s.ca,by simp[jh.rest],rfl⟩,hB1.trans ((dD _ _).mono hB1.size)⟩};have hbad:Hg.bad fs c.f o S.length 16 q=false:=by{have:=HL.out;simp[Hg.bad];omega};rw[hbad];clear hbad;go_enter Tryz.func111,Tryz.ntmps111;go_wp2;go_quiet (fail);go_wp2;go_ret;exact⟨rfl,hB1.trans ((dD _ _).mono hB1.size)⟩
theorem yU {W w3:World}(hB:Below W.heap.size W w3)(N i:Nat)(v:Value):W.grownBy (w3.setCell ⟨N,i,none⟩ v) (some N):=by have hg:w3.grownBy (w3.setCell ⟨N,i,none⟩ v) (some N):=aL w3 ⟨N,i,none⟩ v;exact⟨hg.os.trans hB.os,hg.tape.trans hB.tape,hg.output.trans hB.output,Nat.le_trans hB.size hg.size,fun k hk hne=>(hg.block k (ak hk hB.size) hne).trans (hB.block k hk)⟩
theorem Ci (s:jh)(bu:jd s c.w)(fs:List Fn)(hfs:FL c.w c.a c.len fs)(p q:Int)(hp:1<=p/\p<=20)(Mq:p=16->0<=q/\q<c.len)(Mr:p=13\/p=14->0<=q)(x:bq)(hS:S.length<=80)(hx:0<=x.st/\x.st<=100)(hw:0<=x.wd/\x.wd<=1)(hh:0<=h/\h<=100)
   (htk:0<=Hg.tk fs p q/\Hg.tk fs p q<=3) (hpt:0<=Hg.pt fs p q/\Hg.pt fs p q<=1) (hcr:0<=lY c.f (x::S) p q/\lY c.f (x::S) p q<=1) (hs:IS c h H (x::S) W):
   Calls Tryz.prog 112 #[.pointer (some ⟨c.N,0,none⟩), .agg #[.int .i64 p, .int .i64 q]] W fun e w'=>
     if h-x.st<Hg.tk fs p q+lY c.f (x::S) p q\/(p=11\/p=12)/\h-x.st≠x.wd then Ref s e/\Below c.w.heap.size c.w w' else e= .returned .nilIface/\IS c (h-Hg.tk fs p q+Hg.pt fs p q) H (x::S) w'/\W.grownBy w' (some c.N):=by
 have hB1:=aB W (.cells #[.int .i64 p, .int .i64 q] 121)
 have hcon:=lQ x hS (hs.kept hB1)
 have hN:=hs.si
 have hT:∀W',IS c h H (x::S) W'->Calls Tryz.prog 137 #[.pointer (some ⟨c.N,0,none⟩), .agg #[.int .i64 p, .int .i64 q]] W' fun e w'=>e= .returned (.tuple #[.int .i64 (Hg.tk fs p q), .int .i64 (Hg.pt fs p q)])/\Below W'.heap.size W' w':=fun W' hs'=>mR fs hfs p q hp Mq hs'
 have hC:∀W',IS c h H (x::S) W'->Calls Tryz.prog 138 #[.pointer (some ⟨c.N,0,none⟩), .agg #[.int .i64 p, .int .i64 q]] W' fun e w'=>e= .returned (.int .i64 (lY c.f (x::S) p q))/\Below W'.heap.size W' w':=fun W' hs'=>uT p q hp Mr (by simp;omega) hs'
 obtain⟨tk,Dp⟩:∃tk,Hg.tk fs p q=tk:=⟨_,rfl⟩
 obtain⟨pt,Dq⟩:∃pt,Hg.pt fs p q=pt:=⟨_,rfl⟩
 obtain⟨cr,Dr⟩:∃cr,lY c.f (x::S) p q=cr:=⟨_,rfl⟩
 rw[Dp,Dq]at hT
 rw[Dr]at hC
 rw[Dp]at htk
 rw[Dq]at hpt
 rw[Dr]at hcr
 rw[Dp,Dq,Dr]
 clear Dp Dq Dr
 have HT:=af hT
 have HC:=af hC
 clear hT hC
 have hsw:=bu.kept hs.bA bu.sz
 have g1:=hsw.fe
 have g2:=hsw.un
 have hsz:=hsw.sz
 unfold dm at g1 g2
 have E1:Hid (h-tk+pt=h+(pt-tk)):=af (by omega)
 clear hsw bu hfs Mq Mr
 go_enter Tryz.func112,Tryz.ntmps112
 go_wp2_with fail
 refine hcon.mono ?_
 rintro e w1 ⟨rfl,hB2⟩
 clear hcon
 dsimp only
 have hB3:=hB1.trans (hB2.mono hB1.size)
 obtain⟨s0,s1,hl1⟩:=kG hB2
 obtain⟨av,cv,hr,hb⟩:=hs.cells
 have c8:=(hB3.cell (p:=⟨c.N,8,none⟩) hN).trans (hb.2 8 _ rfl).1
 have hN1:c.N<w1.heap.size:=ak hN hB3.size
 have Yp:c.N≠W.heap.size:=by omega
 have HS:=af hs
 have HB3:=af hB3
 clear hr hb hB1 hB2 hB3 hs
 go_wp2
 go_region
 all_goals
   have hB4:=(HB3.out.alloc HB3.out.size (.cells #[.int .i64 x.st, .int .i64 x.wd] 170)).drew
   have aU:=HT.out _ (HS.out.kept hB4)
   go_wp2_with fail
   refine aU.mono ?_
   rintro e w2 ⟨rfl,di⟩
   clear aU
   dsimp only
   have bC:=hB4.trans (di.mono hB4.size)
   have eX:=HC.out _ (HS.out.kept bC)
   have hl2:w1.heap.size<w2.heap.size:=by have:=di.size;simp at this;omega
   have uC:=(di.cell (p:=⟨W.heap.size,0,none⟩) (by simp;omega)).trans (show(w1.alloc (.cells #[.int .i64 x.st, .int .i64 x.wd] 170)).cell? ⟨W.heap.size,0,none⟩=_ from(World.cell?_alloc_lt _ _ ⟨W.heap.size,0,none⟩ hl1).trans s0)
   have s1':=(di.cell (p:=⟨W.heap.size,1,none⟩) (by simp;omega)).trans (show(w1.alloc (.cells #[.int .i64 x.st, .int .i64 x.wd] 170)).cell? ⟨W.heap.size,1,none⟩=_ from(World.cell?_alloc_lt _ _ ⟨W.heap.size,1,none⟩ hl1).trans s1)
   have Yu:w2.cell? ⟨w1.heap.size,0,none⟩=some (.int .i64 x.st):=(di.cell (p:=⟨w1.heap.size,0,none⟩) (by simp)).trans (by simp)
   have Vp:w2.cell? ⟨w1.heap.size,1,none⟩=some (.int .i64 x.wd):=(di.cell (p:=⟨w1.heap.size,1,none⟩) (by simp)).trans (by simp)
   clear hB4 di s0 s1 c8
   have Vq:=af bC
   clear bC
   go_wp2_with fail
   refine eX.mono ?_
   rintro e w3 ⟨rfl,aZ⟩
   clear eX
   dsimp only
   have dK:=Vq.out.trans (aZ.mono Vq.out.size)
   have GD:=HS.out.kept dK
   have s0:=(aZ.cell (p:=⟨W.heap.size,0,none⟩) (by simp only;omega)).trans uC
   have x1:=(aZ.cell (p:=⟨w1.heap.size,1,none⟩) hl2).trans Vp
   have pK:=dK.size
   obtain⟨av,cv,hr,hb⟩:=GD.cells
   have c8:=(hb.2 8 _ rfl).1
   have f8:=(hb.2 8 _ rfl).2
   have HW:=af (au (GD.x8 (h+(pt-tk))) (yU dK c.N 8 (.int .i64 (h+(pt-tk)))))
   have HB:=af GD.bA
   have g1':=(dK.cell (p:=⟨8,0,none⟩) (by simp only;omega)).trans g1
   have g2':=(dK.cell (p:=⟨9,0,none⟩) (by simp only;omega)).trans g2
   clear aZ dK GD hr hb uC s1' Yu Vp g1 g2
   by_cases Bz:h-x.st<tk+cr
   · go_wp2
     go_ret
     first|exact⟨⟨s.fe,by simp[jh.rest],rfl⟩,HB.out⟩|(rw[az (Or.inl Bz)];exact⟨⟨s.fe,by simp[jh.rest],rfl⟩,HB.out⟩)
   · by_cases hpe:p=11\/p=12
     · by_cases hun:h-x.st=x.wd
       · have HU:=af hun
         rcases hpe with rfl|rfl
         all_goals
           go_wp2
           go_ret
           have hu:=HU.out
           first|(rw[E1.out];exact⟨rfl,HW.out⟩)|(rw[ay (by omega),E1.out];exact⟨rfl,HW.out⟩)
       · have hun':(h-x.st==x.wd)=false:=by simpa using hun
         rcases hpe with rfl|rfl
         all_goals
           go_wp2
           go_ret
           first|exact⟨⟨s.un,by simp[jh.rest],rfl⟩,HB.out⟩|(rw[az (Or.inr ⟨by omega,hun⟩)];exact⟨⟨s.un,by simp[jh.rest],rfl⟩,HB.out⟩)
     · have Vr:(p==11)=false:=by simp;omega
       have Vs:(p==12)=false:=by simp;omega
       go_wp2
       go_ret
       first|(rw[E1.out];exact⟨rfl,HW.out⟩)|(rw[ay (by omega),E1.out];exact⟨rfl,HW.out⟩)
end
end Go.Proofs.YtellfmhljjdjbaaGreatDoor
