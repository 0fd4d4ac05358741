/-
  Own texts for a law: Lo9b Lo10 Shp5 Lcg
-/
import Derived.Test.YtellfmhljjdjbaaGreatDoorKA24
import Derived.Lib.AppendZeros
import Derived.Deep.Upon
namespace Go.Proofs.YtellfmhljjdjbaaGreatDoor
open Go.RowKit Go.Shelf
set_option linter.all false
set_option maxRecDepth 100000
set_option maxHeartbeats 16000000
section
variable {c : LY} {st : List Int} {W0 W : World} {v vg : Value} {out : List (Ln × Int)} {bg : List Int} {P : Nat}
theorem FJ (T:TY c W0)(K:MY c st W0 W v vg out bg P)(at':Nat)(hat:at'<c.f.b.length)(hr:0<=c.H.getD at' 0)(hlen:out.length<=900)(hst:st=Lw.cu c.fs c.f c.E c.O c.H)(hout:out=(Lw.df c.fs c.f c.E c.O c.H at').1):Calls Tryz.prog 90 #[.pointer (some ⟨c.B,0,none⟩), .int .i64 (at':Int)] W fun e w'=>∃v',e= .returned (.tuple #[])/\MY c st W0 w' v' vg (out++Lw.step c.fs c.f c.E c.O c.H at') bg w'.heap.size/\FY c.B v v' W w':=by
 have hty:=T.acc.typ at' hat hr
 have htop:=T.acc.dH at' hat
 have hok:St.ok (aF.op c.f.b at') (Hg.arg c.f.b at')=true:=St.aT T.all hat
 simp only[St.ok,ax,Wd.bB]at hok
 have wK:=Lw.pQ T.acc hat hr
 have yC:=T.ok.2.2.2.2.2
 have hsl:st.length=c.f.b.length:=by rw[hst];exact Lw.BU _ _ _ _ _
 obtain⟨p,hp⟩:∃p,aF.op c.f.b at'=p:=⟨_,rfl⟩
 obtain⟨a,ha⟩:∃a,Hg.arg c.f.b at'=a:=⟨_,rfl⟩
 obtain⟨h,hh⟩:∃h,c.H.getD at' 0=h:=⟨_,rfl⟩
 rw[hp,ha]at hok
 rw[hh]at hr htop
 have B:∀q,p=q->TB c W0 W W at' q a h:=fun q e=>⟨hp.trans e,ha,hh,by subst e;exact⟨hok.2.1,hok.2.2,hok.1.1,hok.1.2⟩,⟨hr,htop⟩,hty⟩
 have hstep:Lw.step c.fs c.f c.E c.O c.H at'=Lw.DJ c.fs c.f c.E c.O c.H at' p a (Lw.bx c.f (h-1)):=by unfold Lw.step;rw[hp,ha,hh]
 have hb1:Lw.bx c.f (h-1)+1=Lw.bx c.f h:=by unfold Lw.bx;omega
 have hb2:Lw.bx c.f (h-1)-1=Lw.bx c.f (h-2):=by unfold Lw.bx;omega
 have uZ:0<=h/\h<=20:=⟨hr,htop⟩
 have hW:∀X,p≠10/\p≠11/\p≠13/\p≠14/\p≠15/\p≠19->Lw.DJ c.fs c.f c.E c.O c.H at' p a (Lw.bx c.f (h-1))=X->(∀(W1:World),Below W.heap.size W W1->Calls Tryz.prog 126 #[.pointer (some ⟨c.B,0,none⟩), .agg #[.int .i64 p, .int .i64 a], .int .i64 h] W1 fun e w'=>∃v',e= .returned (.tuple #[])/\MY c st W0 w' v' vg (out++X) bg w'.heap.size/\FY c.B v v' W1 w')->
     Calls Tryz.prog 90 #[.pointer (some ⟨c.B,0,none⟩), .int .i64 (at':Int)] W fun e w'=>∃v',e= .returned (.tuple #[])/\MY c st W0 w' v' vg (out++Lw.step c.fs c.f c.E c.O c.H at') bg w'.heap.size/\FY c.B v v' W w':=fun X hne e hw=>by
   rw[hstep,e]
   exact Eb T K at' hat p a h (B p rfl) hlen hne X hw
 have hgo:=fun(x:Ln×Int) hx=>wK x hx
 rw[hstep]at hgo
 have WZ:=fun dp=>Lw.ma T.acc hat dp
 have Vd:=fun dp=>Lw.M0 (fs:=c.fs) (H:=c.H) T.acc.Ka T.all T.ok.2.2.2.2.1 hat dp
 have Ig:∀x:Int,x=0\/x=1->((decide (0<x)=true)↔x=1):=fun x hx=>by rw[decide_eq_true_eq];omega
 have hk:p=1\/p=2\/p=3\/p=4\/p=5\/p=6\/p=7\/p=8\/p=9\/p=10\/p=11\/p=12\/p=13\/p=14\/p=15\/p=16\/p=17\/p=18\/p=19\/p=20:=by omega
 rcases hk with e|e|e|e|e|e|e|e|e|e|e|e|e|e|e|e|e|e|e|e
 · subst e;exact hW _ (by decide) (by rw[←hb1];rfl) (fun W1 hB=>D9 T (K.kept hB) a h uZ (by omega))
 · subst e;exact hW _ (by decide) (by rw[←hb1];rfl) (fun W1 hB=>D6 T (K.kept hB) a h uZ (by omega))
 · subst e;exact hW _ (by decide) rfl (fun W1 hB=>Ex T (K.kept hB) a h uZ (by omega))
 · subst e;exact hW _ (by decide) rfl (fun W1 hB=>Ev T (K.kept hB) a h uZ (by omega))
 · subst e;exact hW _ (by decide) (by rw[←hb2];rfl) (fun W1 hB=>DR T (K.kept hB) a h uZ (by omega))
 · subst e;exact hW _ (by decide) rfl (fun W1 hB=>D7 T (K.kept hB) a h uZ (by omega))
 · subst e;exact hW _ (by decide) rfl (fun W1 hB=>kG T (K.kept hB) 7 a h (by decide) uZ)
 · subst e;exact hW _ (by decide) rfl (fun W1 hB=>kG T (K.kept hB) 8 a h (by decide) uZ)
 · subst e;exact hW _ (by decide) rfl (fun W1 hB=>kG T (K.kept hB) 9 a h (by decide) uZ)
 · subst e;have hg:=(hgo (⟨6,0,Lw.bx c.f (h-1),0,0,[]⟩,if 0<=aF.aZ c.O at' then aF.aZ c.O at'+1 else aF.aZ c.E at') (List.mem_cons_of_mem _ (List.mem_singleton.2 rfl)));have hi:=hty.iff hp;rw[hstep];refine Ba T K at' hat a h (B 10 rfl) hlen ⟨?_,by rw[hsl];exact hg.2⟩ (by omega);split;{omega};rcases hi with⟨h1,-⟩|⟨-,h1,-⟩<;>omega
 · subst e;have hi:=hty.Es hp;have hg:=(hgo (⟨5,0,0,0,0,[]⟩,aF.aZ c.E at') (List.mem_singleton.2 rfl));rw[hstep];exact Bh T K at' hat a h (B 11 rfl) hlen ⟨hi.1,by rw[hsl];exact hg.2⟩
 · subst e;exact hW _ (by decide) rfl (fun W1 hB=>kG T (K.kept hB) 12 a h (by decide) uZ)
 · subst e;have hJ:=hty.jump hp;rw[ha]at hJ;have Ve:0<=a/\a<=9:=hok.2;have hx:Lw.DJ c.fs c.f c.E c.O c.H at' 13 a (Lw.bx c.f (h-1))=((if decide (0<(Lw.bZ c.f c.E c.H at' a).2.2)=true/\(Lw.bZ c.f c.E c.H at' a).2.1≠Lw.bx c.f (h-1)then[(⟨2,(Lw.bZ c.f c.E c.H at' a).2.1,Lw.bx c.f (h-1),0,0,[]⟩,-1)]else[])++[(⟨5,0,0,0,0,[]⟩,(Lw.bZ c.f c.E c.H at' a).1)]):=by{simp only[Ig _ (Vd a)];rfl};rw[hstep,hx];refine Bn T K at' hat a h (B 13 rfl) hlen Ve.1 (by omega) (fun t h1 h2=>?_) ⟨(WZ a).1,by rw[hsl];exact(WZ a).2⟩;obtain⟨t',e1,e2,e3,e4,-⟩:=hJ.1 h1;rw[h2]at e1;have:t=t':=by{omega};subst this;exact e4
 · subst e;have hJ:=hty.WA hp;rw[ha]at hJ;have Ve:0<=a/\a<=9:=hok.2;have hnx:=hty.next (by rw[hp];decide) (by rw[hp];decide) (by rw[hp];decide) (by rw[hp];decide) (by rw[hp];decide);have hx:Lw.DJ c.fs c.f c.E c.O c.H at' 14 a (Lw.bx c.f (h-1))=(if decide (0<(Lw.bZ c.f c.E c.H at' a).2.2)=true/\(Lw.bZ c.f c.E c.H at' a).2.1≠Lw.bx c.f (h-1)-1 then[(⟨4,Lw.bx c.f (h-1),Lw.bx c.f (h-1),0,0,[]⟩,-1),(⟨6,0,Lw.bx c.f (h-1),0,0,[]⟩,(at':Int)+1),(⟨2,(Lw.bZ c.f c.E c.H at' a).2.1,Lw.bx c.f (h-1)-1,0,0,[]⟩,-1),(⟨5,0,0,0,0,[]⟩,(Lw.bZ c.f c.E c.H at' a).1)]else[(⟨6,0,Lw.bx c.f (h-1),0,0,[]⟩,(Lw.bZ c.f c.E c.H at' a).1)]):=by{simp only[Ig _ (Vd a)];rfl};have Vf:decide (0<(Lw.bZ c.f c.E c.H at' a).2.2)=true/\(Lw.bZ c.f c.E c.H at' a).2.1≠Lw.bx c.f (h-1)-1->(Lw.step c.fs c.f c.E c.O c.H at').length=4:=fun hc=>by{rw[hstep,hx,az hc];rfl};rw[hstep,hx];refine Bj T K at' hat a h (B 14 rfl) hlen Ve.1 (by omega) (fun t h1 h2=>?_) ⟨(WZ a).1,by rw[hsl];exact(WZ a).2⟩ ((at':Int)+1) ?_;{obtain⟨t',e1,e2,e3,e4,-⟩:=hJ.1 h1;rw[h2]at e1;have:t=t':=by{omega};subst this;exact e4};by_cases hc:decide (0<(Lw.bZ c.f c.E c.H at' a).2.2)=true/\(Lw.bZ c.f c.E c.H at' a).2.1≠Lw.bx c.f (h-1)-1;{left;refine⟨by omega,by rw[hsl];omega,?_⟩;rw[show((at':Int)+1).toNat=at'+1 by omega,hst,Lw.Ep _ _ _ _ _ hnx.1,(Lw.zh c.fs c.f c.E c.O c.H at').1,az (by rw[hh];exact hr),List.length_append,Vf hc,hout];omega};exact .inr hc
 · subst e
   have hx:Lw.DJ c.fs c.f c.E c.O c.H at' 15 a (Lw.bx c.f (h-1))=((if decide (0<c.f.g)=true/\Lw.bx c.f 0≠Lw.bx c.f (h-1)then[(⟨2,Lw.bx c.f 0,Lw.bx c.f (h-1),0,0,[]⟩,-1)]else[])++[(⟨5,0,0,0,0,[]⟩,(c.f.b.length:Int)-1)]):=by
    have hal:=aF.mh c.f.b c.E at' at'
    have hlo:Lw.bZ c.f c.E c.H at' 99=((c.f.b.length:Int)-1,Lw.bx c.f 0,c.f.g):=Lw.ni (by
     show¬(99:Nat)<_
     omega)
    have e1:Lw.DJ c.fs c.f c.E c.O c.H at' 15 a (Lw.bx c.f (h-1))=((if(Lw.bZ c.f c.E c.H at' 99).2.2=1/\(Lw.bZ c.f c.E c.H at' 99).2.1≠Lw.bx c.f (h-1)then[(⟨2,(Lw.bZ c.f c.E c.H at' 99).2.1,Lw.bx c.f (h-1),0,0,[]⟩,-1)]else[])++[(⟨5,0,0,0,0,[]⟩,(Lw.bZ c.f c.E c.H at' 99).1)]):=rfl
    rw[e1,hlo]
    simp only[Ig _ T.ok.2.2.2.2.1]
   rw[hstep,hx]
   exact Br T K at' hat a h (B 15 rfl) hlen ⟨by omega,by rw[hsl];omega⟩
 · subst e;have Ve:0<=a/\a<=3:=hok.2;obtain⟨n,rfl⟩:=Int.eq_ofNat_of_zero_le Ve.1;have rq:=hty.call hp;rw[ha]at rq;have htk:=hty.take;rw[hp,ha,hh]at htk;have abC:(c.fs.getD n .z).a<=h:=htk;refine hW _ (by decide) ?_ (fun W1 hB=>BP T (K.kept hB) n (by omega) h uZ abC (by omega));have hbx:Lw.bx c.f (h-1)-(c.fs.getD n .z).a+1=Lw.bx c.f (h-(c.fs.getD n .z).a):=by{unfold Lw.bx;omega};rw[←hbx];rfl
 · subst e;exact hW _ (by decide) rfl (fun W1 hB=>AV T (K.kept hB) a h uZ (by omega))
 · subst e;exact hW _ (by decide) (by rw[←hb2];rfl) (fun W1 hB=>AZ T (K.kept hB) a h uZ (by omega))
 · subst e;rw[hstep];exact AR T K at' hat a h (B 19 rfl) hlen
 · subst e;exact hW _ (by decide) rfl (fun W1 hB=>kG T (K.kept hB) 20 a h (by decide) uZ)
end
section
variable {c : LY} {st : List Int} {W0 W : World} {v vg : Value} {out : List (Ln × Int)} {bg : List Int} {P : Nat}
theorem JA (T:TY c W0)(K:MY c st W0 W v vg out bg P)(hlen:out.length<=990):Calls Tryz.prog 91 #[.pointer (some ⟨c.B,0,none⟩)] W fun e w'=>∃v',e= .returned (.tuple #[])/\MY c st W0 w' v' vg (out++Lw.last c.f) bg w'.heap.size/\FY c.B v v' W w':=by have hbx:=dx T K 0 (by decide) (by decide);have hsp:=vI T K;have d3:=(K.box.2 3 _ rfl).1;have HG:=af T.ok.2.2.2.2.1;obtain⟨gg,hgg⟩:∃g,c.f.g=g:=⟨_,rfl⟩;have hb0:Lw.bx c.f 0=Lw.wd c.f:=by{unfold Lw.bx;omega};rw[hb0]at hbx;rw[hgg]at d3 HG;have HL:Hid (Lw.last c.f=if gg=0 then[(⟨1,Lw.wd c.f+20,0,0,0,[]⟩,-1),(⟨10,0,Lw.wd c.f+20,0,0,[]⟩,-1)]else[(⟨10,0,Lw.wd c.f,0,0,[]⟩,-1)]):=by{show _=_;unfold Lw.last;rw[hgg]};have HK:=af (au T K);clear hgg T K hb0;generalize Lw.wd c.f=u at*;rcases HG.out with rfl|rfl;{rw[HL.out,az rfl];have ha:=dN HK.out.1 HK.out.2 ⟨1,u+20,0,0,0,[]⟩ 143 (.agg #[.int .i64 (u+20), .int .i64 0]) rfl (by simp) rfl (by simp) (by omega);go_enter Tryz.func91,Tryz.ntmps91;go_wp2_with(first|(go_at_call 118;refine hbx.mono ?_;rintro e w' ⟨rfl,aR⟩;subst w';dsimp only)|(go_at_call 127;refine hsp.mono ?_;rintro e w' ⟨rfl,aR⟩;subst w';dsimp only));refine ha.mono ?_;rintro e w2 ⟨v2,rfl,K2,F2⟩;dsimp only;have ha2:=dN HK.out.1 K2 ⟨10,0,u+20,0,0,[]⟩ 198 (.agg #[.int .i64 (u+20)]) rfl (by simp) rfl (by simp) (by simp only[List.length_append,List.length_singleton];omega);rw[List.append_assoc]at ha2;have HF:=af F2;clear K2 F2 ha hbx hsp d3;go_wp2_with fail;refine ha2.mono ?_;rintro e w3 ⟨v3,rfl,K3,F3⟩;dsimp only;go_wp2;(try simp only[Exit.inBlock,Exit.then]);exact bodyPost_end (results_none rfl _ _ _) rfl ⟨_,rfl,K3,HF.out.trans F3⟩};rw[HL.out,ay (by decide)];have ha2:=dN HK.out.1 HK.out.2 ⟨10,0,u,0,0,[]⟩ 198 (.agg #[.int .i64 u]) rfl (by simp) rfl (by simp) (by omega);clear HK HL HG;go_enter Tryz.func91,Tryz.ntmps91;go_wp2_with(go_at_call 118;refine hbx.mono ?_;rintro e w' ⟨rfl,aR⟩;subst w';dsimp only);refine ha2.mono ?_;rintro e w3 ⟨v3,rfl,K3,F3⟩;dsimp only;go_wp2;(try simp only[Exit.inBlock,Exit.then]);exact bodyPost_end (results_none rfl _ _ _) rfl ⟨_,rfl,K3,F3⟩
theorem MY.begin {W1 W2:World}{jI:Value}(K:MY c st W0 W v vg out bg P)(hW:W0.heap.size<=c.B)(hB1:Below W.heap.size W W1)(x:Int)(hrow:W2.ownsRow (c.B+1) 2 1 jI (bg.length+1) (bg.map iv++[.int .i64 x]))(hg:W1.grownBy W2 vg.ownBlock)(hat:jI.ownBlock=vg.ownBlock\/jI.ownBlock=some W1.heap.size):MY c st W0 (W2.setCell ⟨c.B,8,none⟩ jI) v jI out (bg++[x]) P:=by obtain⟨D,cs,us,r1,r2,r3,r4,r5,r6⟩:=K.row;have gB:∀g,vg.ownBlock=some g->c.B+1<=g:=fun g hg=>(aV K.EI hg).1;have gs:=aP W2 ⟨c.B,8,none⟩ jI;have NF:=((K.box.kept hB1).eP hg (fun e=>by have:=gB c.B e;omega)).set 8 jI;have hint:89≠2:=by{decide};have Ke:OI W1 (c.B+1) vg bg:=K.EI.kept hB1;have s1:=aG r1 hB1;have s2:=cZ s1 hg (fun g e=>dD s1 Ke hint e);have s3:=cZ s2 gs (fun g e=>by have:=(aV s2 e).1;simp only[ne_eq,ah];omega);have hr3:=cZ hrow gs (fun g e=>by have:=(aV hrow e).1;simp only[ne_eq,ah];omega);have b1:=K.bQ.trans (hB1.mono K.bQ.size);have b2:=bq b1 hg (fun g e=>by have:=gB g e;omega);have b3:=bq b2 gs (fun g e=>by cases e;exact hW);have pF:W1.heap.size<=(W2.setCell ⟨c.B,8,none⟩ jI).heap.size:=Nat.le_trans hg.size gs.size;refine⟨b3,NF,Nat.le_trans K.sz (Nat.le_trans hB1.size pF),⟨D,cs,us,s3,r2,r3,fun j hj=>(r4 j hj).same (fun g hg'=>?_) (fun g h=>h),fun g hg'=>?_,r6⟩,?_⟩;{obtain⟨a1,a2,a3,a4⟩:=r5 g hg';exact(gs.block g (ak a2 (Nat.le_trans hB1.size hg.size)) (by simp only[ne_eq,ah];omega)).trans ((hg.block g (ak a2 hB1.size) (fun e=>a4 e.symm)).trans (hB1.block g a2))};{obtain⟨a1,a2,a3,a4⟩:=r5 g hg';refine⟨a1,ak a2 (Nat.le_trans hB1.size pF),a3,?_⟩;rcases hat with e|e;{rw[e];exact a4};have:=hB1.size;rw[e];simp only[ne_eq,ah];omega};show World.ownsRow _ _ _ _ _ _ _;rw[List.length_append,List.map_append];exact hr3
theorem Lw.Bp {f:Fn}{i:Nat}(hi:i<f.l.toNat):(Lw.first f).take (i+1)=(Lw.first f).take i++[(⟨1,f.a+(i:Int),0,0,0,[]⟩,-1)]:=by rw[List.take_add_one];congr 1;unfold Lw.first;simp[hi]
theorem CF (T:TY c W0)(K:MY c st W0 W v vg [] [] P)(hst:st=Lw.cu c.fs c.f c.E c.O c.H):Calls Tryz.prog 60 #[.pointer (some ⟨c.B,0,none⟩)] W fun e w'=>∃v' jI,e= .returned (.tuple #[])/\MY c st W0 w' v' jI (Lw.raw c.fs c.f c.E c.O c.H) (Lw.cu c.fs c.f c.E c.O c.H) w'.heap.size:=by
 obtain⟨j0,hj,hy0,hy1,hy2⟩:=info_parts dA
 have hok:=T.ok
 obtain⟨ln,hln⟩:=Int.eq_ofNat_of_zero_le hok.2.2.1
 have hKt:=K.tight
 have d1:=(K.box.2 1 _ rfl).1
 have hwd:Lw.wd c.f=c.f.a+(ln:Int):=by unfold Lw.wd;rw[hln]
 have hl3:ln<=3:=by omega
 have hlT:c.f.l.toNat=ln:=by omega
 have hfl:(Lw.first c.f).length=ln:=by unfold Lw.first;simp[hlT]
 have HT:=af (au T hst)
 have Dq:=af (au hfl (au hlT hwd))
 obtain⟨fa,hfa⟩:∃x,c.f.a=x:=⟨_,rfl⟩
 rw[hfa]at d1 hok
 have hf0:0<=fa/\fa<=3:=⟨hok.1,hok.2.1⟩
 have HFA:=af hfa
 clear hok hln hwd hlT hfl hfa T hst
 go_enter Tryz.func60,Tryz.ntmps60
 go_wp2
 go_loopw [2] (fun i wr=>∃(k:Nat)(v:Value),i= .int .i64 (fa+(k:Int))/\k<=ln/\MY c st W0 wr v vg ((Lw.first c.f).take k) [] wr.heap.size) (fun i _=>(fa+(ln:Int)-intOf i).toNat)
 case atStart=>exact⟨0,v,by congr 1;omega,Nat.zero_le _,by rw[List.take_zero];exact hKt⟩
 case round=>
  obtain⟨k,v2,rfl,hk,Kk⟩:=hrel
  clear hKt K d1
  have d5:=(Kk.box.2 5 _ rfl).1
  rw[Dq.out.2.2,HFA.out]at d5
  by_cases hlt:k<ln
  · have hlZ:fa+(k:Int)<fa+(ln:Int):=by{omega};have ha:=dN HT.out.1 Kk ⟨1,fa+(k:Int),0,0,0,[]⟩ 143 (.agg #[.int .i64 (fa+(k:Int)), .int .i64 0]) rfl (by simp) rfl (by simp) (by rw[List.length_take];omega);clear Kk;go_wp2_with fail;refine ha.mono ?_;rintro e w2 ⟨v3,rfl,K3,F3⟩;dsimp only;have HK3:=af K3;clear ha K3 F3 d5;go_wp2;go_roundw;(case rel=>refine⟨k+1,v3,by congr 1;omega,by omega,?_⟩;rw[Lw.Bp (by rw[Dq.out.2.1];exact hlt),HFA.out];exact HK3.out);case measure=>simp[intOf];omega
  · obtain rfl:k=ln:=by omega
    have hlZ:¬(fa+(k:Int)<fa+(k:Int)):=by omega
    have Vg:MY c st W0 wr v2 vg (Lw.df c.fs c.f c.E c.O c.H 0).1 (Lw.df c.fs c.f c.E c.O c.H 0).2 wr.heap.size:=by have e:(Lw.first c.f).take k=Lw.first c.f:=by{rw[List.take_of_length_le];rw[Dq.out.1];exact Nat.le_refl _};rw[e]at Kk;exact Kk
    have d4:=(Kk.box.2 4 _ rfl).1
    have yC:=HT.out.1.ok.2.2.2.2.2
    obtain⟨bl,hbl⟩:∃n,c.f.b.length=n:=⟨_,rfl⟩
    rw[hbl]at d4 yC
    have I5:=af hbl
    clear hbl Kk
    go_wp2
    go_loopw [28] (fun i wx=>∃(k:Nat)(v vg:Value),i= .int .i64 (k:Int)/\k<=bl/\MY c st W0 wx v vg (Lw.df c.fs c.f c.E c.O c.H k).1 (Lw.df c.fs c.f c.E c.O c.H k).2 wx.heap.size) (fun i _=>bl-(intOf i).toNat)
    case atStart=>exact⟨0,v2,vg,rfl,Nat.zero_le _,Vg⟩
    case round=>
     obtain⟨i,v5,vg5,rfl,hi,Ki⟩:=hrel
     clear Vg d4 d5
     have tX:=Lw.iG c.fs c.f c.E c.O c.H i
     have T:=HT.out.1
     have hst:=HT.out.2
     have hll:(Lw.df c.fs c.f c.E c.O c.H i).1.length<=900:=by have:=Dq.out.2.1;omega
     have hz:W0.heap.size<=c.B:=T.lt
     by_cases hlt:i<bl
     · have ja:(i:Int)<(bl:Int):=by omega
       obtain⟨n,hn⟩:∃n:Int,((Lw.df c.fs c.f c.E c.O c.H i).1.length:Int)=n:=⟨_,rfl⟩
       have hrw:=o8 (Ki.kept (Below.refl _ _).drew) (by omega)
       rw[hn]at hrw
       have ru:wr.ownsRow (c.B+1) 2 1 vg5 i ((Lw.df c.fs c.f c.E c.O c.H i).2.map iv):=by have:=Ki.EI;unfold OI at this;rwa [tX.2]at this
       obtain⟨ga,cg,rfl⟩:=bf ru
       have hBa:=(aB wr (.cells #[.int .i64 n] 2)).trans ((Below.refl _ (wr.alloc (.cells #[.int .i64 n] 2))).drew.mono (aB wr (.cells #[.int .i64 n] 2)).size)
       have hb2:=Ki.box.kept hBa
       have d8:=(Ki.box.2 8 _ rfl).1
       have HRW:=af (aG ru hBa)
       have HB:=af hb2
       have hgB:∀g,(Value.slice ga i cg).ownBlock=some g->c.B+1<=g:=fun g hg=>(aV ru hg).1
       have hKn:=fun(W2:World) (jI:Value) hrow hg hat=>MY.begin (W2:=W2) (jI:=jI) Ki hz hBa n (by rw[tX.2];exact hrow) hg hat
       have HK:=af hKn
       have HN:=af hn
       have lB:c.B<wr.heap.size:=Ki.sz
       have HU:=af (au T (au hst (au tX hll)))
       clear ru hb2 hBa Ki hKn hn tX T hst hll
       go_wp2
       go_region_law (first
         |(refine qK _ rfl (.tmp 35) (.tmp 38) 39 rfl (c.B+1) 2 j0 (.int .i64 0) 1 8 Tryz.underlying39 hj hy0 hy1 hy2 rfl (by decide) (.slice ga i cg) i _ (by simp[Act.eval]) HRW.out ⟨wr.heap.size,0,none⟩ 1 1 [.int .i64 n] (by simp[Act.eval]) rfl (oJ wr _ _ 2 _ rfl (fun i=>rfl)) (by simp[Value.oneCell']) (by simp only[maxLen];omega) (by omega) (by simp;omega) ?_;intro v' wA hown' hgrow _ hat;obtain⟨g',cap',rfl⟩:=ownsRow_succ hown';have jU:=HB.out.eP hgrow (fun e=>by have:=hgB c.B e;omega);have cA:=(jU.2 8 _ rfl).1;have fA:=(jU.2 8 _ rfl).2;have fE:=af (au hown' (au hgrow hat));have lA:=jU.1;clear hown' hgrow jU hat)
         |(go_simp;refine hrw.mono ?_;rintro e w' ⟨rfl,aR⟩;subst w';dsimp only))
       all_goals have K6:=HK.out _ _ fE.out.1 fE.out.2.1 fE.out.2.2;clear fE HRW HB cA fA lA HK hrw d8;generalize hW3:wA.setCell ⟨c.B,8,none⟩ (.slice (some ⟨g',0,none⟩) (i+1) cap')=W3 at K6;obtain⟨T,hst,tX,hll⟩:=HU.out;have d7:=(K6.box.2 7 _ rfl).1;have hHt:∃b off,c.ha=some ⟨b,off,none⟩/\W3.cell? ⟨b,off+i,none⟩=some (.int .i64 (c.H.getD i 0)):=by{obtain⟨hl,-,h0|⟨b,off,e,hb,hx⟩⟩:=(T.il K6.bQ).2.1;{have:=I5.out;omega};exact⟨b,off,e,hx i (by rw[I5.out];exact hlt)⟩};obtain⟨hb,ho,he,y2⟩:=hHt;rw[he,I5.out]at d7;have hlow:=T.aa1 i (by rw[I5.out];exact hlt);have hpre:=Lw.zh c.fs c.f c.E c.O c.H i;rw[HN.out]at hpre;obtain⟨hi9,hhi⟩:∃x,c.H.getD i 0=x:=⟨_,rfl⟩;rw[hhi]at y2 hlow;by_cases hr:0<=hi9;{have hne:(hi9==-1)=false:=by{simp;omega};have ht:=FJ T K6 i (by rw[I5.out];exact hlt) (by rw[hhi];exact hr) hll hst rfl;rw[az (by rw[hhi];exact hr)]at hpre;have HP:=af hpre;clear K6 hpre hhi tX hll hst T hr hlow he;go_wp2_with fail;refine ht.mono ?_;rintro e w8 ⟨v8,rfl,K8,F8⟩;dsimp only;have HK8:=af K8;clear ht K8 F8 d7 y2;go_wp2;go_roundw;(case rel=>exact⟨i+1,v8,_,by congr 1<;>omega,by omega,by rw[HP.out.1,HP.out.2];exact HK8.out⟩);case measure=>simp[intOf];omega};obtain rfl:hi9=-1:=by{omega};rw[ay (by rw[hhi];exact hr),List.append_nil]at hpre;have HP:=af hpre;have HK8:=af K6.tight;clear K6 hpre hhi tX hll hst T hr hlow he;go_wp2;go_roundw;(case rel=>exact⟨i+1,v5,_,by congr 1<;>omega,by omega,by rw[HP.out.1,HP.out.2];exact HK8.out⟩);case measure=>simp[intOf];omega
     · obtain rfl:i=bl:=by{omega};have ja:¬((i:Int)<(i:Int)):=by{omega};have he:=JA T Ki (by omega);have HR:Hid ((Lw.df c.fs c.f c.E c.O c.H i).1++Lw.last c.f=Lw.raw c.fs c.f c.E c.O c.H/\(Lw.df c.fs c.f c.E c.O c.H i).2=Lw.cu c.fs c.f c.E c.O c.H):=by{show _/\_;unfold Lw.raw Lw.cu;rw[I5.out];exact⟨rfl,rfl⟩};rw[HR.out.1,HR.out.2]at he;clear Ki tX T hst hll;go_wp2_with fail;refine he.mono ?_;rintro e w8 ⟨v8,rfl,K8,F8⟩;dsimp only;go_wp2;(try simp only[Exit.inBlock,Exit.then]);exact bodyPost_end (results_none rfl _ _ _) rfl ⟨_,_,rfl,K8⟩
end
theorem Qx (d a b n:Int)(la:Option Addr)(ln lc:Nat)(w:World):Calls Tryz.prog 188 #[.agg #[.int .i64 d, .int .i64 n]] w fun e w'=>e= .returned (.agg #[.int .i64 1, .int .i64 d, .int .i64 0, .int .i64 0, .int .i64 n, .slice none 0 0])/\Below w.heap.size w w':=by have hB:=aB w (.cells #[.int .i64 d, .int .i64 n] 143);have hB2:=hB.trans ((aB _ (.cells #[.int .i64 1, .int .i64 d, .int .i64 0, .int .i64 0, .int .i64 n, .slice none 0 0] 41)).mono hB.size);go_enter Tryz.func188,Tryz.ntmps188;go_wp2;(try simp only[Exit.inBlock,Exit.then]);refine bodyPost_ret (v:= .agg #[.int .i64 1, .int .i64 d, .int .i64 0, .int .i64 0, .int .i64 n, .slice none 0 0]) ?_ rfl ⟨rfl,hB2⟩;rw[aD rfl];go_simp
theorem P6 (d a b n:Int)(la:Option Addr)(ln lc:Nat)(w:World):Calls Tryz.prog 204 #[.agg #[.int .i64 d, .int .i64 a]] w fun e w'=>e= .returned (.agg #[.int .i64 2, .int .i64 d, .int .i64 a, .int .i64 0, .int .i64 0, .slice none 0 0])/\Below w.heap.size w w':=by have hB:=aB w (.cells #[.int .i64 d, .int .i64 a] 219);have hB2:=hB.trans ((aB _ (.cells #[.int .i64 2, .int .i64 d, .int .i64 a, .int .i64 0, .int .i64 0, .slice none 0 0] 41)).mono hB.size);go_enter Tryz.func204,Tryz.ntmps204;go_wp2;(try simp only[Exit.inBlock,Exit.then]);refine bodyPost_ret (v:= .agg #[.int .i64 2, .int .i64 d, .int .i64 a, .int .i64 0, .int .i64 0, .slice none 0 0]) ?_ rfl ⟨rfl,hB2⟩;rw[aD rfl];go_simp
theorem QJ (d a b n:Int)(la:Option Addr)(ln lc:Nat)(w:World):Calls Tryz.prog 205 #[.agg #[.int .i64 d, .int .i64 n, .int .i64 a, .int .i64 b]] w fun e w'=>e= .returned (.agg #[.int .i64 3, .int .i64 d, .int .i64 a, .int .i64 b, .int .i64 n, .slice none 0 0])/\Below w.heap.size w w':=by have hB:=aB w (.cells #[.int .i64 d, .int .i64 n, .int .i64 a, .int .i64 b] 222);have hB2:=hB.trans ((aB _ (.cells #[.int .i64 3, .int .i64 d, .int .i64 a, .int .i64 b, .int .i64 n, .slice none 0 0] 41)).mono hB.size);go_enter Tryz.func205,Tryz.ntmps205;go_wp2;(try simp only[Exit.inBlock,Exit.then]);refine bodyPost_ret (v:= .agg #[.int .i64 3, .int .i64 d, .int .i64 a, .int .i64 b, .int .i64 n, .slice none 0 0]) ?_ rfl ⟨rfl,hB2⟩;rw[aD rfl];go_simp
theorem P7 (d a b n:Int)(la:Option Addr)(ln lc:Nat)(w:World):Calls Tryz.prog 202 #[.agg #[.int .i64 d, .int .i64 a]] w fun e w'=>e= .returned (.agg #[.int .i64 4, .int .i64 d, .int .i64 a, .int .i64 0, .int .i64 0, .slice none 0 0])/\Below w.heap.size w w':=by have hB:=aB w (.cells #[.int .i64 d, .int .i64 a] 215);have hB2:=hB.trans ((aB _ (.cells #[.int .i64 4, .int .i64 d, .int .i64 a, .int .i64 0, .int .i64 0, .slice none 0 0] 41)).mono hB.size);go_enter Tryz.func202,Tryz.ntmps202;go_wp2;(try simp only[Exit.inBlock,Exit.then]);refine bodyPost_ret (v:= .agg #[.int .i64 4, .int .i64 d, .int .i64 a, .int .i64 0, .int .i64 0, .slice none 0 0]) ?_ rfl ⟨rfl,hB2⟩;rw[aD rfl];go_simp
theorem Qn (d a b n:Int)(la:Option Addr)(ln lc:Nat)(w:World):Calls Tryz.prog 203 #[.agg #[.int .i64 n]] w fun e w'=>e= .returned (.agg #[.int .i64 5, .int .i64 0, .int .i64 0, .int .i64 0, .int .i64 n, .slice none 0 0])/\Below w.heap.size w w':=by have hB:=aB w (.cells #[.int .i64 n] 218);have hB2:=hB.trans ((aB _ (.cells #[.int .i64 5, .int .i64 0, .int .i64 0, .int .i64 0, .int .i64 n, .slice none 0 0] 41)).mono hB.size);go_enter Tryz.func203,Tryz.ntmps203;go_wp2;(try simp only[Exit.inBlock,Exit.then]);refine bodyPost_ret (v:= .agg #[.int .i64 5, .int .i64 0, .int .i64 0, .int .i64 0, .int .i64 n, .slice none 0 0]) ?_ rfl ⟨rfl,hB2⟩;rw[aD rfl];go_simp
theorem Qk (d a b n:Int)(la:Option Addr)(ln lc:Nat)(w:World):Calls Tryz.prog 212 #[.agg #[.int .i64 a, .int .i64 n]] w fun e w'=>e= .returned (.agg #[.int .i64 6, .int .i64 0, .int .i64 a, .int .i64 0, .int .i64 n, .slice none 0 0])/\Below w.heap.size w w':=by have hB:=aB w (.cells #[.int .i64 a, .int .i64 n] 245);have hB2:=hB.trans ((aB _ (.cells #[.int .i64 6, .int .i64 0, .int .i64 a, .int .i64 0, .int .i64 n, .slice none 0 0] 41)).mono hB.size);go_enter Tryz.func212,Tryz.ntmps212;go_wp2;(try simp only[Exit.inBlock,Exit.then]);refine bodyPost_ret (v:= .agg #[.int .i64 6, .int .i64 0, .int .i64 a, .int .i64 0, .int .i64 n, .slice none 0 0]) ?_ rfl ⟨rfl,hB2⟩;rw[aD rfl];go_simp
theorem Qd (d a b n:Int)(la:Option Addr)(ln lc:Nat)(w:World):Calls Tryz.prog 213 #[.agg #[.int .i64 d, .int .i64 n, .slice la ln lc]] w fun e w'=>e= .returned (.agg #[.int .i64 7, .int .i64 d, .int .i64 0, .int .i64 0, .int .i64 n, .slice la ln lc])/\Below w.heap.size w w':=by have hB:=aB w (.cells #[.int .i64 d, .int .i64 n, .slice la ln lc] 248);have hB2:=hB.trans ((aB _ (.cells #[.int .i64 7, .int .i64 d, .int .i64 0, .int .i64 0, .int .i64 n, .slice la ln lc] 41)).mono hB.size);go_enter Tryz.func213,Tryz.ntmps213;go_wp2;(try simp only[Exit.inBlock,Exit.then]);refine bodyPost_ret (v:= .agg #[.int .i64 7, .int .i64 d, .int .i64 0, .int .i64 0, .int .i64 n, .slice la ln lc]) ?_ rfl ⟨rfl,hB2⟩;rw[aD rfl];go_simp
theorem Qp (d a b n:Int)(la:Option Addr)(ln lc:Nat)(w:World):Calls Tryz.prog 206 #[.agg #[.int .i64 d, .int .i64 a, .int .i64 n]] w fun e w'=>e= .returned (.agg #[.int .i64 8, .int .i64 d, .int .i64 a, .int .i64 0, .int .i64 n, .slice none 0 0])/\Below w.heap.size w w':=by have hB:=aB w (.cells #[.int .i64 d, .int .i64 a, .int .i64 n] 224);have hB2:=hB.trans ((aB _ (.cells #[.int .i64 8, .int .i64 d, .int .i64 a, .int .i64 0, .int .i64 n, .slice none 0 0] 41)).mono hB.size);go_enter Tryz.func206,Tryz.ntmps206;go_wp2;(try simp only[Exit.inBlock,Exit.then]);refine bodyPost_ret (v:= .agg #[.int .i64 8, .int .i64 d, .int .i64 a, .int .i64 0, .int .i64 n, .slice none 0 0]) ?_ rfl ⟨rfl,hB2⟩;rw[aD rfl];go_simp
theorem PO (d a b n:Int)(la:Option Addr)(ln lc:Nat)(w:World):Calls Tryz.prog 207 #[.agg #[.int .i64 b, .int .i64 a, .int .i64 n]] w fun e w'=>e= .returned (.agg #[.int .i64 9, .int .i64 0, .int .i64 a, .int .i64 b, .int .i64 n, .slice none 0 0])/\Below w.heap.size w w':=by have hB:=aB w (.cells #[.int .i64 b, .int .i64 a, .int .i64 n] 226);have hB2:=hB.trans ((aB _ (.cells #[.int .i64 9, .int .i64 0, .int .i64 a, .int .i64 b, .int .i64 n, .slice none 0 0] 41)).mono hB.size);go_enter Tryz.func207,Tryz.ntmps207;go_wp2;(try simp only[Exit.inBlock,Exit.then]);refine bodyPost_ret (v:= .agg #[.int .i64 9, .int .i64 0, .int .i64 a, .int .i64 b, .int .i64 n, .slice none 0 0]) ?_ rfl ⟨rfl,hB2⟩;rw[aD rfl];go_simp
theorem MP (d a b n:Int)(la:Option Addr)(ln lc:Nat)(w:World):Calls Tryz.prog 201 #[.agg #[.int .i64 a]] w fun e w'=>e= .returned (.agg #[.int .i64 10, .int .i64 0, .int .i64 a, .int .i64 0, .int .i64 0, .slice none 0 0])/\Below w.heap.size w w':=by have hB:=aB w (.cells #[.int .i64 a] 198);have hB2:=hB.trans ((aB _ (.cells #[.int .i64 10, .int .i64 0, .int .i64 a, .int .i64 0, .int .i64 0, .slice none 0 0] 41)).mono hB.size);go_enter Tryz.func201,Tryz.ntmps201;go_wp2;(try simp only[Exit.inBlock,Exit.then]);refine bodyPost_ret (v:= .agg #[.int .i64 10, .int .i64 0, .int .i64 a, .int .i64 0, .int .i64 0, .slice none 0 0]) ?_ rfl ⟨rfl,hB2⟩;rw[aD rfl];go_simp
theorem MX (d a b n:Int)(la:Option Addr)(ln lc:Nat)(w:World):Calls Tryz.prog 200 #[.agg #[]] w fun e w'=>e= .returned (.agg #[.int .i64 11, .int .i64 0, .int .i64 0, .int .i64 0, .int .i64 0, .slice none 0 0])/\Below w.heap.size w w':=by have hB:=aB w (.cells #[] 195);have hB2:=hB.trans ((aB _ (.cells #[.int .i64 11, .int .i64 0, .int .i64 0, .int .i64 0, .int .i64 0, .slice none 0 0] 41)).mono hB.size);go_enter Tryz.func200,Tryz.ntmps200;go_wp2;(try simp only[Exit.inBlock,Exit.then]);refine bodyPost_ret (v:= .agg #[.int .i64 11, .int .i64 0, .int .i64 0, .int .i64 0, .int .i64 0, .slice none 0 0]) ?_ rfl ⟨rfl,hB2⟩;rw[aD rfl];go_simp
namespace qD
def iter (f:Nat->Nat):Nat->Nat->Nat
 |0,h=>h
 |n+1,h=>iter f n (f h)
theorem kD (f:Nat->Nat)(m:Nat):∀(n h:Nat),iter f (n+m) h=iter f m (iter f n h)
 |0,h=>by rw[Nat.zero_add];rfl
 |n+1,h=>by rw[Nat.add_right_comm];exact kD f m n (f h)
def I1 (a c M h:Nat):Nat:=(a*h+c)%M
def AC (a c M:Nat):Nat->Nat×Nat
 |0=>(a,c)
 |k+1=>((AC a c M k).1*(AC a c M k).1%M,((AC a c M k).1*(AC a c M k).2+(AC a c M k).2)%M)
theorem jump (a c M:Nat):∀(k h:Nat),iter (I1 a c M) (2 ^ k) h=I1 (AC a c M k).1 (AC a c M k).2 M h
 |0,h=>rfl
 | k +1,h=>by
   have e:2 ^ (k+1)=2 ^ k+2 ^ k:=by rw[Nat.pow_succ];omega
   rw[e,kD,jump a c M k,jump a c M k]
   show _=I1 ((AC a c M k).1*(AC a c M k).1%M) (((AC a c M k).1*(AC a c M k).2+(AC a c M k).2)%M) M h
   generalize(AC a c M k).1=A
   generalize(AC a c M k).2=C
   unfold I1
   have h1:(A*((A*h+C)%M)+C)%M=(A*(A*h+C)+C)%M:=by
     rw[Nat.add_mod,Nat.mul_mod,Nat.mod_mod,←Nat.mul_mod,←Nat.add_mod]
   have h2:(A*A%M*h+(A*C+C)%M)%M=(A*A*h+(A*C+C))%M:=by
     rw[Nat.add_mod,Nat.mul_mod,Nat.mod_mod,Nat.mod_mod,←Nat.mul_mod,←Nat.add_mod]
   rw[h1,h2]
   congr 1
   rw[Nat.mul_add,Nat.mul_assoc]
   omega
def M:Nat:=9007199254740992
def a0:Nat:=5053549999652653
def c0:Nat:=1543160130404687
theorem Qw:∀k,k<18->(AC a0 c0 M k).1%2 ^ (k+1)=1/\(AC a0 c0 M k).2%2 ^ (k+1)=2 ^ k:=by decide+kernel
abbrev T:Nat->Nat:=I1 a0 c0 M
theorem QE:AC a0 c0 M 33=(4124027597619201,4140803739877376):=by decide+kernel
theorem Jq {A C h k:Nat}(hk:k<18)(hA:A%2 ^ (k+1)=1)(hC:C%2 ^ (k+1)=2 ^ k):I1 A C M h%2 ^ (k+1)=(h+2 ^ k)%2 ^ (k+1):=by unfold I1;have hd:2 ^ (k+1)∣M:=by{have:M=2 ^ 53:=by{decide};rw[this];exact Nat.pow_dvd_pow 2 (by omega)};rw[Nat.mod_mod_of_dvd _ hd,Nat.add_mod,Nat.mul_mod,hA,hC,Nat.one_mul,Nat.mod_mod,Nat.add_mod h (2 ^ k),Nat.mod_eq_of_lt (show 2 ^ k<2 ^ (k+1)by rw[Nat.pow_succ];have:=Nat.two_pow_pos k;omega)]
theorem reach (h r:Nat)(hr:h%2=r%2):∀k,k<18->∃n,n%2=0/\n<2 ^ (k+1)/\iter T n h%2 ^ (k+1)=r%2 ^ (k+1)
 |0,_=>⟨0,rfl,by decide,by simpa[iter]using hr⟩
 | k + 1,hk=>by
   obtain⟨n,h1,h2,h3⟩:=reach h r hr k (by omega)
   have hp:2 ^ (k+1+1)=2 ^ (k+1)+2 ^ (k+1):=by rw[Nat.pow_succ 2 (k+1)];omega
   have hpos:=Nat.two_pow_pos (k+1)
   have he:2 ^ (k+1)%2=0:=by rw[Nat.pow_succ];omega
   by_cases e:iter T n h%2 ^ (k+1+1)=r%2 ^ (k+1+1)
   · exact⟨n,h1,by omega,e⟩
   · refine⟨n+2 ^ (k+1),by omega,by omega,?_⟩
     obtain⟨f1,f2⟩:=Qw (k+1) hk
     rw[kD,jump,Jq hk f1 f2]
     generalize iter T n h=x at*
     generalize 2 ^ (k+1)=p at*
     rw[hp]at e ⊢
     have e1:=Nat.mod_add_div x (p+p)
     have e2:=Nat.mod_add_div r (p+p)
     have e3:x%(p+p)%p=x%p:=Nat.mod_mod_of_dvd _ ⟨2,by omega⟩
     have e4:r%(p+p)%p=r%p:=Nat.mod_mod_of_dvd _ ⟨2,by omega⟩
     have l1:=Nat.mod_lt x (show 0<p+p by omega)
     have l2:=Nat.mod_lt r (show 0<p+p by omega)
     rw[Nat.add_mod,Nat.mod_eq_of_lt (show p<p+p by omega)]
     generalize x%(p+p)=X at*
     generalize r%(p+p)=R at*
     have hm:∀y,y<p+p->y%p=if y<p then y else y-p:=fun y hy=>by
       split
       · exact Nat.mod_eq_of_lt ‹_›
       · rw[Nat.mod_eq_sub_mod (by omega),Nat.mod_eq_of_lt (by omega)]
     rw[←e3,←e4,hm X l1,hm R l2]at h3
     by_cases x1:X<p
     · rw[az x1]at h3
       rw[Nat.mod_eq_of_lt (by omega)]
       split at h3<;>omega
     · rw[ay x1]at h3
       rw[Nat.mod_eq_sub_mod (by omega),Nat.mod_eq_of_lt (by omega)]
       split at h3<;>omega
def DT (h:Nat):Nat:=(h / 8589934592+h / 35184372088832)%2
theorem Qb (h:Nat)(hh:h<M)(hr:h%262144=43840):iter T (2 ^ 33) h=(h+8589934592*5)%M:=by rw[jump,QE];unfold I1 M at*;omega
theorem PT (h:Nat)(hh:h<M)(hr:h%262144=212951):iter T (2 ^ 33) h=(h+8589934592*1)%M:=by rw[jump,QE];unfold I1 M at*;omega
theorem Qa (h:Nat):h / 35184372088832=h / 8589934592 / 4096:=by rw[Nat.div_div_eq_div_mul]
theorem Qs (h d:Nat):(h+8589934592*d)%M / 8589934592=(h / 8589934592+d)%1048576:=by have e:M=8589934592*1048576:=by{decide};rw[e,Nat.mod_mul_right_div_self];congr 1;omega
theorem nxt {v d:Nat}(hv:v<1048576)(hs:v%4096+d<4096):v+d<1048576/\(v+d) / 4096=v / 4096:=by have h:=Nat.mod_add_div v 4096;have h2:v / 4096<256:=Nat.div_lt_of_lt_mul (by omega);constructor<;>omega
theorem three (h d:Nat)(hd:d=5\/d=1)(p0:DT h=1)(p1:DT ((h+8589934592*d)%M)=1)(p2:DT ((h+8589934592*(d+d))%M)=1)(hh:h / 8589934592<1048576):False:=by unfold DT at p0 p1 p2;rw[Qa]at p0 p1 p2;rw[Qs]at p1 p2;generalize h / 8589934592=v at*;have hodd:d%2=1:=by{omega};have hd5:d<=5:=by{omega};clear hd;by_cases hs:v%4096+d<4096;{obtain⟨n1,e2⟩:=nxt hh hs;rw[Nat.mod_eq_of_lt n1,e2]at p1;clear p2;omega};have e0:(v+(d+d))%1048576=((v+d)%1048576+d)%1048576:=by{rw[Nat.mod_add_mod,Nat.add_assoc]};have e5:(v+d)%1048576%4096=v%4096+d-4096:=by{rw[Nat.mod_mod_of_dvd _ (by decide:4096∣1048576)];omega};have e6:(v+d)%1048576<1048576:=Nat.mod_lt _ (by decide);rw[e0]at p2;generalize(v+d)%1048576=v1 at*;have hv4:v%4096<4096:=Nat.mod_lt _ (by decide);obtain⟨n1,e2⟩:=nxt e6 (show v1%4096+d<4096 by rw[e5];clear p0 p1 p2 e0;omega);rw[Nat.mod_eq_of_lt n1,e2]at p2;clear p0 e0 e5;omega
theorem tC {f:Nat->Nat}{m:Nat}(hf:∀h,f h<m):∀(n h:Nat),h<m->iter f n h<m
 |0,h,hh=>hh
 |n+1,h,hh=>tC hf n (f h) (hf h)
theorem Fb {a c m:Nat}(hm:0<m)(h:Nat):I1 a c m h<m:=Nat.mod_lt _ hm
theorem Lj:0<M:=by decide
theorem Jj (n h:Nat)(hh:h<M):iter T n h<M:=tC (fun x=>Fb Lj x) n h hh
theorem stops (h:Nat)(hh:h<M):∃n,n%2=0/\n<2 ^ 18+2 ^ 34+1/\¬DT (iter T n h)=1:=by
 obtain⟨r,d,hr,hd,hl⟩:∃r d,h%2=r%2/\(d=5\/d=1)/\∀x,x<M->x%262144=r%262144->iter T (2 ^ 33) x=(x+8589934592*d)%M:=by by_cases e:h%2=0;{exact⟨43840,5,by omega, .inl rfl,fun x hx hxr=>Qb x hx (by omega)⟩};exact⟨212951,1,by omega, .inr rfl,fun x hx hxr=>PT x hx (by omega)⟩
 obtain⟨n,h1,h2,h3⟩:=reach h r hr 17 (by omega)
 have hx:=Jj n h hh
 have e33:(2:Nat) ^ 33%2=0:=by decide
 have e34:(2:Nat) ^ 34=2 ^ 33+2 ^ 33:=by decide
 have e18:(2:Nat) ^ (17+1)=262144:=by decide
 rw[e18]at h3 h2
 have l1:=hl _ hx h3
 have hx1:(iter T n h+8589934592*d)%M<M:=Nat.mod_lt _ (by decide)
 have hm1:(iter T n h+8589934592*d)%M%262144=r%262144:=by rw[Nat.mod_mod_of_dvd _ (by decide:262144∣M)];omega
 have l2:=hl _ hx1 hm1
 rw[Nat.mod_add_mod,Nat.add_assoc,←Nat.mul_add]at l2
 by_cases b0:DT (iter T n h)=1
 · by_cases b1:DT ((iter T n h+8589934592*d)%M)=1
   · refine⟨n+2 ^ 33+2 ^ 33,by omega,by omega,?_⟩
     rw[kD,kD,l1,l2]
     exact fun b2=>three _ d hd b0 b1 b2 (by
      have e:M=8589934592*1048576:=by decide
      rw[e]at hx
      exact Nat.div_lt_of_lt_mul hx)
   · refine⟨n+2 ^ 33,by omega,by omega,?_⟩;rw[kD,l1];exact b1
 · exact⟨n,h1,by omega,b0⟩
theorem FD (f:Nat->Nat)(n h:Nat):iter f (n+2) h=iter f n (f (f h)):=rfl
def DN:Nat:=2 ^ 18+2 ^ 34+1
end qD
end Go.Proofs.YtellfmhljjdjbaaGreatDoor
