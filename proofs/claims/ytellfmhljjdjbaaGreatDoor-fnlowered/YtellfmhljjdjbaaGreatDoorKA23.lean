/-
  Own texts for a law: Lo8 Lo6 Lo7
-/
import Derived.Test.YtellfmhljjdjbaaGreatDoorKA22
namespace Go.Proofs.YtellfmhljjdjbaaGreatDoor
open Go.RowKit Go.Shelf
set_option linter.all false
set_option maxRecDepth 100000
set_option maxHeartbeats 16000000
section
variable {c : LY} {st : List Int} {W0 W : World} {v vg : Value} {out : List (Ln × Int)} {bg : List Int} {P : Nat}
theorem AX {xs:List Int}{j:Nat}(h:j<xs.length):xs.getD j 0=aF.aZ xs j:=by unfold aF.aZ;rw[ai,ai,aj h];rfl
theorem BA (T:TY c W0)(K:MY c st W0 W v vg out bg P)(at':Nat)(hat:at'<c.f.b.length)(dH:Int)(hlen:out.length<=990)(hg:0<=(if 0<=aF.aZ c.O at' then aF.aZ c.O at'+1 else aF.aZ c.E at')/\(if 0<=aF.aZ c.O at' then aF.aZ c.O at'+1 else aF.aZ c.E at')<st.length)(hst:st.length<=80):Calls Tryz.prog 119 #[.pointer (some ⟨c.B,0,none⟩), .int .i64 (at':Int), .int .i64 dH] W fun e w'=>∃v',e= .returned (.tuple #[])/\MY c st W0 w' v' vg (out++[(⟨4,dH,dH,0,0,[]⟩,-1),(⟨6,0,dH,0,0,[]⟩,if 0<=aF.aZ c.O at' then aF.aZ c.O at'+1 else aF.aZ c.E at')]) bg w'.heap.size/\FY c.B v v' W w':=by
 obtain⟨-,-,⟨v0,v1,v4,hN⟩,hE,hO,-⟩:=T.il K.bQ
 have J8:=T.aa0 at'
 have yC:=T.ok.2.2.2.2.2
 have d6:=(K.box.2 6 _ rfl).1
 obtain⟨h0,⟨n0,n1,n2,n3,n4⟩,-⟩:=hN
 have xE:∃b off,c.ea=some ⟨b,off,none⟩/\W.cell? ⟨b,off+at',none⟩=some (.int .i64 (aF.aZ c.E at')):=by obtain⟨hl,-,h0|⟨b,off,e,hb,hx⟩⟩:=hE;{omega};exact⟨b,off,e,by rw[←AX (by omega)];exact hx at' hat⟩
 have xO:∃b off,c.oa=some ⟨b,off,none⟩/\W.cell? ⟨b,off+at',none⟩=some (.int .i64 (aF.aZ c.O at')):=by obtain⟨hl,-,h0|⟨b,off,e,hb,hx⟩⟩:=hO;{omega};exact⟨b,off,e,by rw[←AX (by omega)];exact hx at' hat⟩
 obtain⟨eb,eo,ee,xe⟩:=xE
 obtain⟨ob,oo,oe,xo⟩:=xO
 rw[ee]at n2
 rw[oe]at n3
 obtain⟨bl,hbl⟩:∃n,c.f.b.length=n:=⟨_,rfl⟩
 rw[hbl]at n2 n3 hat yC
 obtain⟨E1,hE1⟩:∃x,aF.aZ c.E at'=x:=⟨_,rfl⟩
 obtain⟨O1,Dj⟩:∃x,aF.aZ c.O at'=x:=⟨_,rfl⟩
 rw[hE1]at xe hg ⊢
 rw[Dj]at xo hg J8 ⊢
 have ha:=dN T K ⟨4,dH,dH,0,0,[]⟩ 215 (.agg #[.int .i64 dH, .int .i64 dH]) rfl (by simp) rfl (by simp) (by omega)
 have HT:=af T
 clear hE hO hE1 Dj hbl ee oe T
 obtain⟨t,ht⟩:∃t,(if 0<=O1 then O1+1 else E1)=t:=⟨_,rfl⟩
 rw[ht]at hg ⊢
 have HE:=af ht
 have hend:∀(w2:World)(v2:Value),MY c st W0 w2 v2 vg (out++[(⟨4,dH,dH,0,0,[]⟩,-1)]) bg w2.heap.size->FY c.B v v2 W w2->
     (∀(w3:World),w3=(w2.alloc (.cells #[.pointer (some ⟨c.B,0,none⟩)] 82)).alloc (.cells #[.int .i64 t] 2)->
       Calls Tryz.prog 143 #[.pointer (some ⟨c.B,0,none⟩), .int .i64 dH, .func (.func 145) #[] #[.pointer (some ⟨w2.heap.size,0,none⟩), .pointer (some ⟨w2.heap.size+1,0,none⟩)]] w3 fun e w'=>∃v',e= .returned (.tuple #[])/\MY c st W0 w' v' vg (out++[(⟨4,dH,dH,0,0,[]⟩,-1),(⟨6,0,dH,0,0,[]⟩,t)]) bg w'.heap.size/\FY c.B v v' W w'):=fun w2 v2 K2 F2 w3 hw3=>by
   obtain⟨hpl,hB3⟩:=jg c st t w2 hw3
   have h:=Ca HT.out (K2.kept hB3) dH _ _ t (lT.new K2 hpl hg) (by simp only[List.length_append,List.length_singleton];omega)
   rw[List.append_assoc]at h
   refine h.mono ?_
   rintro e w' ⟨v',rfl,K',F'⟩
   exact⟨v',rfl,K',(F2.trans (FY.below hB3)).trans F'⟩
 clear K HT
 by_cases U8:0<=O1
 · have ht':O1+1=t:=by{rw[←ht,az U8]};have hne:(O1==-1)=false:=by{simp;omega};clear ht HE;subst ht';have hO9:O1<=100:=by{omega};clear hg hst;go_enter Tryz.func119,Tryz.ntmps119;go_wp2_with fail;refine ha.mono ?_;rintro e w2 ⟨v2,rfl,K2,F2⟩;dsimp only;have hE2:=hend w2 v2 K2 F2;clear K2 F2 ha hend d6 n0 n1 n2 n3 n4 xe xo;go_wp2_with(go_at_call 121;refine(fP c.B _ w2).mono ?_;rintro e w3 ⟨rfl,hw3⟩;dsimp only);refine(hE2 _ rfl).mono ?_;rintro e w4 ⟨v4,rfl,K4,F4⟩;dsimp only;go_wp2;(try simp only[Exit.inBlock,Exit.then]);exact bodyPost_end (results_none rfl _ _ _) rfl ⟨_,rfl,K4,F4⟩
 · have ht':E1=t:=by{rw[←ht,ay U8]};obtain rfl:O1=-1:=by{omega};clear ht HE;subst ht';go_enter Tryz.func119,Tryz.ntmps119;go_wp2_with fail;refine ha.mono ?_;rintro e w2 ⟨v2,rfl,K2,F2⟩;dsimp only;have hE2:=hend w2 v2 K2 F2;clear K2 F2 ha hend d6 n0 n1 n2 n3 n4 xe xo;go_wp2_with(go_at_call 121;refine(fP c.B _ w2).mono ?_;rintro e w3 ⟨rfl,hw3⟩;dsimp only);refine(hE2 _ rfl).mono ?_;rintro e w4 ⟨v4,rfl,K4,F4⟩;dsimp only;go_wp2;(try simp only[Exit.inBlock,Exit.then]);exact bodyPost_end (results_none rfl _ _ _) rfl ⟨_,rfl,K4,F4⟩
end
section
variable {c : LY} {st : List Int} {W0 W : World} {v vg : Value} {out : List (Ln × Int)} {bg : List Int} {P : Nat}
theorem Lw.Gc (t:Int)(n:Nat):(Lw.args t (n:Int)).length=n:=by simp[Lw.args]
theorem Lw.EB (t:Int)(n k:Nat)(hk:k<n):(Lw.args t (n:Int)).take (k+1)=(Lw.args t (n:Int)).take k++[t-(n:Int)+1+(k:Int)]:=by rw[List.take_add_one];congr 1;unfold Lw.args;simp[hk]
theorem GL (T:TY c W0)(K:MY c st W0 W v vg out bg P)(callee:Nat)(rq:callee<c.fs.length)(h:Int)(hh:0<=h/\h<=20)(hga:(c.fs.getD callee .z).a<=h)(hlen:out.length<=990):Calls Tryz.prog 148 #[.pointer (some ⟨c.B,0,none⟩), .int .i64 (callee:Int), .int .i64 h] W fun e w'=>∃v',e= .returned (.tuple #[])/\MY c st W0 w' v' vg (out++[(⟨7,if(c.fs.getD callee .z).g=1 then Lw.bx c.f (h-(c.fs.getD callee .z).a)else Lw.wd c.f+20,0,0,(callee:Int),Lw.args (Lw.bx c.f (h-1)) (c.fs.getD callee .z).a⟩,-1)]) bg w'.heap.size/\FY c.B v v' W w':=by
 obtain⟨i0,hi,hz0,hz1,hz2⟩:=info_parts dA
 have yz:=Mn.nK T.val rq
 have hFL:=(T.il K.bQ).1
 have tY:c.fl<=4:=by have:=T.val.len.2;have:=hFL.1;omega
 have agZ:=hFL.1
 obtain⟨-,-,h0|⟨fb,ag0,efa,qB,hx⟩⟩:=hFL
 · omega
 obtain⟨x0,x1,x2,ba,bl,bc,x3,-⟩:=hx callee (by omega)
 unfold Mn.fn at yz
 obtain⟨g0,hg0⟩:∃g,c.fs.getD callee .z=g:=⟨_,rfl⟩
 rw[hg0]at x0 x1 x2 yz hga ⊢
 obtain⟨ga0,ga3,-,-,hgg,-⟩:=yz
 obtain⟨n,hn⟩:=Int.eq_ofNat_of_zero_le ga0
 rw[hn]at x0 hga ga3 ⊢
 obtain⟨gl,hgl⟩:∃n,g0.l=n:=⟨_,rfl⟩
 obtain⟨gg,U9⟩:∃n,g0.g=n:=⟨_,rfl⟩
 rw[hgl]at x1
 rw[U9]at x2 hgg ⊢
 have d0:=(K.box.2 0 _ rfl).1
 rw[efa]at d0
 have hKt:=K.tight
 have hB1:=aB W (.cells #[.int .i64 (n:Int), .int .i64 gl, .int .i64 gg, .slice ba bl bc] 33)
 have b1:=bG.new W [.int .i64 (n:Int), .int .i64 gl, .int .i64 gg, .slice ba bl bc] 33
 have e1:W.alloc (.cells [Value.int .i64 (n:Int), .int .i64 gl, .int .i64 gg, .slice ba bl bc].toArray 33)=W.alloc (.cells #[.int .i64 (n:Int), .int .i64 gl, .int .i64 gg, .slice ba bl bc] 33):=rfl
 rw[e1]at b1
 generalize hW1:W.alloc (.cells #[.int .i64 (n:Int), .int .i64 gl, .int .i64 gg, .slice ba bl bc] 33)=W1 at hB1 b1
 have hmk:=run_make (P:=Tryz.prog) W1 39 2 i0 _ Tryz.underlying39 hi hz0 .i64 .i64 0 (n:Int) (by omega) (by omega) (by rw[hz2];omega) (by omega)
 rw[hz1]at hmk
 simp only[aA,Int.toNat_zero]at hmk
 have eD:=ry (World.ownsRow_lit (base:=W1.heap.size) (size:=1) (e:=2) W1 (madeCells (Value.int .i64 0).cells (n*1)) n (Nat.le_refl _) (by simp only[maxLen];omega) (size_madeCells _ _)) 0 (Nat.zero_le _)
 rw[List.take_zero]at eD
 have hB0:=aB W1 (.cells (madeCells (Value.int .i64 0).cells (n*1)) 2)
 obtain⟨wm,Di⟩:∃wm,W1.alloc (.cells (madeCells (Value.int .i64 0).cells (n*1)) 2)=wm:=⟨_,rfl⟩
 rw[Di]at hmk eD hB0
 have p0:=(b1.2 0 _ rfl).1
 have bm:=b1.kept hB0
 have q0:=(bm.2 0 _ rfl).1
 obtain⟨L,hL⟩:∃L,Lw.args (Lw.bx c.f (h-1)) (n:Int)=L:=⟨_,rfl⟩
 have hLl:L.length=n:=by rw[←hL,Lw.Gc]
 have hLt:∀k,k<n->L.take (k+1)=L.take k++[Lw.bx c.f (h-(n:Int)+(k:Int))]:=fun k hk=>by rw[←hL,Lw.EB _ _ _ hk];congr 2;unfold Lw.bx;omega
 rw[hL]
 have HL:=af (au hLl hLt)
 have Va:=hKt
 have HK:=af (au T (au hKt (au hB1 (au b1 hlen))))
 clear hL hLl hLt Di Va hKt K T hg0 hn hx ga0 hgl U9 bm b1 hlen
 go_enter Tryz.func148,Tryz.ntmps148
 go_wp2
 go_loopw [7,8] (fun u i wr=>∃(k g cc:Nat),i= .int .i64 (h-(n:Int)+(k:Int))/\k<=n/\u= .slice (some ⟨g,0,none⟩) k cc/\wr.ownsRow W1.heap.size 2 1 (.slice (some ⟨g,0,none⟩) k cc) k ((L.take k).map iv)/\Below W1.heap.size W1 wr) (fun _ i _=>(h-intOf i).toNat)
 case atStart=>refine⟨0,_,n,by congr 1;omega,Nat.zero_le _,rfl,?_,hB0⟩;rw[List.take_zero];exact eD
 case round=>
  obtain⟨k,g,cc,rfl,hk,rfl,hown,hB⟩:=hrel
  clear eD hB0 hmk p0 q0
  obtain⟨T,hKt,hB1,b1,hlen⟩:=HK.out
  have WY:=hB1.trans (hB.mono hB1.size)
  have Kk:=hKt.kept WY
  have bk:=b1.kept hB
  have r0:=(bk.2 0 _ rfl).1
  have r2:=(bk.2 2 _ rfl).1
  by_cases hlt:k<n
  · have hbx:=dx T Kk (h-(n:Int)+(k:Int)) (by omega) (by omega);obtain⟨y,hy⟩:∃y,Lw.bx c.f (h-(n:Int)+(k:Int))=y:=⟨_,rfl⟩;rw[hy]at hbx;have HRW:=af (aG hown (aB wr (.cells #[.int .i64 y] 2)));have HB:=af (au hB hy);have ja:h-(n:Int)+(k:Int)<h:=by{omega};have hszW:=hB.size;clear hKt hB1 b1 WY Kk bk hown hB hy T HK;go_wp2_with(first|(go_at_call 118;refine hbx.mono ?_;rintro e w' ⟨rfl,aR⟩;subst w';dsimp only)|(at_builtin;refine wpList_append_own_at _ rfl _ _ 39 rfl W1.heap.size 2 i0 (.int .i64 0) 1 8 Tryz.underlying39 hi hz0 hz1 hz2 rfl (by decide) (.slice (some ⟨g,0,none⟩) k cc) k _ rfl HRW.out ⟨wr.heap.size,0,none⟩ 1 1 [.int .i64 y] rfl rfl (cell_one_new _ _ _) (by simp[Value.oneCell']) (by simp only[maxLen];omega) (by omega) (by simp;omega) ?_;intro v2 wB hown2 hgrow2 _ mO;obtain⟨g2,cap2,rfl⟩:=ownsRow_succ hown2;have fK:=af (au hown2 hgrow2);clear hown2 hgrow2 mO));go_roundw;(case rel=>obtain⟨hB,hy⟩:=HB.out;obtain⟨hown2,hgrow2⟩:=fK.out;refine⟨k+1,_,_,by congr 1;omega,by omega,rfl,?_,?_⟩;{rw[HL.out.2 k hlt,hy,List.map_append];exact hown2};exact bq (hB.trans ((aB wr (.cells #[.int .i64 y] 2)).mono hB.size)) hgrow2 (fun j e=>(aV HRW.out e).1));case measure=>simp[intOf];omega
  · obtain rfl:k=n:=by omega
    have hsp:=vI T Kk
    have hbx:=dx T Kk (h-(k:Int)) (by omega) (by omega)
    have hge:¬(h-(k:Int)+(k:Int)<h):=by omega
    have hLk:L.take k=L:=by rw[List.take_of_length_le];rw[HL.out.1];exact Nat.le_refl _
    rw[hLk]at hown
    have hoi:OI wr W1.heap.size (.slice (some ⟨g,0,none⟩) k cc) L:=by unfold OI;rw[HL.out.1];exact hown
    have hsz0:=hKt.sz
    have hsz1:=hB1.size
    have hgW:W1.heap.size<=g:=(aV hown rfl).1
    have hfree:∀{u:Value}{q:Nat},u.ownBlock=some q->q<W.heap.size->u.ownBlock≠some g:=fun{u q} e1 e2 e3=>by rw[e1]at e3;cases e3;omega
    have hadd:=fun(dst:Int)=>CU T Kk (⟨7,dst,0,0,(callee:Int),L⟩,-1) (.slice (some ⟨g,0,none⟩) k cc) 248 (.agg #[.int .i64 dst, .int .i64 (callee:Int), .slice (some ⟨g,0,none⟩) k cc]) rfl rfl (by simp) rfl (fun _=>by
     refine⟨g,k,cc,rfl,Nat.le_trans hsz1 hgW,hoi.mono (by omega),fun e=>?_,fun e=>?_⟩
     · obtain⟨D,cs,us,hr⟩:=hKt.row;exact hfree e (aV hr.1 e).2 e
     · exact hfree e (aV hKt.EI e).2 e) (by omega)
    have HF:=af (FY.below (B:=c.B) (v:=v) WY)
    clear hKt hB1 b1 WY bk hown hB hoi hfree Kk T HK HL hLk
    rcases hgg with rfl|rfl
    · have hadd:=hadd (Lw.wd c.f+20);obtain⟨dst,hds⟩:∃x,Lw.wd c.f+20=x:=⟨_,rfl⟩;rw[hds]at hadd hsp;have HD:=af hds;clear hds hbx;go_wp2_with(go_at_call 127;refine hsp.mono ?_;rintro e w' ⟨rfl,aR⟩;subst w';dsimp only);refine hadd.mono ?_;rintro e w4 ⟨v4,rfl,K4,F4⟩;dsimp only;go_wp2;(try simp only[Exit.inBlock,Exit.then]);exact bodyPost_end (results_none rfl _ _ _) rfl ⟨rfl,_,by rw[HD.out];exact K4,HF.out.trans F4⟩
    · have hadd:=hadd (Lw.bx c.f (h-(k:Int)));obtain⟨dst,hds⟩:∃x,Lw.bx c.f (h-(k:Int))=x:=⟨_,rfl⟩;rw[hds]at hadd hbx;have HD:=af hds;clear hds;generalize Lw.wd c.f+20=spr at hsp;go_wp2_with(first|(go_at_call 127;refine hsp.mono ?_;rintro e w' ⟨rfl,aR⟩;subst w';dsimp only)|(go_at_call 118;refine hbx.mono ?_;rintro e w' ⟨rfl,aR⟩;subst w';dsimp only));refine hadd.mono ?_;rintro e w4 ⟨v4,rfl,K4,F4⟩;dsimp only;go_wp2;(try simp only[Exit.inBlock,Exit.then]);exact bodyPost_end (results_none rfl _ _ _) rfl ⟨rfl,_,by rw[HD.out];exact K4,HF.out.trans F4⟩
end
section
variable {c : LY} {st : List Int} {W0 W : World} {v vg : Value} {out : List (Ln × Int)} {bg : List Int} {P : Nat}
theorem D9 (T:TY c W0)(K:MY c st W0 W v vg out bg P)(a h:Int)(hh:0<=h/\h<=20)(hlen:out.length<=990):Calls Tryz.prog 126 #[.pointer (some ⟨c.B,0,none⟩), .agg #[.int .i64 1, .int .i64 a], .int .i64 h] W fun e w'=>∃v',e= .returned (.tuple #[])/\MY c st W0 w' v' vg (out++[(⟨1,(Lw.bx c.f h),0,0,a,[]⟩,-1)]) bg w'.heap.size/\FY c.B v v' W w':=by have hB1:=aB W (.cells #[.int .i64 1, .int .i64 a] 121);have b1:=bG.new W [.int .i64 1, .int .i64 a] 121;have K1:=K.kept hB1;have F1:=FY.below (B:=c.B) (v:=v) hB1;have e1:W.alloc (.cells [Value.int .i64 1, .int .i64 a].toArray 121)=W.alloc (.cells #[.int .i64 1, .int .i64 a] 121):=rfl;rw[e1]at b1;generalize hW1:W.alloc (.cells #[.int .i64 1, .int .i64 a] 121)=W1 at hB1 b1 K1 F1;have d0:=(b1.2 0 _ rfl).1;have d1:=(b1.2 1 _ rfl).1;have hb:=fun(y:Int) h1 h2=>dx T K1 y h1 h2;have ha:=dN T K1 ⟨1,(Lw.bx c.f h),0,0,a,[]⟩ 143 (.agg #[.int .i64 (Lw.bx c.f h), .int .i64 a]) rfl (by simp) rfl (by simp) (by omega);have HF:=af F1;clear K K1 b1 F1 hB1 T;go_enter Tryz.func126,Tryz.ntmps126;go_wp2_with(go_at_call 118;refine(hb _ (by omega) (by omega)).mono ?_;rintro e w' ⟨rfl,aR⟩;subst w';dsimp only);refine ha.mono ?_;rintro e w2 ⟨v2,rfl,K2,F2⟩;dsimp only;go_wp2;(try simp only[Exit.inBlock,Exit.then]);exact bodyPost_end (results_none rfl _ _ _) rfl ⟨_,rfl,K2,HF.out.trans F2⟩
theorem D6 (T:TY c W0)(K:MY c st W0 W v vg out bg P)(a h:Int)(hh:0<=h/\h<=20)(hlen:out.length<=990):Calls Tryz.prog 126 #[.pointer (some ⟨c.B,0,none⟩), .agg #[.int .i64 2, .int .i64 a], .int .i64 h] W fun e w'=>∃v',e= .returned (.tuple #[])/\MY c st W0 w' v' vg (out++[(⟨2,(Lw.bx c.f h),a,0,0,[]⟩,-1)]) bg w'.heap.size/\FY c.B v v' W w':=by have hB1:=aB W (.cells #[.int .i64 2, .int .i64 a] 121);have b1:=bG.new W [.int .i64 2, .int .i64 a] 121;have K1:=K.kept hB1;have F1:=FY.below (B:=c.B) (v:=v) hB1;have e1:W.alloc (.cells [Value.int .i64 2, .int .i64 a].toArray 121)=W.alloc (.cells #[.int .i64 2, .int .i64 a] 121):=rfl;rw[e1]at b1;generalize hW1:W.alloc (.cells #[.int .i64 2, .int .i64 a] 121)=W1 at hB1 b1 K1 F1;have d0:=(b1.2 0 _ rfl).1;have d1:=(b1.2 1 _ rfl).1;have hb:=fun(y:Int) h1 h2=>dx T K1 y h1 h2;have ha:=dN T K1 ⟨2,(Lw.bx c.f h),a,0,0,[]⟩ 219 (.agg #[.int .i64 (Lw.bx c.f h), .int .i64 a]) rfl (by simp) rfl (by simp) (by omega);have HF:=af F1;clear K K1 b1 F1 hB1 T;go_enter Tryz.func126,Tryz.ntmps126;go_wp2_with(go_at_call 118;refine(hb _ (by omega) (by omega)).mono ?_;rintro e w' ⟨rfl,aR⟩;subst w';dsimp only);refine ha.mono ?_;rintro e w2 ⟨v2,rfl,K2,F2⟩;dsimp only;go_wp2;(try simp only[Exit.inBlock,Exit.then]);exact bodyPost_end (results_none rfl _ _ _) rfl ⟨_,rfl,K2,HF.out.trans F2⟩
theorem Ex (T:TY c W0)(K:MY c st W0 W v vg out bg P)(a h:Int)(hh:0<=h/\h<=20)(hlen:out.length<=990):Calls Tryz.prog 126 #[.pointer (some ⟨c.B,0,none⟩), .agg #[.int .i64 3, .int .i64 a], .int .i64 h] W fun e w'=>∃v',e= .returned (.tuple #[])/\MY c st W0 w' v' vg (out++[(⟨2,a,(Lw.bx c.f (h-1)),0,0,[]⟩,-1)]) bg w'.heap.size/\FY c.B v v' W w':=by have hB1:=aB W (.cells #[.int .i64 3, .int .i64 a] 121);have b1:=bG.new W [.int .i64 3, .int .i64 a] 121;have K1:=K.kept hB1;have F1:=FY.below (B:=c.B) (v:=v) hB1;have e1:W.alloc (.cells [Value.int .i64 3, .int .i64 a].toArray 121)=W.alloc (.cells #[.int .i64 3, .int .i64 a] 121):=rfl;rw[e1]at b1;generalize hW1:W.alloc (.cells #[.int .i64 3, .int .i64 a] 121)=W1 at hB1 b1 K1 F1;have d0:=(b1.2 0 _ rfl).1;have d1:=(b1.2 1 _ rfl).1;have hb:=fun(y:Int) h1 h2=>dx T K1 y h1 h2;have ha:=dN T K1 ⟨2,a,(Lw.bx c.f (h-1)),0,0,[]⟩ 219 (.agg #[.int .i64 a, .int .i64 (Lw.bx c.f (h-1))]) rfl (by simp) rfl (by simp) (by omega);have HF:=af F1;clear K K1 b1 F1 hB1 T;go_enter Tryz.func126,Tryz.ntmps126;go_wp2_with(go_at_call 118;refine(hb _ (by omega) (by omega)).mono ?_;rintro e w' ⟨rfl,aR⟩;subst w';dsimp only);refine ha.mono ?_;rintro e w2 ⟨v2,rfl,K2,F2⟩;dsimp only;go_wp2;(try simp only[Exit.inBlock,Exit.then]);exact bodyPost_end (results_none rfl _ _ _) rfl ⟨_,rfl,K2,HF.out.trans F2⟩
theorem Ev (T:TY c W0)(K:MY c st W0 W v vg out bg P)(a h:Int)(hh:0<=h/\h<=20)(hlen:out.length<=990):Calls Tryz.prog 126 #[.pointer (some ⟨c.B,0,none⟩), .agg #[.int .i64 4, .int .i64 a], .int .i64 h] W fun e w'=>∃v',e= .returned (.tuple #[])/\MY c st W0 w' v' vg (out++[(⟨2,a,(Lw.bx c.f (h-1)),0,0,[]⟩,-1)]) bg w'.heap.size/\FY c.B v v' W w':=by have hB1:=aB W (.cells #[.int .i64 4, .int .i64 a] 121);have b1:=bG.new W [.int .i64 4, .int .i64 a] 121;have K1:=K.kept hB1;have F1:=FY.below (B:=c.B) (v:=v) hB1;have e1:W.alloc (.cells [Value.int .i64 4, .int .i64 a].toArray 121)=W.alloc (.cells #[.int .i64 4, .int .i64 a] 121):=rfl;rw[e1]at b1;generalize hW1:W.alloc (.cells #[.int .i64 4, .int .i64 a] 121)=W1 at hB1 b1 K1 F1;have d0:=(b1.2 0 _ rfl).1;have d1:=(b1.2 1 _ rfl).1;have hb:=fun(y:Int) h1 h2=>dx T K1 y h1 h2;have ha:=dN T K1 ⟨2,a,(Lw.bx c.f (h-1)),0,0,[]⟩ 219 (.agg #[.int .i64 a, .int .i64 (Lw.bx c.f (h-1))]) rfl (by simp) rfl (by simp) (by omega);have HF:=af F1;clear K K1 b1 F1 hB1 T;go_enter Tryz.func126,Tryz.ntmps126;go_wp2_with(go_at_call 118;refine(hb _ (by omega) (by omega)).mono ?_;rintro e w' ⟨rfl,aR⟩;subst w';dsimp only);refine ha.mono ?_;rintro e w2 ⟨v2,rfl,K2,F2⟩;dsimp only;go_wp2;(try simp only[Exit.inBlock,Exit.then]);exact bodyPost_end (results_none rfl _ _ _) rfl ⟨_,rfl,K2,HF.out.trans F2⟩
theorem DR (T:TY c W0)(K:MY c st W0 W v vg out bg P)(a h:Int)(hh:0<=h/\h<=20)(hlen:out.length<=990):Calls Tryz.prog 126 #[.pointer (some ⟨c.B,0,none⟩), .agg #[.int .i64 5, .int .i64 a], .int .i64 h] W fun e w'=>∃v',e= .returned (.tuple #[])/\MY c st W0 w' v' vg (out++[(⟨3,(Lw.bx c.f (h-2)),(Lw.bx c.f (h-2)),(Lw.bx c.f (h-1)),a,[]⟩,-1)]) bg w'.heap.size/\FY c.B v v' W w':=by have hB1:=aB W (.cells #[.int .i64 5, .int .i64 a] 121);have b1:=bG.new W [.int .i64 5, .int .i64 a] 121;have K1:=K.kept hB1;have F1:=FY.below (B:=c.B) (v:=v) hB1;have e1:W.alloc (.cells [Value.int .i64 5, .int .i64 a].toArray 121)=W.alloc (.cells #[.int .i64 5, .int .i64 a] 121):=rfl;rw[e1]at b1;generalize hW1:W.alloc (.cells #[.int .i64 5, .int .i64 a] 121)=W1 at hB1 b1 K1 F1;have d0:=(b1.2 0 _ rfl).1;have d1:=(b1.2 1 _ rfl).1;have hb:=fun(y:Int) h1 h2=>dx T K1 y h1 h2;have ha:=dN T K1 ⟨3,(Lw.bx c.f (h-2)),(Lw.bx c.f (h-2)),(Lw.bx c.f (h-1)),a,[]⟩ 222 (.agg #[.int .i64 (Lw.bx c.f (h-2)), .int .i64 a, .int .i64 (Lw.bx c.f (h-2)), .int .i64 (Lw.bx c.f (h-1))]) rfl (by simp) rfl (by simp) (by omega);have HF:=af F1;clear K K1 b1 F1 hB1 T;go_enter Tryz.func126,Tryz.ntmps126;go_wp2_with(go_at_call 118;refine(hb _ (by omega) (by omega)).mono ?_;rintro e w' ⟨rfl,aR⟩;subst w';dsimp only);refine ha.mono ?_;rintro e w2 ⟨v2,rfl,K2,F2⟩;dsimp only;go_wp2;(try simp only[Exit.inBlock,Exit.then]);exact bodyPost_end (results_none rfl _ _ _) rfl ⟨_,rfl,K2,HF.out.trans F2⟩
theorem D7 (T:TY c W0)(K:MY c st W0 W v vg out bg P)(a h:Int)(hh:0<=h/\h<=20)(hlen:out.length<=990):Calls Tryz.prog 126 #[.pointer (some ⟨c.B,0,none⟩), .agg #[.int .i64 6, .int .i64 a], .int .i64 h] W fun e w'=>∃v',e= .returned (.tuple #[])/\MY c st W0 w' v' vg (out++[(⟨4,(Lw.bx c.f (h-1)),(Lw.bx c.f (h-1)),0,0,[]⟩,-1)]) bg w'.heap.size/\FY c.B v v' W w':=by have hB1:=aB W (.cells #[.int .i64 6, .int .i64 a] 121);have b1:=bG.new W [.int .i64 6, .int .i64 a] 121;have K1:=K.kept hB1;have F1:=FY.below (B:=c.B) (v:=v) hB1;have e1:W.alloc (.cells [Value.int .i64 6, .int .i64 a].toArray 121)=W.alloc (.cells #[.int .i64 6, .int .i64 a] 121):=rfl;rw[e1]at b1;generalize hW1:W.alloc (.cells #[.int .i64 6, .int .i64 a] 121)=W1 at hB1 b1 K1 F1;have d0:=(b1.2 0 _ rfl).1;have d1:=(b1.2 1 _ rfl).1;have hb:=fun(y:Int) h1 h2=>dx T K1 y h1 h2;have ha:=dN T K1 ⟨4,(Lw.bx c.f (h-1)),(Lw.bx c.f (h-1)),0,0,[]⟩ 215 (.agg #[.int .i64 (Lw.bx c.f (h-1)), .int .i64 (Lw.bx c.f (h-1))]) rfl (by simp) rfl (by simp) (by omega);have HF:=af F1;clear K K1 b1 F1 hB1 T;go_enter Tryz.func126,Tryz.ntmps126;go_wp2_with(go_at_call 118;refine(hb _ (by omega) (by omega)).mono ?_;rintro e w' ⟨rfl,aR⟩;subst w';dsimp only);refine ha.mono ?_;rintro e w2 ⟨v2,rfl,K2,F2⟩;dsimp only;go_wp2;(try simp only[Exit.inBlock,Exit.then]);exact bodyPost_end (results_none rfl _ _ _) rfl ⟨_,rfl,K2,HF.out.trans F2⟩
theorem AV (T:TY c W0)(K:MY c st W0 W v vg out bg P)(a h:Int)(hh:0<=h/\h<=20)(hlen:out.length<=990):Calls Tryz.prog 126 #[.pointer (some ⟨c.B,0,none⟩), .agg #[.int .i64 17, .int .i64 a], .int .i64 h] W fun e w'=>∃v',e= .returned (.tuple #[])/\MY c st W0 w' v' vg (out++[(⟨8,(Lw.bx c.f (h-1)),(Lw.bx c.f (h-1)),0,a,[]⟩,-1)]) bg w'.heap.size/\FY c.B v v' W w':=by have hB1:=aB W (.cells #[.int .i64 17, .int .i64 a] 121);have b1:=bG.new W [.int .i64 17, .int .i64 a] 121;have K1:=K.kept hB1;have F1:=FY.below (B:=c.B) (v:=v) hB1;have e1:W.alloc (.cells [Value.int .i64 17, .int .i64 a].toArray 121)=W.alloc (.cells #[.int .i64 17, .int .i64 a] 121):=rfl;rw[e1]at b1;generalize hW1:W.alloc (.cells #[.int .i64 17, .int .i64 a] 121)=W1 at hB1 b1 K1 F1;have d0:=(b1.2 0 _ rfl).1;have d1:=(b1.2 1 _ rfl).1;have hb:=fun(y:Int) h1 h2=>dx T K1 y h1 h2;have ha:=dN T K1 ⟨8,(Lw.bx c.f (h-1)),(Lw.bx c.f (h-1)),0,a,[]⟩ 224 (.agg #[.int .i64 (Lw.bx c.f (h-1)), .int .i64 (Lw.bx c.f (h-1)), .int .i64 a]) rfl (by simp) rfl (by simp) (by omega);have HF:=af F1;clear K K1 b1 F1 hB1 T;go_enter Tryz.func126,Tryz.ntmps126;go_wp2_with(go_at_call 118;refine(hb _ (by omega) (by omega)).mono ?_;rintro e w' ⟨rfl,aR⟩;subst w';dsimp only);refine ha.mono ?_;rintro e w2 ⟨v2,rfl,K2,F2⟩;dsimp only;go_wp2;(try simp only[Exit.inBlock,Exit.then]);exact bodyPost_end (results_none rfl _ _ _) rfl ⟨_,rfl,K2,HF.out.trans F2⟩
theorem AZ (T:TY c W0)(K:MY c st W0 W v vg out bg P)(a h:Int)(hh:0<=h/\h<=20)(hlen:out.length<=990):Calls Tryz.prog 126 #[.pointer (some ⟨c.B,0,none⟩), .agg #[.int .i64 18, .int .i64 a], .int .i64 h] W fun e w'=>∃v',e= .returned (.tuple #[])/\MY c st W0 w' v' vg (out++[(⟨9,0,(Lw.bx c.f (h-2)),(Lw.bx c.f (h-1)),a,[]⟩,-1)]) bg w'.heap.size/\FY c.B v v' W w':=by have hB1:=aB W (.cells #[.int .i64 18, .int .i64 a] 121);have b1:=bG.new W [.int .i64 18, .int .i64 a] 121;have K1:=K.kept hB1;have F1:=FY.below (B:=c.B) (v:=v) hB1;have e1:W.alloc (.cells [Value.int .i64 18, .int .i64 a].toArray 121)=W.alloc (.cells #[.int .i64 18, .int .i64 a] 121):=rfl;rw[e1]at b1;generalize hW1:W.alloc (.cells #[.int .i64 18, .int .i64 a] 121)=W1 at hB1 b1 K1 F1;have d0:=(b1.2 0 _ rfl).1;have d1:=(b1.2 1 _ rfl).1;have hb:=fun(y:Int) h1 h2=>dx T K1 y h1 h2;have ha:=dN T K1 ⟨9,0,(Lw.bx c.f (h-2)),(Lw.bx c.f (h-1)),a,[]⟩ 226 (.agg #[.int .i64 (Lw.bx c.f (h-1)), .int .i64 (Lw.bx c.f (h-2)), .int .i64 a]) rfl (by simp) rfl (by simp) (by omega);have HF:=af F1;clear K K1 b1 F1 hB1 T;go_enter Tryz.func126,Tryz.ntmps126;go_wp2_with(go_at_call 118;refine(hb _ (by omega) (by omega)).mono ?_;rintro e w' ⟨rfl,aR⟩;subst w';dsimp only);refine ha.mono ?_;rintro e w2 ⟨v2,rfl,K2,F2⟩;dsimp only;go_wp2;(try simp only[Exit.inBlock,Exit.then]);exact bodyPost_end (results_none rfl _ _ _) rfl ⟨_,rfl,K2,HF.out.trans F2⟩
theorem BP (T:TY c W0)(K:MY c st W0 W v vg out bg P)(callee:Nat)(rq:callee<c.fs.length)(h:Int)(hh:0<=h/\h<=20)(hga:(c.fs.getD callee .z).a<=h)(hlen:out.length<=990):Calls Tryz.prog 126 #[.pointer (some ⟨c.B,0,none⟩), .agg #[.int .i64 16, .int .i64 (callee:Int)], .int .i64 h] W fun e w'=>∃v',e= .returned (.tuple #[])/\MY c st W0 w' v' vg (out++[(⟨7,if(c.fs.getD callee .z).g=1 then Lw.bx c.f (h-(c.fs.getD callee .z).a)else Lw.wd c.f+20,0,0,(callee:Int),Lw.args (Lw.bx c.f (h-1)) (c.fs.getD callee .z).a⟩,-1)]) bg w'.heap.size/\FY c.B v v' W w':=by obtain⟨a,ha0⟩:∃a,(callee:Int)=a:=⟨_,rfl⟩;rw[ha0];have hB1:=aB W (.cells #[.int .i64 16, .int .i64 a] 121);have b1:=bG.new W [.int .i64 16, .int .i64 a] 121;have K1:=K.kept hB1;have F1:=FY.below (B:=c.B) (v:=v) hB1;have e1:W.alloc (.cells [Value.int .i64 16, .int .i64 a].toArray 121)=W.alloc (.cells #[.int .i64 16, .int .i64 a] 121):=rfl;rw[e1]at b1;generalize hW1:W.alloc (.cells #[.int .i64 16, .int .i64 a] 121)=W1 at hB1 b1 K1 F1;have d0:=(b1.2 0 _ rfl).1;have d1:=(b1.2 1 _ rfl).1;have hb:=fun(y:Int) h1 h2=>dx T K1 y h1 h2;have ha:=GL T K1 callee rq h hh hga (by omega);rw[ha0]at ha;have HF:=af F1;generalize(⟨7,if(c.fs.getD callee .z).g=1 then Lw.bx c.f (h-(c.fs.getD callee .z).a)else Lw.wd c.f+20,0,0,a,Lw.args (Lw.bx c.f (h-1)) (c.fs.getD callee .z).a⟩:Ln)=LL at ha ⊢;clear K K1 b1 F1 hB1 T ha0 hga rq;go_enter Tryz.func126,Tryz.ntmps126;go_wp2_with(go_at_call 118;refine(hb _ (by omega) (by omega)).mono ?_;rintro e w' ⟨rfl,aR⟩;subst w';dsimp only);refine ha.mono ?_;rintro e w2 ⟨v2,rfl,K2,F2⟩;dsimp only;go_wp2;(try simp only[Exit.inBlock,Exit.then]);exact bodyPost_end (results_none rfl _ _ _) rfl ⟨_,rfl,K2,HF.out.trans F2⟩
theorem kG (T:TY c W0)(K:MY c st W0 W v vg out bg P)(p a h:Int)(hp:p=7\/p=8\/p=9\/p=12\/p=20)(hh:0<=h/\h<=20):Calls Tryz.prog 126 #[.pointer (some ⟨c.B,0,none⟩), .agg #[.int .i64 p, .int .i64 a], .int .i64 h] W fun e w'=>∃v',e= .returned (.tuple #[])/\MY c st W0 w' v' vg (out++[]) bg w'.heap.size/\FY c.B v v' W w':=by have hB1:=aB W (.cells #[.int .i64 p, .int .i64 a] 121);have b1:=bG.new W [.int .i64 p, .int .i64 a] 121;have K1:=K.kept hB1;have F1:=FY.below (B:=c.B) (v:=v) hB1;have e1:W.alloc (.cells [Value.int .i64 p, .int .i64 a].toArray 121)=W.alloc (.cells #[.int .i64 p, .int .i64 a] 121):=rfl;rw[e1]at b1;generalize hW1:W.alloc (.cells #[.int .i64 p, .int .i64 a] 121)=W1 at hB1 b1 K1 F1;have d0:=(b1.2 0 _ rfl).1;have d1:=(b1.2 1 _ rfl).1;have hb:=fun(y:Int) h1 h2=>dx T K1 y h1 h2;have HF:=af F1;rw[List.append_nil];have HK:=af K1.tight;have n1:(p==1)=false:=by{simp;omega};have n2:(p==2)=false:=by{simp;omega};have n3:(p==3)=false:=by{simp;omega};have n4:(p==4)=false:=by{simp;omega};have n5:(p==5)=false:=by{simp;omega};have n6:(p==6)=false:=by{simp;omega};have n16:(p==16)=false:=by{simp;omega};have n17:(p==17)=false:=by{simp;omega};have n18:(p==18)=false:=by{simp;omega};clear K K1 b1 F1 hB1 T hp;go_enter Tryz.func126,Tryz.ntmps126;go_wp2_with(go_at_call 118;refine(hb _ (by omega) (by omega)).mono ?_;rintro e w' ⟨rfl,aR⟩;subst w';dsimp only);(try simp only[Exit.inBlock,Exit.then]);exact bodyPost_end (results_none rfl _ _ _) rfl ⟨rfl,_,HK.out,HF.out⟩
end
end Go.Proofs.YtellfmhljjdjbaaGreatDoor
