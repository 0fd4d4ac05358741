/-
  Own texts for a law: Low7 Lo1 PhiW Lo2 ModO
-/
import Derived.Test.YtellfmhljjdjbaaGreatDoorKA10
import Derived.Test.YtellfmhljjdjbaaGreatDoorKA11
import Derived.Test.YtellfmhljjdjbaaGreatDoorKA12
import Derived.Lib.SmallJoins
import Derived.ChangeOld
namespace Go.Proofs.YtellfmhljjdjbaaGreatDoor
open Go.RowKit Go.Shelf
set_option linter.all false
set_option maxRecDepth 100000
set_option maxHeartbeats 16000000
theorem wR {c:LX}{W0 W:World}{v vg:Value}{out:List (Ln×Int)}{P:Nat->Prop}(T:TX c W0)(K:MK c W0 W v vg out P)(fa:Option Addr)(fl fc:Nat)(d:ByteArray)(oa:Option Addr)(oc:Nat)(hF:FL W0 fa fl c.fs)(hO:IL W0 oa c.f.b.length c.O)(at':Nat)(hat:at'<c.f.b.length)(hr:0<=c.H.getD at' 0)(hlen:out.length<=900):Calls Tryz.prog 66 #[.pointer (some ⟨c.B,0,none⟩), .agg #[.slice fa fl fc, .string d], .slice oa c.f.b.length oc, .int .i64 at'] W fun e w'=>∃v' jI,e= .returned (.tuple #[])/\MK c W0 w' v' jI (out++Lw.step c.fs c.f c.E c.O c.H at') (fun g=>P g\/W.heap.size<=g)/\FX c v vg v' jI W w':=by have hok:St.ok (aF.op c.f.b at') (Hg.arg c.f.b at')=true:=St.aT T.all hat;simp only[St.ok,ax,Wd.bB]at hok;obtain⟨p,hp⟩:∃p,aF.op c.f.b at'=p:=⟨_,rfl⟩;rw[hp]at hok;have h3:(p=7\/p=8\/p=9\/p=12\/p=20\/p=1\/p=2\/p=3\/p=4\/p=5\/p=6\/p=17\/p=18\/p=19)\/(p=10\/p=11\/p=13\/p=15\/p=14)\/p=16:=by{omega};rcases h3 with h|h|h;{exact Qt T K fa fl fc d oa oc hF hO at' hat hr hlen p hp h};{exact QO T K fa fl fc d oa oc hF hO at' hat hr hlen p hp h};exact QM T K fa fl fc d oa oc hF hO at' hat hr hlen p hp h
namespace Lw
open Hg (arg)
theorem ma {fs:List Fn}{f:Fn}{E O H:List Int}(hA:Hg.Acc fs f E O H){n:Nat}(hn:n<f.b.length)(dp:Int):0<=(bZ f E H n dp).1/\(bZ f E H n dp).1<f.b.length:=by by_cases hlt:dp.toNat<(aF.di f.b E n n).length;{obtain⟨t,et,htl,ND,-⟩:=aF.xq hA.Ka rfl hlt;rw[nX hlt (t:=t) et];have f3:=hA.Ka.f3 t (by omega) (by omega);split;{exact⟨by simp only;omega,by simp only;omega⟩};split;{exact⟨by simp only;omega,by simp only;omega⟩};exact⟨by simp only;omega,by simp only;omega⟩};rw[ni hlt];have:=hA.pos;exact⟨by simp only;omega,by simp only;omega⟩
theorem pQ {fs:List Fn}{f:Fn}{E O H:List Int}(hA:Hg.Acc fs f E O H){n:Nat}(hn:n<f.b.length)(hr:0<=H.getD n 0):∀x∈step fs f E O H n,-1<=x.2/\x.2<f.b.length:=by have hty:=hA.typ n hn hr;have hpos:=hA.pos;have one:∀(l:Ln)(x:Ln×Int),x∈[(l,(-1:Int))]->-1<=x.2/\x.2<f.b.length:=fun l x hx=>by{rw[List.mem_singleton]at hx;rw[hx];exact⟨Int.le_refl _,by simp only;omega⟩};intro x hx;unfold step DJ at hx;obtain⟨p,hp⟩:∃p,aF.op f.b n=p:=⟨_,rfl⟩;rw[hp]at hx;by_cases h1:p=1;{rw[az h1]at hx;exact one _ x hx};rw[ay h1]at hx;by_cases h2:p=2;{rw[az h2]at hx;exact one _ x hx};rw[ay h2]at hx;by_cases h3:p=3\/p=4;{rw[az h3]at hx;exact one _ x hx};rw[ay h3]at hx;by_cases h5:p=5;{rw[az h5]at hx;exact one _ x hx};rw[ay h5]at hx;by_cases h6:p=6;{rw[az h6]at hx;exact one _ x hx};rw[ay h6]at hx;by_cases h10:p=10;{rw[az h10]at hx;have hi:=hty.iff (by rw[hp];exact h10);rcases List.mem_cons.1 hx with rfl|hx;{exact⟨Int.le_refl _,by simp only;omega⟩};rw[List.mem_singleton]at hx;rw[hx];simp only;split;{rcases hi with⟨-,a,-⟩|⟨a,-⟩;{omega};omega};rcases hi with⟨a,-⟩|⟨-,a,b,-⟩;{omega};omega};rw[ay h10]at hx;by_cases h11:p=11;{rw[az h11]at hx;have hi:=hty.Es (by rw[hp];exact h11);rw[List.mem_singleton]at hx;rw[hx];simp only;omega};rw[ay h11]at hx;by_cases qy:p=13\/p=15;{rw[az qy]at hx;have hg:=ma hA hn (if p=15 then 99 else arg f.b n);generalize bZ f E H n (if p=15 then 99 else arg f.b n)=L at hx hg;simp only[List.mem_append,List.mem_singleton]at hx;rcases hx with hx|hx;{by_cases hc:L.2.2=1/\L.2.1≠bx f (H.getD n 0-1);{rw[az hc]at hx;exact one _ x hx};rw[ay hc]at hx;cases hx};rw[hx];simp only;omega};rw[ay qy]at hx;by_cases Cb:p=14;{rw[az Cb]at hx;have hg:=ma hA hn (arg f.b n);have hnx:=hty.next (by omega) (by omega) (by omega) (by omega) (by omega);generalize bZ f E H n (arg f.b n)=L at hx hg;simp only at hx;by_cases hc:L.2.2=1/\L.2.1≠bx f (H.getD n 0-1)-1;{rw[az hc]at hx;rcases List.mem_cons.1 hx with rfl|hx;{exact⟨Int.le_refl _,by simp only;omega⟩};rcases List.mem_cons.1 hx with rfl|hx;{exact⟨by simp only;omega,by simp only;omega⟩};rcases List.mem_cons.1 hx with rfl|hx;{exact⟨Int.le_refl _,by simp only;omega⟩};rw[List.mem_singleton]at hx;rw[hx];simp only;omega};rw[ay hc,List.mem_singleton]at hx;rw[hx];simp only;omega};rw[ay Cb]at hx;by_cases h16:p=16;{rw[az h16]at hx;exact one _ x hx};rw[ay h16]at hx;by_cases Hy:p=17;{rw[az Hy]at hx;exact one _ x hx};rw[ay Hy]at hx;by_cases h18:p=18;{rw[az h18]at hx;exact one _ x hx};rw[ay h18]at hx;by_cases h19:p=19;{rw[az h19]at hx;exact one _ x hx};rw[ay h19]at hx;cases hx
theorem wG {fs:List Fn}{f:Fn}{E O H:List Int}(hA:Hg.Acc fs f E O H):∀n,n<=f.b.length->∀x∈(df fs f E O H n).1,-1<=x.2/\x.2<f.b.length
 | 0,_,x,hx=>by
   unfold df first at hx
   simp only[List.mem_map]at hx
   obtain⟨i,-,rfl⟩:=hx
   have:=hA.pos
   exact⟨Int.le_refl _,by simp only;omega⟩
 | n +1,hn,x,hx=>by
   unfold df at hx
   simp only[List.mem_append]at hx
   rcases hx with hx|hx
   · exact wG hA n (by omega) x hx
   · split at hx
     · exact pQ hA (by omega) (by assumption) x hx
     · cases hx
theorem zO {fs:List Fn}{f:Fn}{E O H:List Int}(hA:Hg.Acc fs f E O H):∀x∈raw fs f E O H,-1<=x.2/\x.2<f.b.length:=fun x hx=>by
 unfold raw at hx
 rcases List.mem_append.1 hx with hx|hx
 · exact wG hA _ (Nat.le_refl _) x hx
 · have:=hA.pos
   unfold last at hx
   split at hx
   · rcases List.mem_cons.1 hx with rfl|hx
     · exact⟨Int.le_refl _,by simp only;omega⟩
     · rw[List.mem_singleton]at hx
       rw[hx]
       exact⟨Int.le_refl _,by simp only;omega⟩
   · rw[List.mem_singleton]at hx
     rw[hx]
     exact⟨Int.le_refl _,by simp only;omega⟩
end Lw
theorem sU:∀(xs:List Lv)(k:Nat)(y:Int),k<xs.length->dG (xs.set k ((xs.getD k fM).1,(xs.getD k fM).2.1,(xs.getD k fM).2.2.1,(xs.getD k fM).2.2.2.1,y,(xs.getD k fM).2.2.2.2.2))=(dG xs).set (k*6+4) (.int .i64 y)
 |[],k,y,h=>by simp at h
 |x::xs,0,y,h=>rfl
 | x::xs,k+1,y,h=>by
   have ih:=sU xs k y (by simpa using h)
   have e:(x::xs).getD (k+1) fM=xs.getD k fM:=rfl
   rw[e,List.set_cons_succ,ic,ih,ic,show(k+1)*6+4=k*6+4+1+1+1+1+1+1 by omega]
   simp only[List.set_cons_succ]
section
variable {c : LY} {st : List Int} {W0 W : World} {v vg : Value} {out : List (Ln × Int)} {bg : List Int} {P : Nat}
theorem dx (T:TY c W0)(K:MY c st W0 W v vg out bg P)(h:Int)(h1:-100<=h)(h2:h<=100):Calls Tryz.prog 118 #[.pointer (some ⟨c.B,0,none⟩), .int .i64 h] W fun e w'=>e= .returned (.int .i64 (Lw.bx c.f h))/\w'=W:=by have d5:=(K.box.2 5 _ rfl).1;have hok:=T.ok;have HW:Hid (Lw.bx c.f h=Lw.wd c.f+h):=rfl;have hw1:0<=Lw.wd c.f/\Lw.wd c.f<=6:=by{unfold Lw.wd;omega};generalize Lw.wd c.f=u at d5 HW hw1;clear T K hok;go_enter Tryz.func118,Tryz.ntmps118;go_wp2;go_ret;exact⟨by rw[HW.out]<;>rfl,rfl⟩
theorem vI (T:TY c W0)(K:MY c st W0 W v vg out bg P):Calls Tryz.prog 127 #[.pointer (some ⟨c.B,0,none⟩)] W fun e w'=>e= .returned (.int .i64 (Lw.wd c.f+20))/\w'=W:=by have hcon:=dx T K 20 (by decide) (by decide);have HW:Hid (Lw.bx c.f 20=Lw.wd c.f+20):=rfl;generalize Lw.bx c.f 20=u at hcon HW;clear T K;go_enter Tryz.func127,Tryz.ntmps127;go_wp2_with fail;refine hcon.mono ?_;rintro e w2 ⟨rfl,rfl⟩;dsimp only;go_wp2;go_ret;exact⟨by rw[HW.out]<;>rfl,rfl⟩
theorem o8 (K:MY c st W0 W v vg out bg P)(hl:out.length<=1000):Calls Tryz.prog 61 #[.pointer (some ⟨c.B,0,none⟩)] W fun e w'=>e= .returned (.int .i64 (out.length:Int))/\w'=W:=by obtain⟨D,cs,us,r1,-⟩:=K.row;obtain⟨av,cv,rfl⟩:=bf r1;have d9:=(K.box.2 9 _ rfl).1;generalize out.length=n at d9 hl ⊢;clear K r1;go_enter Tryz.func61,Tryz.ntmps61;go_wp2;go_ret;exact⟨rfl,rfl⟩
theorem fP (B:Nat)(t:Int)(W:World):Calls Tryz.prog 121 #[.pointer (some ⟨B,0,none⟩), .int .i64 t] W fun e w'=>e= .returned (.func (.func 145) #[] #[.pointer (some ⟨W.heap.size,0,none⟩), .pointer (some ⟨W.heap.size+1,0,none⟩)])/\w'=(W.alloc (.cells #[.pointer (some ⟨B,0,none⟩)] 82)).alloc (.cells #[.int .i64 t] 2):=by go_enter Tryz.func121,Tryz.ntmps121;go_wp2;go_ret;exact⟨rfl,rfl⟩
theorem jg (c:LY)(st:List Int)(t:Int)(W:World){w':World}(hw:w'=(W.alloc (.cells #[.pointer (some ⟨c.B,0,none⟩)] 82)).alloc (.cells #[.int .i64 t] 2)):rz c st w' (fun g=>W.heap.size<=g/\g<w'.heap.size) (Qr W.heap.size (W.heap.size+1)) t/\Below W.heap.size W w':=by subst hw;have b1:=Boxed.new W 82 (.pointer (some ⟨c.B,0,none⟩));have b2:=Boxed.new (W.alloc (.cells #[.pointer (some ⟨c.B,0,none⟩)] 82)) 2 (.int .i64 t);have c1:=(b1.alloc (.cells #[.int .i64 t] 2)).cell;have c2:=b2.cell;simp only[World.size_alloc]at c2;have hB:=aB W (.cells #[.pointer (some ⟨c.B,0,none⟩)] 82);exact⟨.inl ⟨_,_,rfl,⟨Nat.le_refl _,by simp<;>omega⟩,⟨by omega,by simp<;>omega⟩,c1,c2⟩,hB.trans ((aB _ _).mono hB.size)⟩
theorem MR (p:Nat)(s:Value)(W:World)(h:W.cell? ⟨p,0,none⟩=some s):Calls Tryz.prog 117 #[.pointer (some ⟨p,0,none⟩)] W fun e w'=>e= .returned s/\w'=W:=by go_enter Tryz.func117,Tryz.ntmps117;go_wp2;go_ret;exact⟨rfl,rfl⟩
theorem rR (p:Nat)(t:Int)(W:World)(h:W.cell? ⟨p,0,none⟩=some (.int .i64 t)):Calls Tryz.prog 147 #[.pointer (some ⟨p,0,none⟩)] W fun e w'=>e= .returned (.int .i64 t)/\w'=W:=by go_enter Tryz.func147,Tryz.ntmps147;go_wp2;go_ret;exact⟨rfl,rfl⟩
theorem sj (c:LY)(p q:Nat)(t:Nat)(W:World)(h:W.cell? ⟨p,0,none⟩=some (.pointer (some ⟨c.B,0,none⟩)))(h2:W.cell? ⟨q,0,none⟩=some (.int .i64 (t:Int)))(ba:Option Addr)(bn bc:Nat)(xs:List Int)(h3:W.cell? ⟨c.B,8,none⟩=some (.slice ba bn bc))(hx:IL W ba bn xs)(ht:t<bn):Calls Tryz.prog 145 #[.pointer (some ⟨p,0,none⟩), .pointer (some ⟨q,0,none⟩)] W fun e w'=>e= .returned (.int .i64 (xs.getD t 0))/\Below W.heap.size W w':=by obtain⟨hl,hm,h0|⟨b,off,e,hb,hc⟩⟩:=hx;{omega};have hct:=hc t ht;subst e;generalize xs.getD t 0=y at hct ⊢;unfold maxLen at hm;clear hc hl;go_enter Tryz.func145,Tryz.ntmps145;go_wp2;go_quiet (fail);go_wp2;go_ret;exact⟨rfl,eU _ _⟩
theorem bW {W W':World}{p:Addr}{v:Value}(hB:Below W.heap.size W W')(h:W.cell? p=some v):W'.cell? p=some v:=(hB.cell (p:=p) (World.block_lt_of_cell? _ _ h)).trans h
theorem JW {D:Nat->Prop}{pv:Value}{t:Int}(p:Nat)(hq:W.cell? ⟨p,0,none⟩=some pv)(h:rz c st W D pv t)(ht:0<=t/\t<st.length)(hbx:W.cell? ⟨c.B,8,none⟩=some vg)(hbg:OI W (c.B+1) vg st):Calls Tryz.prog 144 #[.pointer (some ⟨p,0,none⟩)] W fun e w'=>e= .returned (.iface 218 (.agg #[.int .i64 (st.getD t.toNat 0)]))/\Below W.heap.size W w':=by obtain⟨ba,bc,rfl,hil⟩:=hbg.slice;rcases h with⟨p1,q1,rfl,-,-,h1,h2⟩|⟨p1,rfl,-,h1⟩;{obtain⟨n,rfl⟩:=Int.eq_ofNat_of_zero_le ht.1;have hc:=sj c p1 q1 n W h1 h2 ba _ bc st hbx hil (by omega);unfold Qr at hq;simp only[aA];generalize st.getD n 0=N at hc ⊢;clear hil hbg;go_enter Tryz.func144,Tryz.ntmps144;go_wp2_with fail;refine hc.mono ?_;rintro e w2 ⟨rfl,hB⟩;dsimp only;go_wp2;go_ret;exact⟨rfl,hB⟩};have hc:=rR p1 _ W h1;unfold Xz at hq;generalize st.getD t.toNat 0=N at hc ⊢;clear hil hbg;go_enter Tryz.func144,Tryz.ntmps144;go_wp2_with fail;refine hc.mono ?_;rintro e w2 ⟨rfl,aR⟩;subst aR;dsimp only;go_wp2;go_ret;exact⟨rfl,Below.refl _ _⟩
theorem Qm {D:Nat->Prop}{pv:Value}{t a:Int}(p q:Nat)(ha:W.cell? ⟨p,0,none⟩=some (.int .i64 a))(hq:W.cell? ⟨q,0,none⟩=some pv)(h:rz c st W D pv t)(ht:0<=t/\t<st.length)(hbx:W.cell? ⟨c.B,8,none⟩=some vg)(hbg:OI W (c.B+1) vg st):Calls Tryz.prog 162 #[.pointer (some ⟨p,0,none⟩), .pointer (some ⟨q,0,none⟩)] W fun e w'=>e= .returned (.iface 245 (.agg #[.int .i64 a, .int .i64 (st.getD t.toNat 0)]))/\Below W.heap.size W w':=by obtain⟨ba,bc,rfl,hil⟩:=hbg.slice;rcases h with⟨p1,q1,rfl,-,-,h1,h2⟩|⟨p1,rfl,-,h1⟩;{obtain⟨n,rfl⟩:=Int.eq_ofNat_of_zero_le ht.1;have hc:=fun(p:dB W)=>sj c p1 q1 n p.to (bW p.h h1) (bW p.h h2) ba _ bc st (bW p.h hbx) (hil.kept p.h) (by omega);have hA:=fun(p:dB W)=>bW p.h ha;have hQ:=fun(p:dB W)=>bW p.h hq;unfold Qr at hQ;simp only[aA];generalize st.getD n 0=N at hc ⊢;clear hil hbg ha hq hbx h1 h2;have hne:=dB.any W;go_enter Tryz.func162,Tryz.ntmps162;go_wp2;refine bK (by kernel_rfl) (by kernel_rfl) ?_;(repeat(go_big_quiet_step (exact jk (hc _))));refine wpQuiet_nil ?_;rintro _ ⟨pw,rfl⟩;have hB:=pw.h;generalize pw.to=w2 at hB ⊢;clear hA hQ hc hne;go_wp2;go_ret;exact⟨rfl,hB⟩};have hc:=fun(p:dB W)=>rR p1 _ p.to (bW p.h h1);have hA:=fun(p:dB W)=>bW p.h ha;have hQ:=fun(p:dB W)=>bW p.h hq;unfold Xz at hQ;generalize st.getD t.toNat 0=N at hc ⊢;clear hil hbg ha hq hbx h1;have hne:=dB.any W;go_enter Tryz.func162,Tryz.ntmps162;go_wp2;refine bK (by kernel_rfl) (by kernel_rfl) ?_;(repeat(go_big_quiet_step (exact gT (hc _))));refine wpQuiet_nil ?_;rintro _ ⟨pw,rfl⟩;have hB:=pw.h;generalize pw.to=w2 at hB ⊢;clear hA hQ hc hne;go_wp2;go_ret;exact⟨rfl,hB⟩
theorem zB {D:Nat->Prop}{cv u:Value}{x:Ln×Int}(h:AA c st W D cv u x):(∃p,cv= .func (.func 117) #[] #[.pointer (some ⟨p,0,none⟩)]/\W.cell? ⟨p,0,none⟩=some (JZ (Lw.fJ st x) u))\/(∃p N,cv= .func (.func 144) #[] #[.pointer (some ⟨p,0,none⟩)]/\Lw.fJ st x=⟨5,0,0,0,N,[]⟩/\∀(W':World)(vg:Value),Below W.heap.size W W'->W'.cell? ⟨c.B,8,none⟩=some vg->OI W' (c.B+1) vg st->Calls Tryz.prog 144 #[.pointer (some ⟨p,0,none⟩)] W' fun e w'=>e= .returned (.iface 218 (.agg #[.int .i64 N]))/\Below W'.heap.size W' w')\/(∃p q a N,cv= .func (.func 162) #[] #[.pointer (some ⟨p,0,none⟩), .pointer (some ⟨q,0,none⟩)]/\Lw.fJ st x=⟨6,0,a,0,N,[]⟩/\∀(W':World)(vg:Value),Below W.heap.size W W'->W'.cell? ⟨c.B,8,none⟩=some vg->OI W' (c.B+1) vg st->Calls Tryz.prog 162 #[.pointer (some ⟨p,0,none⟩), .pointer (some ⟨q,0,none⟩)] W' fun e w'=>e= .returned (.iface 245 (.agg #[.int .i64 a, .int .i64 N]))/\Below W'.heap.size W' w'):=by have pk:∀{W':World}{pv:Value}{t:Int},rz c st W D pv t->Below W.heap.size W W'->rz c st W' (fun _=>True) pv t:=fun{W' pv t} h hB=>by{rcases h with⟨p,q,e,hp,hq,h1,h2⟩|⟨p,e,hp,h1⟩;{exact .inl ⟨p,q,e,trivial,trivial,bW hB h1,bW hB h2⟩};exact .inr ⟨p,e,trivial,bW hB h1⟩};rcases h with⟨p,rfl,h1,h2,h3,hp,h4,h5⟩|⟨p,pv,rfl,h1,h2,hp,h3,h4⟩|⟨p,q,pv,a,rfl,h1,h2,hp,hq,h3,h4,h5⟩;{refine .inl ⟨p,rfl,?_⟩;rw[Lw.fJ,ay (by omega)];exact h4};{refine .inr (.inl ⟨p,st.getD x.2.toNat 0,rfl,?_,fun W' vg hB hb ho=>JW p (bW hB h3) (pk h4 hB) h2 hb ho⟩);rw[Lw.fJ,az h2.1,h1]};refine .inr (.inr ⟨p,q,a,st.getD x.2.toNat 0,rfl,?_,fun W' vg hB hb ho=>Qm p q (bW hB h3) (bW hB h4) (pk h5 hB) h2 hb ho⟩);rw[Lw.fJ,az h2.1,h1]
end
section
open Go.RowKit
variable {P : Program} {ops : Array Oper} {md : Region.Mode} {Q : Exit → Act → World → Prop} {n : Nat}
def Lm (l:List Oper)(sz:Nat)(ss ds:List Nat):Bool:=
 decide (ds.length=l.length)&&ds.Nodup&&(List.range l.length).all fun i=>match l[i]? with
   |some o=>(if ss.contains i then o.dst==none&&decide (sz<=ds.getD i 0)else o.dst==ds[i]?&&decide (ds.getD i 0<sz))&&(match o.guard with|none=>true|some (j,_)=>decide (j<l.length)&& !ss.contains j)&&o.after.all fun e=> !Region.binds .any e||decide (e.on<i)
   |none=>false
def QH (ds:List Nat)(b:Act)(f:Bool->Bool):Option (Nat×Bool)->Prop->Prop
 |none,p=>p
 |some (j,v),_=>b.eval (.tmp (ds.getD j 0))= .bool (f v)
def Fu (P:Program)(Q:Exit->Act->World->Prop)(a:Act)(ds:List Nat)(A:World->Prop)(R:World->World->Prop)(F:Nat->Value->World->Prop)(k:Nat)(o:Oper):Prop:=
 ∀ (b:Act) (x:World),A x->(∀t,t∉ds->b.eval (.tmp t)=a.eval (.tmp t))->(∀j,(o.after.any fun e=>Region.binds .any e&&e.on==j)=true->F j (b.eval (.tmp (ds.getD j 0))) x)->
   (QH ds b id o.guard True/\o.wp P b x (fun b' x'=>∃y,b'=b.put o.dst y/\A x'/\F k y x'/\R x x') Q)\/(QH ds b not o.guard False/\F k undef x/\R x x)
def pq (P:Program)(Q:Exit->Act->World->Prop)(a:Act)(ds:List Nat)(A:World->Prop)(R:World->World->Prop)(F:Nat->Value->World->Prop):Nat->List Oper->Prop
 |_,[]=>True
 |k,o::r=>Fu P Q a ds A R F k o/\pq P Q a ds A R F (k+1) r
theorem pq.at {a:Act}{ds:List Nat}{A:World->Prop}{R:World->World->Prop}{F:Nat->Value->World->Prop}:∀{r:List Oper}{k:Nat},pq P Q a ds A R F k r->∀i o,r[i]?=some o->Fu P Q a ds A R F (k+i) o
 |[],_,_,i,o,h=>by simp at h
 |q::r,k,h,0,o,e=>by cases e;exact h.1
 | q::r,k,h,i+1,o,e=>by
   have:=pq.at h.2 i o (by simpa using e)
   rwa [show k+1+i=k+(i+1)by omega]at this
theorem jq {id:Nat}{a:Act}{w:World}{l:List Oper}(ss ds:List Nat)(A:World->Prop)(R:World->World->Prop)(F:Nat->Value->World->Prop)(hm:P.follows .mixedOrders=true)(hB:Lm l a.tmps.size ss ds=true)(hS:∀i∈ss,∀y x,F i y x->F i undef x)(h0:A w.drew)(hR:∀i y x x',R x x'->F i y x->F i y x')(hall:pq P Q a ds A R F 0 l)(hend:∀b x,A x->(∀j,j<l.length->F j (b.eval (.tmp (ds.getD j 0))) x)->b=ds.foldl (fun a' t=>a'.put (some t) (b.eval (.tmp t))) a->Q .normal b x):(Code.region id l.toArray true).wp P Q a w:=by
 simp only[Lm,ax,decide_eq_true_eq,List.all_eq_true,List.mem_range]at hB
 obtain⟨⟨hdl,hnd⟩,hops⟩:=hB
 have hgd:∀i,i<l.length->ds[i]?=some (ds.getD i 0):=fun i hi=>by rw[ai,aj (by omega)];rfl
 have hop:∀i o,l.toArray[i]?=some o->((ss.contains i=true->o.dst=none/\a.tmps.size<=ds.getD i 0)/\(ss.contains i=false->o.dst=some (ds.getD i 0)/\ds.getD i 0<a.tmps.size))/\(∀j v,o.guard=some (j,v)->j<l.length/\ss.contains j=false)/\(∀e∈o.after,Region.binds .any e=true->e.on<i)/\ds.getD i 0∈ds/\i<l.length:=by intro i o ho;have ho':l[i]?=some o:=by{simpa using ho};have hi:i<l.length:=(List.getElem?_eq_some_iff.1 ho').1;have h1:=hops i hi;rw[ho']at h1;simp only[ax,Array.all_eq_true',decide_eq_true_eq,Bool.or_eq_true,Bool.not_eq_true']at h1;obtain⟨⟨h2,h3⟩,h4⟩:=h1;refine⟨⟨fun e=>?_,fun e=>?_⟩,fun j v e=>?_,fun e he hbi=>(h4 e he).elim (fun h=>by rw[hbi]at h;cases h) (fun h=>h),List.mem_of_getElem? (hgd i hi),hi⟩;{rw[az e]at h2;simpa using h2};{rw[ay (by rw[e];decide),hgd i hi]at h2;simpa using h2};rw[e]at h3;simpa using h3
 have hinj:∀i j,i<l.length->j<l.length->ds.getD i 0=ds.getD j 0->i=j:=by intro i j hi hj e;rw[ai,ai,aj (by omega),aj (by omega)]at e;have e':ds[i]'(by omega)=ds[j]'(by omega):=e;rcases Nat.lt_trichotomy i j with h|h|h;{exact absurd e' (List.pairwise_iff_getElem.1 hnd i j (by omega) (by omega) h)};{exact h};exact absurd e'.symm (List.pairwise_iff_getElem.1 hnd j i (by omega) (by omega) h)
 let I:Array Bool->Act->World->Prop:=fun q b x=>A x/\b.defers=a.defers/\b.tmps.size=a.tmps.size/\(∀t,t∉ds->b.eval (.tmp t)=a.eval (.tmp t))/\∀j,j<l.length->q.getD j false=true->F j (b.eval (.tmp (ds.getD j 0))) x
 have hsl:l.toArray.size=l.length:=by simp
 have hu:zg l.length (Array.replicate l.toArray.size false)=l.length:=by
  have:∀m,m<=l.toArray.size->zg m (Array.replicate l.toArray.size false)=m:=by
   intro m
   induction m with
   |zero=>intro _;rfl
   |succ m ih=>
    intro hm
    rw[jr,ih (by omega)]
    have:(Array.replicate l.toArray.size false).getD m true=false:=getD_in (by simp at hm ⊢;omega) (getD_replicate_false _ _)
    rw[az this]
  exact this _ (by omega)
 have H := wpAny_all (P:=P) (Q:=Q) (md:= .any) (ops:=l.toArray) I (fun i o ho=>(hop i o ho).2.2.1)
   (fun q b x i o hq ho hi hun hafter hI=>by
     obtain⟨hA,hdf,hsize,hfr,hF⟩:=hI
     obtain⟨⟨hds,hdn⟩,hg,hb,hmem,hil⟩:=hop i o ho
     have Kh:=hall.at i o (by simpa using ho)
     rw[Nat.zero_add]at Kh
     have hwp:=Kh b x hA hfr (fun j hj=>by
       obtain⟨e,he,hbe⟩:=Array.any_eq_true'.1 hj
       simp only[ax,beq_iff_eq]at hbe
       have h1:=hafter e he hbe.1
       have h2:=hb e he hbe.1
       rw[hbe.2]at h1 h2
       exact hF j (by omega) h1)
     have hcl:∀y x',A x'->F i y x'->R x x'->I (q.setIfInBounds i true) (b.put o.dst y) x':=fun y x' hA' hF' Ja=>by
       rcases es:ss.contains i with _|_
       · obtain⟨hd,hlt⟩:=hdn es
         rw[hd]
         have hlt':ds.getD i 0<b.tmps.size:=by rw[hsize];exact hlt
         refine⟨hA',hdf,by simpa[Act.put]using hsize,fun t ht=>?_,fun j hj hq'=>?_⟩
         · rw[oD _ _ _ _ hlt',ay (fun e=>ht (by rw[←e];exact hmem))]
           exact hfr t ht
         · rw[oD _ _ _ _ hlt']
           by_cases e:i=j
           · subst e
             rw[az rfl]
             exact hF'
           · rw[ay (fun e2=>e (hinj i j hil hj e2))]
             rw[getD_set_ne false e]at hq'
             exact hR j _ x x' Ja (hF j hj hq')
       · obtain⟨hd,hge⟩:=hds es
         rw[hd]
         refine⟨hA',hdf,hsize,hfr,fun j hj hq'=>?_⟩
         by_cases e:i=j
         · subst e
           have h5:b.tmps[ds.getD i 0]?=none:=Array.getElem?_eq_none (by rw[hsize];exact hge)
           have h6:b.eval (.tmp (ds.getD i 0))=undef:=by
             show b.tmps.getD _ undef=undef
             rw[Array.getD_eq_getD_getElem?,h5]
             rfl
           show F i (b.eval (.tmp (ds.getD i 0))) x'
           rw[h6]
           exact hS i (by simpa using es) _ _ hF'
         · rw[getD_set_ne false e]at hq'
           exact hR j _ x x' Ja (hF j hj hq')
     have hy:∀j v u,o.guard=some (j,v)->b.eval (.tmp (ds.getD j 0))= .bool u->Region.wanted o (yielded l.toArray b.tmps)=(u==v):=fun j v u hj hu=>by
       obtain⟨hjn,hjs⟩:=hg j v hj
       obtain⟨⟨-,hd2⟩,-⟩:=hop j (l.toArray[j]'(by omega)) (Array.getElem?_eq_getElem (by omega))
       obtain⟨hd2,hlt2⟩:=hd2 hjs
       have h4:b.tmps[ds.getD j 0]?=some (.bool u):=by
         rw[←hsize]at hlt2
         rw[←hu]
         generalize ds.getD j 0=t at hlt2 ⊢
         simp[Act.eval,hlt2]
       have h6:yielded l.toArray b.tmps j=some u:=by
         unfold yielded
         rw[Array.getElem?_eq_getElem (by omega)]
         simp only[Option.bind_some,hd2,h4]
       unfold Region.wanted
       rw[hj]
       simp only[h6]
       cases u<;>cases v<;>rfl
     unfold wpOp
     simp only[ho]
     rcases hwp with⟨hw1,hwp⟩|⟨hw1,hF',Ja⟩
     · have hw:Region.wanted o (yielded l.toArray b.tmps)=true:=by
         rcases hgo:o.guard with _|⟨j,v⟩
         · simp[Region.wanted,hgo]
         · rw[hgo]at hw1
           rw[hy j v v hgo hw1]
           cases v<;>rfl
       rw[az hw]
       refine .inl (Oper.wp_mono (fun b' x' h'=>?_) hwp)
       obtain⟨y,rfl,hA',hF',Ja⟩:=h'
       exact hcl y x' hA' hF' Ja
     · have hw:¬Region.wanted o (yielded l.toArray b.tmps)=true:=by
         rcases hgo:o.guard with _|⟨j,v⟩
         · rw[hgo]at hw1
           exact hw1.elim
         · rw[hgo]at hw1
           rw[hy j v (!v) hgo hw1]
           cases v<;>decide
       rw[ay hw]
       exact hcl undef x hA hF' Ja)
   (fun q b x hq Dk hI=>by
     obtain⟨hA,hdf,hsize,hfr,hF⟩:=hI
     have hqs:q.size=l.length:=by rw[hq,hsl]
     have hF2:∀j,j<l.length->F j (b.eval (.tmp (ds.getD j 0))) x:=fun j hj=>hF j hj (by
       have:=Dk j (by omega)
       have h1:j<q.size:=by omega
       simp[h1]at this ⊢
       exact this)
     have hbf:b=ds.foldl (fun a' t=>a'.put (some t) (b.eval (.tmp t))) a:=by
       obtain⟨s1,s2,s3⟩:=pV (fun t=>b.eval (.tmp t)) ds a
       have ht:b.tmps=(ds.foldl (fun a' t=>a'.put (some t) (b.eval (.tmp t))) a).tmps:=by
         apply Array.ext_getElem?
         intro t
         rw[s3 t]
         by_cases e:t<a.tmps.size
         · have eb:b.tmps[t]?=some (b.eval (.tmp t)):=by
             have h1:t<b.tmps.size:=by omega
             simp[Act.eval,h1]
           by_cases e2:t∈ds
           · rw[az ⟨e2,e⟩,eb]
           · rw[ay (fun h=>e2 h.1),eb,hfr t e2]
             simp[Act.eval,e]
         · rw[ay (fun h=>e h.2),Array.getElem?_eq_none (by omega),Array.getElem?_eq_none (by omega)]
       have e3:∀c d:Act,c.tmps=d.tmps->c.defers=d.defers->c=d:=by
         rintro⟨c1,c2⟩ ⟨d1,d2⟩ h1 h2
         simp only at h1 h2
         rw[h1,h2]
       exact e3 _ _ ht (hdf.trans s2.symm)
     exact hend b x hA hF2 hbf)
   l.length (Array.replicate l.toArray.size false) a w.drew (by simp) (by rw[hsl];exact hu) ⟨h0,rfl,rfl,fun t _=>rfl,fun j hj h=>by rw[getD_replicate_false]at h;cases h⟩
 rw[←hsl]at H
 exact wp_region_any hm H
def PF (ps:Nat->Value->World->Prop)(l:List (Option Value))(j:Nat)(y:Value)(x:World):Prop:=
 match l.getD j none with
 |some v=>y=v
 |none=>ps j y x
theorem PF.dZ {R:World->World->Prop}{ps:Nat->Value->World->Prop}{l:List (Option Value)}(h:∀i y x x',R x x'->ps i y x->ps i y x')(i:Nat)(y:Value)(x x':World)(hr:R x x')(hf:PF ps l i y x):PF ps l i y x':=by unfold PF at hf ⊢;split at hf;{exact hf};exact h i y x x' hr hf
end
section
variable {c : LY} {st : List Int} {W0 W : World} {v vg : Value} {out : List (Ln × Int)} {bg : List Int} {P : Nat}
theorem rU:(Tryz.prog.info? 89).map (fun i=>(i.zero,i.size,i.bytes))=some (some .nilFunc,1,8):=by kernel_rfl
theorem oJ (W W':World)(p:Value)(ty:TypeId)(H:Nat)(hH:W.heap.size=H)(hc:∀i,W'.cell? ⟨H,i,none⟩=(W.alloc (.cells #[p] ty)).cell? ⟨H,i,none⟩):∀j y,[p][j]?=some y->W'.cell? ((⟨H,0,none⟩:Addr).add j)=some y:=by subst hH;intro j y hy;(have hadd:(⟨W.heap.size,0,none⟩:Addr).add j=⟨W.heap.size,j,none⟩:=by unfold Addr.add;split<;>simp_all);rw[hadd,hc,World.cell?_alloc_at _ _ _ _ rfl];simpa using hy
theorem CU (T:TY c W0)(K:MY c st W0 W v vg out bg P)(x:Ln×Int)(u:Value)(TT:TypeId)(sv:Value)(hsv:JZ x.1 u= .iface TT sv)(hx2:x.2=-1)(hxk:1<=x.1.k/\x.1.k<=11)(hcn:Ln.cn x.1=x.1)(h7l:x.1.k=7->∃g n k,u= .slice (some ⟨g,0,none⟩) n k/\P<=g/\OI W (c.B+1) u x.1.l/\v.ownBlock≠some g/\vg.ownBlock≠some g)(hlen:out.length<=1000):Calls Tryz.prog 89 #[.pointer (some ⟨c.B,0,none⟩), .iface TT sv] W fun e w'=>∃v',e= .returned (.tuple #[])/\MY c st W0 w' v' vg (out++[x]) bg w'.heap.size/\FY c.B v v' W w':=by
 obtain⟨i0,hi,hz0,hz1,hz2⟩:=info_parts rU
 have tZ:=aB W (.cells #[.iface TT sv] 91)
 have hBb:Below W.heap.size W (W.alloc (.cells #[.iface TT sv] 91)):=tZ
 have hsz0:=K.sz
 obtain⟨D,cs,us,hr⟩:=K.row
 have hvB:∀g,v.ownBlock=some g->c.B+1<=g/\g<W.heap.size:=fun g hg=>aV hr.1 hg
 have hgB:∀g,vg.ownBlock=some g->c.B+1<=g/\g<W.heap.size:=fun g hg=>aV K.EI hg
 have LP:AA c st (W.alloc (.cells #[.iface TT sv] 91)) (fun g=>(x.1.k=7/\g=Lp u\/W.heap.size<=g)/\g<(W.alloc (.cells #[.iface TT sv] 91)).heap.size) (dfA W.heap.size) u x:=by refine .inl ⟨_,rfl,hx2,hxk,hcn,⟨.inr (Nat.le_refl _),by simp⟩,?_,fun h7=>?_⟩;{rw[World.cell?_alloc_at _ _ _ _ rfl,hsv];rfl};obtain⟨g,n,k,rfl,hP,ho,-⟩:=h7l h7;exact⟨g,n,k,rfl,⟨.inl ⟨h7,rfl⟩,ak (aV ho rfl).2 hBb.size⟩,ho.kept hBb⟩
 have hB2:=hBb.trans ((aB _ (.cells #[.func (.func 117) #[] #[.pointer (some ⟨W.heap.size,0,none⟩)]] 89)).mono hBb.size)
 obtain⟨av,cv,rfl⟩:=bf hr.1
 have hr2:=aG hr.1 hB2
 have hb2:=K.box.kept hB2
 have d9:=(K.box.2 9 _ rfl).1
 have HRW:=af hr2
 have HB:=af hb2
 have hK2:=fun(W2:World) (v':Value) hrow hg hat=>MY.FC (W2:=W2) (v':=v') K T.lt hB2 D cs us hr (fun g=>(x.1.k=7/\g=Lp u\/W.heap.size<=g)/\g<(W.alloc (.cells #[.iface TT sv] 91)).heap.size) _ u x (AA.same LP (fun g hg=>(aB _ (.cells #[.func (.func 117) #[] #[.pointer (some ⟨W.heap.size,0,none⟩)]] 89)).block g hg.2) (fun g hg=>hg)) (fun g hg=>by
  obtain⟨h1|h1,h2⟩:=hg
  · obtain⟨g',n,k,rfl,hP,ho,hv1,hv2⟩:=h7l h1.1;have e:g=g':=h1.2;subst e;exact⟨(aV ho rfl).1,by simpa using Nat.lt_succ_of_lt h2,hv1,hv2⟩
  · exact⟨by omega,by simpa using Nat.lt_succ_of_lt h2,fun e=>by have:=hvB g e;omega,fun e=>by have:=hgB g e;omega⟩) (fun h7=>by
  obtain⟨g',n,k,rfl,hP,-⟩:=h7l h7
  exact hP) hrow hg hat
 have HK:=af hK2
 have hsz:c.B<W.heap.size:=K.sz
 clear hb2 hr2 hB2 hr K hK2 LP hgB hBb T tZ
 go_enter Tryz.func89,Tryz.ntmps89
 go_wp2_with(at_builtin;refine wpList_append_own_at _ rfl _ _ 86 rfl (c.B+1) 89 i0 .nilFunc 1 8 Tryz.underlying86 hi hz0 hz1 hz2 rfl (by decide) (.slice av out.length cv) out.length cs (by simp[Act.eval]) HRW.out ⟨W.heap.size+1,0,none⟩ 1 1 [.func (.func 117) #[] #[.pointer (some ⟨W.heap.size,0,none⟩)]] (by simp[Act.eval]) rfl (oJ (W.alloc (.cells #[.iface TT sv] 91)) _ _ 89 _ (by simp) (fun i=>rfl)) (by simp[Value.oneCell']) (by simp only[maxLen];omega) (by omega) (by simp;omega) ?_;intro v' wA hown' hgrow _ hat;obtain⟨g',cap',rfl⟩:=ownsRow_succ hown';have jU:=HB.out.eP hgrow (fun e=>by have:=hvB c.B e;omega);have cA:=(jU.2 9 _ rfl).1;have fA:=(jU.2 9 _ rfl).2;have fE:=af (au hown' (au hgrow hat));have lA:=jU.1;clear hown' hgrow jU hat)
 all_goals(try simp only[Exit.inBlock,Exit.then]);have hM:=HK.out _ _ fE.out.1 fE.out.2.1 fE.out.2.2;refine bodyPost_end (results_none rfl _ _ _) rfl ⟨_,rfl,hM.1,hM.2⟩
theorem yQ (T:TY c W0)(K:MY c st W0 W v vg out bg P)(kf:FuncId)(ks:Array Value)(t:Int)(D2:Nat->Prop)(hp:rz c st W D2 (.func (.func kf) #[] ks) t)(hD2:∀g,D2 g->c.B+1<=g/\g<W.heap.size/\v.ownBlock≠some g/\vg.ownBlock≠some g)(ht:0<=t/\t<st.length)(hlen:out.length<=1000):Calls Tryz.prog 120 #[.pointer (some ⟨c.B,0,none⟩), .func (.func kf) #[] ks] W fun e w'=>∃v',e= .returned (.tuple #[])/\MY c st W0 w' v' vg (out++[(⟨5,0,0,0,0,[]⟩,t)]) bg w'.heap.size/\FY c.B v v' W w':=by
 obtain⟨i0,hi,hz0,hz1,hz2⟩:=info_parts rU
 have tZ:=aB W (.cells #[.func (.func kf) #[] ks] 84)
 have hBb:Below W.heap.size W (W.alloc (.cells #[.func (.func kf) #[] ks] 84)):=tZ
 have hsz0:=K.sz
 obtain⟨D,cs,us,hr⟩:=K.row
 have hvB:∀g,v.ownBlock=some g->c.B+1<=g/\g<W.heap.size:=fun g hg=>aV hr.1 hg
 have hgB:∀g,vg.ownBlock=some g->c.B+1<=g/\g<W.heap.size:=fun g hg=>aV K.EI hg
 have LP:AA c st (W.alloc (.cells #[.func (.func kf) #[] ks] 84)) (fun g=>(D2 g\/W.heap.size<=g)/\g<(W.alloc (.cells #[.func (.func kf) #[] ks] 84)).heap.size) (dfJ W.heap.size) undef (⟨5,0,0,0,0,[]⟩,t):= .inr (.inl ⟨_,_,rfl,rfl,ht,⟨.inr (Nat.le_refl _),by simp⟩,by rw[World.cell?_alloc_at _ _ _ _ rfl];rfl,hp.same (fun g hg=>hBb.block g (hD2 g hg).2.1) (fun g hg=>⟨.inl hg,ak (hD2 g hg).2.1 hBb.size⟩)⟩)
 have hB2:=hBb.trans ((aB _ (.cells #[.func (.func 144) #[] #[.pointer (some ⟨W.heap.size,0,none⟩)]] 89)).mono hBb.size)
 obtain⟨av,cv,rfl⟩:=bf hr.1
 have hr2:=aG hr.1 hB2
 have hb2:=K.box.kept hB2
 have d9:=(K.box.2 9 _ rfl).1
 have HRW:=af hr2
 have HB:=af hb2
 have hK2:=fun(W2:World) (v':Value) hrow hg hat=>MY.FC (W2:=W2) (v':=v') K T.lt hB2 D cs us hr (fun g=>(D2 g\/W.heap.size<=g)/\g<(W.alloc (.cells #[.func (.func kf) #[] ks] 84)).heap.size) _ undef (⟨5,0,0,0,0,[]⟩,t) (AA.same LP (fun g hg=>(aB _ (.cells #[.func (.func 144) #[] #[.pointer (some ⟨W.heap.size,0,none⟩)]] 89)).block g hg.2) (fun g hg=>hg)) (fun g hg=>by
  obtain⟨h1|h1,h2⟩:=hg
  · exact⟨(hD2 g h1).1,by simpa using Nat.lt_succ_of_lt h2,(hD2 g h1).2.2⟩
  · exact⟨by omega,by simpa using Nat.lt_succ_of_lt h2,fun e=>by have:=hvB g e;omega,fun e=>by have:=hgB g e;omega⟩) (fun h=>by simp at h) hrow hg hat
 have HK:=af hK2
 have hsz:c.B<W.heap.size:=K.sz
 clear hb2 hr2 hB2 hr K hK2 LP hgB hBb T tZ
 go_enter Tryz.func120,Tryz.ntmps120
 go_wp2_with(at_builtin;refine wpList_append_own_at _ rfl _ _ 86 rfl (c.B+1) 89 i0 .nilFunc 1 8 Tryz.underlying86 hi hz0 hz1 hz2 rfl (by decide) (.slice av out.length cv) out.length cs (by simp[Act.eval]) HRW.out ⟨W.heap.size+1,0,none⟩ 1 1 [.func (.func 144) #[] #[.pointer (some ⟨W.heap.size,0,none⟩)]] (by simp[Act.eval]) rfl (oJ (W.alloc (.cells #[.func (.func kf) #[] ks] 84)) _ _ 89 _ (by simp) (fun i=>rfl)) (by simp[Value.oneCell']) (by simp only[maxLen];omega) (by omega) (by simp;omega) ?_;intro v' wA hown' hgrow _ hat;obtain⟨g',cap',rfl⟩:=ownsRow_succ hown';have jU:=HB.out.eP hgrow (fun e=>by have:=hvB c.B e;omega);have cA:=(jU.2 9 _ rfl).1;have fA:=(jU.2 9 _ rfl).2;have fE:=af (au hown' (au hgrow hat));have lA:=jU.1;clear hown' hgrow jU hat)
 all_goals(try simp only[Exit.inBlock,Exit.then]);have hM:=HK.out _ _ fE.out.1 fE.out.2.1 fE.out.2.2;refine bodyPost_end (results_none rfl _ _ _) rfl ⟨_,rfl,hM.1,hM.2⟩
theorem DK (T:TY c W0)(K:MY c st W0 W v vg out bg P)(asked:Int)(kf:FuncId)(ks:Array Value)(t:Int)(D2:Nat->Prop)(hp:rz c st W D2 (.func (.func kf) #[] ks) t)(hD2:∀g,D2 g->c.B+1<=g/\g<W.heap.size/\v.ownBlock≠some g/\vg.ownBlock≠some g)(ht:0<=t/\t<st.length)(hlen:out.length<=1000):Calls Tryz.prog 143 #[.pointer (some ⟨c.B,0,none⟩), .int .i64 asked, .func (.func kf) #[] ks] W fun e w'=>∃v',e= .returned (.tuple #[])/\MY c st W0 w' v' vg (out++[(⟨6,0,asked,0,0,[]⟩,t)]) bg w'.heap.size/\FY c.B v v' W w':=by
 obtain⟨i0,hi,hz0,hz1,hz2⟩:=info_parts rU
 have tZ:=aB W (.cells #[.int .i64 asked] 2)
 have hA1:=aB (W.alloc (.cells #[.int .i64 asked] 2)) (.cells #[.func (.func kf) #[] ks] 84)
 have hBb:Below W.heap.size W ((W.alloc (.cells #[.int .i64 asked] 2)).alloc (.cells #[.func (.func kf) #[] ks] 84)):=(tZ.trans (hA1.mono tZ.size))
 have hsz0:=K.sz
 obtain⟨D,cs,us,hr⟩:=K.row
 have hvB:∀g,v.ownBlock=some g->c.B+1<=g/\g<W.heap.size:=fun g hg=>aV hr.1 hg
 have hgB:∀g,vg.ownBlock=some g->c.B+1<=g/\g<W.heap.size:=fun g hg=>aV K.EI hg
 have LP:AA c st ((W.alloc (.cells #[.int .i64 asked] 2)).alloc (.cells #[.func (.func kf) #[] ks] 84)) (fun g=>(D2 g\/W.heap.size<=g)/\g<((W.alloc (.cells #[.int .i64 asked] 2)).alloc (.cells #[.func (.func kf) #[] ks] 84)).heap.size) (dfI W.heap.size (W.heap.size+1)) undef (⟨6,0,asked,0,0,[]⟩,t):=by have b1:=Boxed.new W 2 (.int .i64 asked);have b2:=Boxed.new (W.alloc (.cells #[.int .i64 asked] 2)) 84 (.func (.func kf) #[] ks);have c1:=(b1.alloc (.cells #[.func (.func kf) #[] ks] 84)).cell;have c2:=b2.cell;simp only[World.size_alloc]at c2;exact .inr (.inr ⟨_,_,_,_,rfl,rfl,ht,⟨.inr (Nat.le_refl _),by simp<;>omega⟩,⟨.inr (Nat.le_succ _),by simp<;>omega⟩,c1,c2,hp.same (fun g hg=>hBb.block g (hD2 g hg).2.1) (fun g hg=>⟨.inl hg,ak (hD2 g hg).2.1 hBb.size⟩)⟩)
 have hB2:=hBb.trans ((aB _ (.cells #[.func (.func 162) #[] #[.pointer (some ⟨W.heap.size,0,none⟩), .pointer (some ⟨W.heap.size+1,0,none⟩)]] 89)).mono hBb.size)
 obtain⟨av,cv,rfl⟩:=bf hr.1
 have hr2:=aG hr.1 hB2
 have hb2:=K.box.kept hB2
 have d9:=(K.box.2 9 _ rfl).1
 have HRW:=af hr2
 have HB:=af hb2
 have hK2:=fun(W2:World) (v':Value) hrow hg hat=>MY.FC (W2:=W2) (v':=v') K T.lt hB2 D cs us hr (fun g=>(D2 g\/W.heap.size<=g)/\g<((W.alloc (.cells #[.int .i64 asked] 2)).alloc (.cells #[.func (.func kf) #[] ks] 84)).heap.size) _ undef (⟨6,0,asked,0,0,[]⟩,t) (AA.same LP (fun g hg=>(aB _ (.cells #[.func (.func 162) #[] #[.pointer (some ⟨W.heap.size,0,none⟩), .pointer (some ⟨W.heap.size+1,0,none⟩)]] 89)).block g hg.2) (fun g hg=>hg)) (fun g hg=>by
  obtain⟨h1|h1,h2⟩:=hg
  · exact⟨(hD2 g h1).1,by simpa using Nat.lt_succ_of_lt h2,(hD2 g h1).2.2⟩
  · exact⟨by omega,by simpa using Nat.lt_succ_of_lt h2,fun e=>by have:=hvB g e;omega,fun e=>by have:=hgB g e;omega⟩) (fun h=>by simp at h) hrow hg hat
 have HK:=af hK2
 have hsz:c.B<W.heap.size:=K.sz
 clear hb2 hr2 hB2 hr K hK2 LP hgB hBb T tZ hA1
 go_enter Tryz.func143,Tryz.ntmps143
 go_wp2_with(at_builtin;refine wpList_append_own_at _ rfl _ _ 86 rfl (c.B+1) 89 i0 .nilFunc 1 8 Tryz.underlying86 hi hz0 hz1 hz2 rfl (by decide) (.slice av out.length cv) out.length cs (by simp[Act.eval]) HRW.out ⟨W.heap.size+2,0,none⟩ 1 1 [.func (.func 162) #[] #[.pointer (some ⟨W.heap.size,0,none⟩), .pointer (some ⟨W.heap.size+1,0,none⟩)]] (by simp[Act.eval]) rfl (oJ ((W.alloc (.cells #[.int .i64 asked] 2)).alloc (.cells #[.func (.func kf) #[] ks] 84)) _ _ 89 _ (by simp) (fun i=>rfl)) (by simp[Value.oneCell']) (by simp only[maxLen];omega) (by omega) (by simp;omega) ?_;intro v' wA hown' hgrow _ hat;obtain⟨g',cap',rfl⟩:=ownsRow_succ hown';have jU:=HB.out.eP hgrow (fun e=>by have:=hvB c.B e;omega);have cA:=(jU.2 9 _ rfl).1;have fA:=(jU.2 9 _ rfl).2;have fE:=af (au hown' (au hgrow hat));have lA:=jU.1;clear hown' hgrow jU hat)
 all_goals(try simp only[Exit.inBlock,Exit.then]);have hM:=HK.out _ _ fE.out.1 fE.out.2.1 fE.out.2.2;refine bodyPost_end (results_none rfl _ _ _) rfl ⟨_,rfl,hM.1,hM.2⟩
end
section
open Go.ChangeShapes Go.WideShapes Go.ChangeAt Go.RowKit Go.Deep
theorem Jz {H:Type}{enc:TypeId×Value->H}{W:World}{v:Value}{n:Nat}{x:DataW H×List MemPlace}(hf:DataW.trod enc Tryz.prog W 0 (fun _=>true) true n 109 [v]=some x):∃a len cap xs,v= .slice a len cap/\SL W a len xs:=by rcases open_slice_pairs Tryz.underlying109 Tryz.underlying201 (by kernel_rfl) rfl rfl (by kernel_rfl) (by kernel_rfl) hf with⟨hcs,_⟩|⟨x,l,c,m,n,V0,V1,D0,D1,P0,P1,hcs,_,hl,hm,hmm,_,hcell⟩;{simp at hcs;subst hcs;exact⟨none,0,0,[],rfl,rfl,Nat.zero_le _, .inl rfl⟩};simp at hcs;subst hcs;simp only[if_true]at hmm;subst hmm;by_cases h0:l=0;{subst h0;exact⟨_,_,_,[],rfl,rfl,Nat.zero_le _, .inl rfl⟩};have hspot:x.spot=none:=by{have hc:=(hcell 0 (by omega)).1;have:=World.cell?_spot hc;obtain⟨b,off,spot⟩:=x;simpa[Addr.add]using this};obtain⟨b,off,spot⟩:=x;simp only at hspot;subst hspot;(have hadd:∀i,(⟨b,off,none⟩:Addr).add i=⟨b,off+i,none⟩:=fun i=>by unfold Addr.add;split<;>simp_all);have hV:∀j,j<m->∃p q:Int,V0 j= .int .i64 p/\V1 j= .int .i64 q:=by{intro j hj;obtain⟨_,_,ht0,ht1⟩:=hcell j hj;obtain⟨p,e0,_⟩:=DataW.trod_int Tryz.underlying2 ht0;obtain⟨q,e1,_⟩:=DataW.trod_int Tryz.underlying2 ht1;exact⟨p,q,by simpa using e0,by simpa using e1⟩};have hb:b<W.heap.size:=by{have:=World.block_lt_of_cell? _ _ (hcell 0 (by omega)).1;simpa[hadd]using this};refine⟨_,_,_,(List.range l).map fun j=>(intOf (V0 j),intOf (V1 j)),rfl,by simp,Nat.le_trans hl hm, .inr ⟨b,off,rfl,hb,fun j hj=>?_⟩⟩;obtain⟨p,q,e0,e1⟩:=hV j (by omega);obtain⟨hc0,hc1,_,_⟩:=hcell j (by omega);rw[hadd]at hc0 hc1;have e:((List.range l).map fun j=>(intOf (V0 j),intOf (V1 j))).getD j (0,0)=(p,q):=by{simp[ai,hj,e0,e1,intOf]};rw[e];exact⟨by rw[hc0,e0],by rw[Nat.add_assoc,hc1,e1]⟩
theorem J4 {H:Type}{enc:TypeId×Value->H}{W:World}{v:Value}{n:Nat}{x:DataW H×List MemPlace}(hf:DataW.trod enc Tryz.prog W 0 (fun _=>true) true n 47 [v]=some x):∃a len cap fs,v= .slice a len cap/\FL W a len fs:=by
 rcases open_slice Tryz.underlying47 hf with⟨hcs,_⟩|⟨x,l,c,m,n,D,Pl,hcs,_,hl,hm,hmm,_,hx⟩
 · simp at hcs;subst hcs;exact⟨none,0,0,[],rfl,rfl,Nat.zero_le _, .inl rfl⟩
 · simp at hcs
   subst hcs
   simp only[if_true]at hmm
   subst hmm
   have ce:Tryz.prog.cellsOf 111=4:=by kernel_rfl
   have each:∀i,i<m->∃q:Fn×Option Addr×Nat×Nat,W.cell? (x.add (i*4))=some (.int .i64 q.1.a)/\W.cell? (x.add (i*4+1))=some (.int .i64 q.1.l)/\W.cell? (x.add (i*4+2))=some (.int .i64 q.1.g)/\W.cell? (x.add (i*4+3))=some (.slice q.2.1 q.2.2.1 q.2.2.2)/\SL W q.2.1 q.2.2.1 q.1.b:=by
    intro i hi
    obtain⟨cs',h1,h2⟩:=hx i hi
    rw[ce]at h1
    obtain⟨_,hlen,hcell⟩:=World.cells?_some h1
    obtain⟨y0,y1,y2,y3,k,_,_,t0,t1,t2,t3⟩:=Go.Joins.trod_struct4 Tryz.underlying111 h2
    match cs',hlen with
    |[v0,v1,v2,v3],_=>
     have c1:Tryz.prog.cellsOf 2=1:=by kernel_rfl
     have c2:Tryz.prog.cellsOf 109=1:=by kernel_rfl
     simp[c1,c2]at t0 t1 t2 t3
     obtain⟨p,e0,_⟩:=DataW.trod_int Tryz.underlying2 t0
     obtain⟨q,e1,_⟩:=DataW.trod_int Tryz.underlying2 t1
     obtain⟨r,e2,_⟩:=DataW.trod_int Tryz.underlying2 t2
     obtain⟨a,bl,bc,xs,e3,hs⟩:=Jz t3
     have e0:v0= .int .i64 p:=by simpa using e0
     have e1:v1= .int .i64 q:=by simpa using e1
     have e2:v2= .int .i64 r:=by simpa using e2
     subst e0 e1 e2 e3
     have g0:=hcell 0 (by omega)
     have g1:=hcell 1 (by omega)
     have g2:=hcell 2 (by omega)
     have g3:=hcell 3 (by omega)
     rw[add_add]at g0 g1 g2 g3
     exact⟨(⟨p,q,r,xs⟩,a,bl,bc),by simpa using g0,by simpa using g1,by simpa using g2,by simpa using g3,hs⟩
   haveI:Inhabited (Fn×Option Addr×Nat×Nat):=⟨(.z,none,0,0)⟩
   obtain⟨q,hq⟩:=choose_lt each
   by_cases h0:l=0
   · subst h0;exact⟨_,_,_,[],rfl,rfl,Nat.zero_le _, .inl rfl⟩
   · have hspot:x.spot=none:=by{have hc:=(hq 0 (by omega)).1;have:=World.cell?_spot hc;obtain⟨b,off,spot⟩:=x;simpa[Addr.add]using this};obtain⟨b,off,spot⟩:=x;simp only at hspot;subst hspot;(have hadd:∀i,(⟨b,off,none⟩:Addr).add i=⟨b,off+i,none⟩:=fun i=>by unfold Addr.add;split<;>simp_all);have hb:b<W.heap.size:=by{have:=World.block_lt_of_cell? _ _ (hq 0 (by omega)).1;simpa[hadd]using this};refine⟨_,_,_,(List.range l).map fun j=>(q j).1,rfl,by simp,Nat.le_trans hl hm, .inr ⟨b,off,rfl,hb,fun j hj=>?_⟩⟩;obtain⟨k0,k1,k2,k3,k4⟩:=hq j (by omega);rw[hadd]at k0 k1 k2 k3;have e:((List.range l).map fun j=>(q j).1).getD j .z=(q j).1:=by{simp[ai,hj]};rw[e];exact⟨k0,by rw[Nat.add_assoc];exact k1,by rw[Nat.add_assoc];exact k2,_,_,_,by rw[Nat.add_assoc];exact k3,k4⟩
end
end Go.Proofs.YtellfmhljjdjbaaGreatDoor
