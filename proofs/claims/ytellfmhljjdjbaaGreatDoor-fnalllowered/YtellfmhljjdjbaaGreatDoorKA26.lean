/-
  Own texts for a law: Insp3 Insp4 LowQ Mem4 LinE1 LinE2
-/
import Derived.Test.YtellfmhljjdjbaaGreatDoorKA21
import Derived.Deep.Slices
import Derived.ChangeSlices
namespace Go.Proofs.YtellfmhljjdjbaaGreatDoor
open Go.RowKit Go.Shelf
set_option linter.all false
set_option maxRecDepth 100000
set_option maxHeartbeats 16000000
section
variable {c : IC} {h : Int} {H : List Int} {S : List bT} {W : World}
theorem qm (hS:S.length<=81)(hs:IS c h H S W):Calls Tryz.prog 153 #[.pointer (some ⟨c.N,7,none⟩)] W fun e w'=>∃v,e= .returned v/\w'.ownsRow W.heap.size 170 2 v S.length (iV S)/\Below W.heap.size W w':=by obtain⟨i0,hi,hz0,hz1,hz2⟩:=info_parts sK;obtain⟨av,cv,hr,hb⟩:=hs.cells;have c7:=(hb.2 7 _ rfl).1;have h0:=hs.yG;obtain⟨n,hn⟩:∃n,S.length=n:=⟨_,rfl⟩;rw[hn]at hr c7 hS;have hmk:=run_make (P:=Tryz.prog) W 128 170 i0 _ Tryz.underlying128 hi hz0 .i64 .i64 0 (n:Int) (by omega) (by omega) (by rw[hz2];omega) (by omega);rw[hz1]at hmk;simp only[aA,Int.toNat_zero]at hmk;have eD:=sN (World.ownsRow_lit (base:=W.heap.size) (size:=2) (e:=170) W (madeCells (Value.agg #[.int .i64 0, .int .i64 0]).cells (n*2)) n (Nat.le_refl _) (by simp only[maxLen];omega) (size_madeCells _ _)) 0 (Nat.zero_le _);rw[Nat.zero_mul,List.take_zero]at eD;have hB0:=aB W (.cells (madeCells (Value.agg #[.int .i64 0, .int .i64 0]).cells (n*2)) 170);obtain⟨wm,Di⟩:∃wm,W.alloc (.cells (madeCells (Value.agg #[.int .i64 0, .int .i64 0]).cells (n*2)) 170)=wm:=⟨_,rfl⟩;rw[Di]at hmk eD hB0;have d1:=(hB0.cell (p:=⟨c.N,7,none⟩) h0).trans c7;clear Di hs hb;go_enter Tryz.func153,Tryz.ntmps153;go_wp2;go_loopw [3,4] (fun v i wr=>∃(k g cc:Nat),i= .int .i64 ((k:Int)-1)/\k<=n/\v= .slice (some ⟨g,0,none⟩) (n-k) cc/\wr.ownsRow W.heap.size 170 2 (.slice (some ⟨g,0,none⟩) (n-k) cc) (n-k) (iV (S.take (n-k)))/\Below W.heap.size W wr) (fun _ i _=>(intOf i+1).toNat);(case atStart=>refine⟨n,_,n,rfl,Nat.le_refl _,by rw[Nat.sub_self],?_,hB0⟩;rw[Nat.sub_self,List.take_zero];exact eD);case round=>obtain⟨k,g,cc,rfl,hk,rfl,hown,hB⟩:=hrel;clear eD hB0 hmk d1;have HN:=af hn;clear hn;rcases Nat.eq_zero_or_pos k with rfl|hkp;{have HOW:=af hown;clear hown hr;go_wp2;go_ret;refine⟨_,rfl,?_,hB⟩;have h:=HOW.out;rw[Nat.sub_zero,List.take_of_length_le (by rw[HN.out];exact Nat.le_refl _)]at h;rw[HN.out];exact h};obtain⟨j,rfl⟩:∃j,k=j+1:=⟨k-1,by omega⟩;have hij:((j+1:Nat):Int)-1=(j:Int):=by{omega};rw[hij];rcases hr.2 with⟨-,h0'⟩|⟨gv,cap',cur,e',-⟩;{omega};cases e';obtain⟨hx1,hx2⟩:=nR hr (k:=j) (by omega);have hgv:=(hr.lt gv rfl).2;rw[zA S j (by rw[HN.out];omega),HN.out]at hx1 hx2;obtain⟨x,gz⟩:∃x,S.getD (n-1-j) ⟨0,0,false⟩=x:=⟨_,rfl⟩;rw[gz]at hx1 hx2;have e1:=(hB.cell (p:=⟨c.N,7,none⟩) h0).trans c7;have e2:=(hB.cell (p:=⟨gv,j*2,none⟩) hgv).trans hx1;have e3:=(hB.cell (p:=⟨gv,j*2+1,none⟩) hgv).trans hx2;have hBx:=hB.alloc hB.size (.cells #[.int .i64 x.st, .int .i64 x.wd] 170);have HRW:=af (hown.alloc (.cells #[.int .i64 x.st, .int .i64 x.wd] 170));have hsz:=hB.size;have HX:=af gz;obtain⟨m,hm⟩:∃m,n-(j+1)=m:=⟨_,rfl⟩;rw[hm]at HRW ⊢;have hmn:m<=81:=by{omega};have HM:=af hm;clear hr hown hB gz hx1 hx2 hm;go_wp2_with(at_builtin;refine wpList_append_own _ rfl _ _ 128 rfl W.heap.size 170 i0 (.agg #[.int .i64 0, .int .i64 0]) 2 16 Tryz.underlying128 hi hz0 hz1 hz2 rfl (by decide) _ _ _ rfl HRW.out ⟨wr.heap.size,0,none⟩ 1 1 [.int .i64 x.st, .int .i64 x.wd] rfl rfl (vW wr _ _ _ 170 _ rfl (fun _=>rfl)) (by simp[Value.oneCell']) (by simp only[maxLen];omega) (by omega) (by simp;omega) ?_;intro v' wA hown' hgrow _;have hB4:=dW HRW.out hBx (by simp;omega) hgrow;obtain⟨g',cap',rfl⟩:=ownsRow_succ hown');go_roundw;(case rel=>have hm:=HM.out;have e:n-j=m+1:=by{omega};have e':S.take (m+1)=S.take m++[x]:=by{have hn:=HN.out;have gz:=HX.out;rw[List.take_add_one,aj (by omega)];rw[ai,aj (by omega)]at gz;have:n-1-j=m:=by{omega};simp only[this,Option.getD_some]at gz;rw[gz];rfl};refine⟨j,g',cap',rfl,by omega,by rw[e],?_,hB4⟩;rw[e,e',mi];exact hown');case measure=>first|(simp[intOf];done)|(simp[intOf];omega)
def mG (S:List bT)(q:Int):Int:=if q<S.length then Hg.bZ S q else 0
theorem lC (q:Int)(hq:0<=q)(hS:S.length<=81)(hs:IS c h H S W):Calls Tryz.prog 135 #[.pointer (some ⟨c.N,0,none⟩), .int .i64 q] W fun e w'=>e= .returned (.tuple #[.int .i64 (mG S q), .bool (decide (q<S.length))])/\Below W.heap.size W w':=by have hN:=hs.yG;have hcon:=qm hS hs;clear hs;go_enter Tryz.func135,Tryz.ntmps135;go_wp2_with fail;refine hcon.mono ?_;rintro e w1 ⟨v,rfl,hr,hB⟩;clear hcon;by_cases hlt:q<S.length;{obtain⟨k,rfl⟩:∃k:Nat,q=k:=⟨q.toNat,by omega⟩;have hk:k<S.length:=by{omega};rcases hr.2 with⟨-,h0'⟩|⟨g,cap',cur,rfl,-⟩;{omega};obtain⟨-,hx⟩:=nR hr hk;have e1:mG S (k:Int)=(S.getD k ⟨0,0,false⟩).wd:=by{rw[mG,az hlt,Hg.bZ,aA]};have HE:=af e1;obtain⟨x,gz⟩:∃x,(S.getD k ⟨0,0,false⟩).wd=x:=⟨_,rfl⟩;rw[gz]at hx HE;clear hr gz e1;go_wp2;go_ret2;rw[HE.out,decide_eq_true hlt];exact⟨rfl,hB⟩};obtain⟨av,cv,rfl⟩:=bf hr;have HE:=af (show mG S q=0 by rw[mG,ay hlt]);clear hr;go_wp2;go_ret2;rw[HE.out,decide_eq_false (by omega)];exact⟨rfl,hB⟩
theorem qV (s t:Int)(hs:-1<=s/\s<=100)(ht:0<=t/\t<=1)(W:World):Calls Tryz.prog 140 #[.agg #[.int .i64 s, .int .i64 t]] W fun e w'=>e= .returned (.int .i64 (if 0<=s then s+t else -1))/\Below W.heap.size W w':=by have hB1:=aB W (.cells #[.int .i64 s, .int .i64 t] 170);by_cases h:0<=s;{rw[az h];have h1:(s==-1)=false:=by{simp;omega};go_enter Tryz.func140,Tryz.ntmps140;go_wp2;go_ret;exact⟨rfl,hB1⟩};have e:s=-1:=by{omega};subst e;rw[ay h];clear h hs;go_enter Tryz.func140,Tryz.ntmps140;go_wp2;go_ret;exact⟨rfl,hB1⟩
theorem qY (fs:List Fn)(hfs:FL c.w c.a c.len fs)(p q:Int)(hp:1<=p/\p<=20)(hq:p=16->0<=q/\q<c.len)(hs:IS c h H S W):Calls Tryz.prog 137 #[.pointer (some ⟨c.N,0,none⟩), .agg #[.int .i64 p, .int .i64 q]] W fun e w'=>e= .returned (.tuple #[.int .i64 (Hg.tk fs p q), .int .i64 (Hg.pt fs p q)])/\Below W.heap.size W w':=by have hB1:=aB W (.cells #[.int .i64 p, .int .i64 q] 121);obtain⟨av,cv,hr,hb⟩:=hs.cells;have c0:=(hb.2 0 _ rfl).1;have hN:=hs.yG;by_cases h16:p=16;{subst h16;obtain⟨hq0,hq1⟩:=hq rfl;obtain⟨j,rfl⟩:∃j:Nat,q=j:=⟨q.toNat,by omega⟩;have Jd:=hfs.kept hs.bQ;obtain⟨-,hm,hrow⟩:=Jd;unfold maxLen at hm;have hj:j<c.len:=by{omega};rcases hrow with h0|⟨b,off,ha,hbl,hx⟩;{omega};rw[ha]at c0;obtain⟨y0,-,y2,-⟩:=hx j hj;have e1:Hg.tk fs 16 j=(fs.getD j .z).a:=by{unfold Hg.tk;simp};have e2:Hg.pt fs 16 j=(fs.getD j .z).g:=by{unfold Hg.pt;simp};rw[e1,e2];obtain⟨⟨fa,fl,fg,fb⟩,hf⟩:∃x,fs.getD j .z=x:=⟨_,rfl⟩;rw[hf]at y0 y2 ⊢;simp only at y0 y2 ⊢;clear hx hf e1 e2 ha hr hb hs hfs hq;go_enter Tryz.func137,Tryz.ntmps137;go_wp2;go_quiet (fail);go_wp2;go_ret2;exact⟨rfl,hB1.trans ((eU _ _).mono hB1.size)⟩};have hp':p=1\/p=2\/p=3\/p=4\/p=5\/p=6\/p=7\/p=8\/p=9\/p=10\/p=11\/p=12\/p=13\/p=14\/p=15\/p=17\/p=18\/p=19\/p=20:=by{omega};clear hq hp h16 hr hb hs hfs c0 hN;rcases hp' with rfl|rfl|rfl|rfl|rfl|rfl|rfl|rfl|rfl|rfl|rfl|rfl|rfl|rfl|rfl|rfl|rfl|rfl|rfl;all_goals go_enter Tryz.func137,Tryz.ntmps137;go_wp2;go_ret2;exact⟨rfl,hB1⟩
def p9 (f:Fn)(S:List bT)(p q:Int):Int:=if p=13\/p=14 then mG S q else if p=15 then f.g else 0
theorem Bf (p q:Int)(hp:1<=p/\p<=20)(hq:p=13\/p=14->0<=q)(hS:S.length<=81)(hs:IS c h H S W):Calls Tryz.prog 138 #[.pointer (some ⟨c.N,0,none⟩), .agg #[.int .i64 p, .int .i64 q]] W fun e w'=>e= .returned (.int .i64 (p9 c.f S p q))/\Below W.heap.size W w':=by have hB1:=aB W (.cells #[.int .i64 p, .int .i64 q] 121);obtain⟨av,cv,hr,hb⟩:=hs.cells;have c3:=(hb.2 3 _ rfl).1;have hN:=hs.yG;by_cases h1:p=13\/p=14;{have hcon:=lC q (hq h1) hS (hs.kept hB1);have e:p9 c.f S p q=mG S q:=az h1;rw[e];clear e hq hp hr hb hs;rcases h1 with rfl|rfl;all_goals go_enter Tryz.func138,Tryz.ntmps138;go_wp2_with fail;refine hcon.mono ?_;rintro e w1 ⟨rfl,hB2⟩;clear hcon;have hB3:=hB1.trans (hB2.mono hB1.size);clear hB2;go_wp2;go_ret;exact⟨rfl,hB3⟩};by_cases h2:p=15;{subst h2;have e:p9 c.f S 15 q=c.f.g:=by{rw[p9,ay h1,az rfl]};rw[e];clear e hq hp hr hb hs h1;go_enter Tryz.func138,Tryz.ntmps138;go_wp2;go_ret;exact⟨rfl,hB1⟩};have e:p9 c.f S p q=0:=by{rw[p9,ay h1,ay h2]};rw[e];have l13:(p==13)=false:=by{simp;omega};have l14:(p==14)=false:=by{simp;omega};have l15:(p==15)=false:=by{simp;omega};clear e hq hp hr hb hs h1 h2 c3 hN;go_enter Tryz.func138,Tryz.ntmps138;go_wp2;go_ret;exact⟨rfl,hB1⟩
end
def nW (p q h:Int)(x:bT)(S:List bT):Int×List bT:=
 if p=8\/p=9\/p=10 then(h,⟨h,q,decide (0<=h)⟩::x::S)
 else if p=11 then(x.st,x::S)
 else if p=12 then(if 0<=x.st then x.st+x.wd else -1,S)
 else if p=13\/p=15\/p=19 then(-1,x::S)
 else(h,x::S)
namespace Hg
theorem Eh {fs:List Fn}{f:Fn}{o p q h:Int}{x:bT}{S:List bT}(hb:bad fs f o (S.length+1) p q=false)(h0:h<0)(hh:-1<=h)(hx:-1<=x.st)(hcm:x.cm=decide (0<=x.st)):(one fs f o p q h 0 (x::S)).map (fun r=>(r.1,r.2.2))=some (nW p q h x S):=by rw[oM hb h0];have e:h=-1:=by{omega};subst e;have hc:(if x.cm=true then x.st else -1)=x.st:=by{rw[hcm];by_cases h:0<=x.st;{simp[h]};simp[h];omega};have hc2:(if x.cm=true then x.st+x.wd else -1)=if 0<=x.st then x.st+x.wd else -1:=by{rw[hcm];by_cases h:0<=x.st<;>simp[h]};unfold dX nW;rw[hc,hc2];by_cases qy:p=13;{subst qy;rfl};by_cases Cb:p=14;{subst Cb;rfl};by_cases rQ:p=15;{subst rQ;rfl};by_cases h19:p=19;{subst h19;rfl};by_cases h11:p=11;{subst h11;rfl};by_cases h12:p=12;{subst h12;rfl};by_cases h8:p=8\/p=9\/p=10;{simp only[az h8];rfl};have hj:¬(p=13\/p=14):=by{omega};have hk:¬(p=13\/p=15\/p=19):=by{omega};simp only[ay h8,ay hj,ay rQ,ay h19,ay h11,ay h12,ay hk];rfl
theorem pU {fs:List Fn}{f:Fn}{o p q h:Int}{x:bT}{S:List bT}(hb:bad fs f o (S.length+1) p q=false)(h0:0<=h)(hx:0<=x.st)(hcm:x.cm=decide (0<=x.st))(hlb:0<=mG (x::S) q)(hq:p=13\/p=14->q<=S.length)(hg:0<=f.g)(htk:0<=tk fs p q):(one fs f o p q h 0 (x::S)).map (fun r=>(r.1,r.2.2))=if h-x.st<tk fs p q+p9 f (x::S) p q then none else if(p=11\/p=12)/\h-x.st≠x.wd then none else some (nW p q (h-tk fs p q+pt fs p q) x S):=by have hcr:0<=p9 f (x::S) p q:=by{unfold p9;split;{exact hlb};split<;>omega};have hcT:x.cm=true:=by{rw[hcm];exact decide_eq_true hx};by_cases Ih:h-x.st<tk fs p q;{rw[dS hb h0 Ih,az (by omega)];rfl};rw[gW hb h0 Ih];have c13:∀(hh mm:Int),dX f 13 q hh mm x S=if 0<=hh/\hh-x.st<bZ (x::S) q then none else some (-1,mm,x::S):=fun _ _=>rfl;have c14:∀(hh mm:Int),dX f 14 q hh mm x S=if 0<=hh/\hh-x.st<bZ (x::S) q then none else some (hh,mm,x::S):=fun _ _=>rfl;have c15:∀(hh mm:Int),dX f 15 q hh mm x S=if 0<=hh/\hh-x.st<f.g then none else some (-1,mm,x::S):=fun _ _=>rfl;have c11:∀(hh mm:Int),dX f 11 q hh mm x S=if 0<=hh/\hh-x.st≠x.wd then none else some (if x.cm=true then x.st else -1,mx mm (if x.cm=true then x.st else -1),x::S):=fun _ _=>rfl;have c12:∀(hh mm:Int),dX f 12 q hh mm x S=if 0<=hh/\hh-x.st≠x.wd then none else some (if x.cm=true then x.st+x.wd else -1,mx mm (if x.cm=true then x.st+x.wd else -1),S):=fun _ _=>rfl;have t13:∀hh:Int,nW 13 q hh x S=(-1,x::S):=fun _=>rfl;have t14:∀hh:Int,nW 14 q hh x S=(hh,x::S):=fun _=>rfl;have t15:∀hh:Int,nW 15 q hh x S=(-1,x::S):=fun _=>rfl;have t11:∀hh:Int,nW 11 q hh x S=(x.st,x::S):=fun _=>rfl;have t12:∀hh:Int,nW 12 q hh x S=(if 0<=x.st then x.st+x.wd else -1,S):=fun _=>rfl;by_cases qy:p=13\/p=14;{have hql:=hq qy;have e:p9 f (x::S) p q=bZ (x::S) q:=by{rw[p9,az qy,mG,az (by simp;omega)]};have el:mG (x::S) q=bZ (x::S) q:=by{rw[mG,az (by simp;omega)]};rw[e];rw[el]at hlb;rw[e]at hcr;rcases qy with rfl|rfl;{obtain⟨t1,t2⟩:=kY (fs:=fs) (p:=13) (a:=q) (.inl rfl);rw[t1,t2,c13,t13,ay (show¬(((13:Int)=11\/(13:Int)=12)/\h-x.st≠x.wd)by omega)];by_cases hl:h-x.st<0+bZ (x::S) q;{rw[az hl,az (by omega)];rfl};rw[ay hl,ay (by omega)];rfl};have t1:tk fs 14 q=1:=by{simp[tk]};have t2:pt fs 14 q=0:=by{simp[pt]};rw[t1]at Ih;rw[t1,t2,c14,t14,ay (show¬(((14:Int)=11\/(14:Int)=12)/\h-x.st≠x.wd)by omega)];by_cases hl:h-x.st<1+bZ (x::S) q;{rw[az hl,az (by omega)];rfl};rw[ay hl,ay (by omega)];rfl};by_cases rQ:p=15;{subst rQ;have e:p9 f (x::S) 15 q=f.g:=rfl;obtain⟨t1,t2⟩:=kY (fs:=fs) (p:=15) (a:=q) (by omega);rw[e,t1,t2,c15,t15,ay (show¬(((15:Int)=11\/(15:Int)=12)/\h-x.st≠x.wd)by omega)];by_cases hl:h-x.st<0+f.g;{rw[az hl,az (by omega)];rfl};rw[ay hl,ay (by omega)];rfl};have e:p9 f (x::S) p q=0:=by{rw[p9,ay qy,ay rQ]};rw[e,ay (show¬h-x.st<tk fs p q+0 by omega)];by_cases h11:p=11;{subst h11;obtain⟨t1,t2⟩:=kY (fs:=fs) (p:=11) (a:=q) (by omega);rw[t1,t2,c11,t11,hcT];by_cases hu:h-x.st=x.wd;{rw[ay (show¬(((11:Int)=11\/(11:Int)=12)/\h-x.st≠x.wd)by omega),ay (by omega)];rfl};rw[az (show(((11:Int)=11\/(11:Int)=12)/\h-x.st≠x.wd)by omega),az (by omega)];rfl};by_cases h12:p=12;{subst h12;obtain⟨t1,t2⟩:=kY (fs:=fs) (p:=12) (a:=q) (by omega);rw[t1,t2,c12,t12,hcT,az hx];by_cases hu:h-x.st=x.wd;{rw[ay (show¬(((12:Int)=11\/(12:Int)=12)/\h-x.st≠x.wd)by omega),ay (by omega)];rfl};rw[az (show(((12:Int)=11\/(12:Int)=12)/\h-x.st≠x.wd)by omega),az (by omega)];rfl};rw[ay (show¬((p=11\/p=12)/\h-x.st≠x.wd)by omega)];by_cases h19:p=19;{subst h19;rfl};by_cases h8:p=8\/p=9\/p=10;{unfold dX nW;simp only[az h8];rfl};have hk:¬(p=13\/p=15\/p=19):=by{omega};unfold dX nW;simp only[ay h8,ay qy,ay rQ,ay h19,ay h11,ay h12,ay hk];rfl
def su:Option (Int×List bT)->Option (Int×List bT)
 |some (h',S')=>if h'<=20 then some (h',S')else none
 |none=>none
theorem rD (fs:List Fn)(f:Fn)(o p q h:Int)(S:List bT):oU fs f o p q h S=su ((one fs f o p q h 0 S).map (fun r=>(r.1,r.2.2))):=by unfold oU;rcases one fs f o p q h 0 S with _|⟨a,b,d⟩;{rfl};rfl
end Hg
structure jH where
 fn:Addr
 md:Addr
 bd:Addr
 hi:Addr
 lo:Addr
 ca:Addr
 la:Addr
 el:Addr
 fe:Addr
 un:Addr
def jH.rest (s:jH):List Addr:=[s.md,s.bd,s.hi,s.lo,s.ca,s.la,s.el,s.fe,s.un]
def cK (a:Addr):Value:= .iface 256 (.pointer (some a))
structure jv (s:jH)(W:World):Prop where
 sz:11<=W.heap.size
 fn:W.cell? ⟨0,0,none⟩=some (cK s.fn)
 md:W.cell? ⟨1,0,none⟩=some (cK s.md)
 bd:W.cell? ⟨2,0,none⟩=some (cK s.bd)
 hi:W.cell? ⟨3,0,none⟩=some (cK s.hi)
 lo:W.cell? ⟨4,0,none⟩=some (cK s.lo)
 ca:W.cell? ⟨5,0,none⟩=some (cK s.ca)
 la:W.cell? ⟨6,0,none⟩=some (cK s.la)
 el:W.cell? ⟨7,0,none⟩=some (cK s.el)
 fe:W.cell? ⟨8,0,none⟩=some (cK s.fe)
 un:W.cell? ⟨9,0,none⟩=some (cK s.un)
theorem jv.kept {s:jH}{W W':World}{n:Nat}(h:jv s W)(hB:Below n W W')(hn:11<=n):jv s W':=by have k:∀{b:Nat}{v:Value},b<11->W.cell? ⟨b,0,none⟩=some v->W'.cell? ⟨b,0,none⟩=some v:=fun{b v} hb hv=>(hB.cell (p:=⟨b,0,none⟩) (by simp only;omega)).trans hv;exact⟨Nat.le_trans h.sz hB.size,k (by omega) h.fn,k (by omega) h.md,k (by omega) h.bd,k (by omega) h.hi,k (by omega) h.lo,k (by omega) h.ca,k (by omega) h.la,k (by omega) h.el,k (by omega) h.fe,k (by omega) h.un⟩
namespace Lw
open Hg (arg)
structure lY (fs:List Fn)(f:Fn)(x:Ln×Int):Prop where
 ok:∀N:Int,0<=N->N<=299->Ln.ok (if 0<=x.2 then{x.1 with n:=N}else x.1)=true
 goes:x.1.k=5\/x.1.k=6->0<=x.2
 st:Ln.st x.1<=wd f+20
 us:∀y∈Ln.us x.1,y<=wd f+20
 call:x.1.k=7->x.2<0/\0<=x.1.n/\x.1.n<fs.length/\(x.1.l.length:Int)=(fs.getD x.1.n.toNat .z).a
theorem jQ {b m:Int}(h0:0<=b)(h1:b<=m)(hm:m<=39):Ln.bx b=true:=Ln.A7.2 ⟨h0,by omega⟩
variable {fs : List Fn} {f : Fn}
theorem E9 (hw:0<=wd f/\wd f<=6){d n:Int}(hd:0<=d/\d<=wd f+20)(hn:Wd.ok n=true):lY fs f (⟨1,d,0,0,n,[]⟩,-1):=by refine⟨fun N h0 h1=>?_,fun h=>by simp at h,by simp[Ln.st];omega,fun y hy=>by simp[Ln.us,Ln.iY]at hy,fun h=>by simp at h⟩;rw[ay (by show¬(0:Int)<=-1;omega)];simp[Ln.ok,Ln.asks,Ln.q0,jQ hd.1 hd.2 (by omega),hn]
theorem nV (hw:0<=wd f/\wd f<=6){k d a:Int}(hk:k=2\/k=4)(hd:0<=d/\d<=wd f+20)(ha:0<=a/\a<=wd f+20):lY fs f (⟨k,d,a,0,0,[]⟩,-1):=by refine⟨fun N h0 h1=>?_,fun h=>by simp at h;omega,?_,fun y hy=>?_,fun h=>by simp at h;omega⟩;{rw[ay (by show¬(0:Int)<=-1;omega)];rcases hk with rfl|rfl<;>simp[Ln.ok,Ln.asks,Ln.q0,jQ hd.1 hd.2 (by omega),jQ ha.1 ha.2 (by omega)]};{rcases hk with rfl|rfl<;>simp[Ln.st]<;>omega};rcases hk with rfl|rfl<;>simp[Ln.us]at hy<;>omega
theorem QI (hw:0<=wd f/\wd f<=6){d a b n:Int}(hd:0<=d/\d<=wd f+20)(ha:0<=a/\a<=wd f+20)(hb:0<=b/\b<=wd f+20)(hn:1<=n/\n<=12):lY fs f (⟨3,d,a,b,n,[]⟩,-1):=by refine⟨fun N h0 h1=>?_,fun h=>by simp at h,by simp[Ln.st];omega,fun y hy=>?_,fun h=>by simp at h⟩;{rw[ay (by show¬(0:Int)<=-1;omega)];simp[Ln.ok,Ln.asks,jQ hd.1 hd.2 (by omega),jQ ha.1 ha.2 (by omega),jQ hb.1 hb.2 (by omega),Wd.jX hn.1 hn.2]};have:y∈Ln.put [a] b:=by{simpa[Ln.us]using hy};rcases Ln.oQ this with rfl|h;{omega};simp at h;omega
theorem Hu (hw:0<=wd f/\wd f<=6){t:Int}(ht:0<=t):lY fs f (⟨5,0,0,0,0,[]⟩,t):=by refine⟨fun N h0 h1=>?_,fun _=>ht,by simp[Ln.st];omega,fun y hy=>by simp[Ln.us,Ln.iY]at hy,fun h=>by simp at h⟩;rw[az ht];simp[Ln.ok,Ln.asks,Ln.q0,Wd.jX h0 h1]
theorem FZ (hw:0<=wd f/\wd f<=6){a t:Int}(ha:0<=a/\a<=wd f+20)(ht:0<=t):lY fs f (⟨6,0,a,0,0,[]⟩,t):=by refine⟨fun N h0 h1=>?_,fun _=>ht,by simp[Ln.st];omega,fun y hy=>by simp[Ln.us]at hy;omega,fun h=>by simp at h⟩;rw[az ht];simp[Ln.ok,Ln.asks,Ln.q0,Wd.jX h0 h1,jQ ha.1 ha.2 (by omega)]
theorem Qj (hw:0<=wd f/\wd f<=6){d n:Int}{l:List Int}(hd:0<=d/\d<=wd f+20)(hn:0<=n/\n<=3/\n<fs.length)(hl:∀y∈l,0<=y/\y<=wd f+20)(hl3:l.length<=3)(ha:(l.length:Int)=(fs.getD n.toNat .z).a):lY fs f (⟨7,d,0,0,n,l⟩,-1):=by refine⟨fun N h0 h1=>?_,fun h=>by simp at h,by simp[Ln.st];omega,fun y hy=>?_,fun h=>⟨by simp,hn.1,hn.2.2,ha⟩⟩;{rw[ay (by show¬(0:Int)<=-1;omega)];have:∀y∈l,Ln.bx y=true:=fun y hy=>jQ (hl y hy).1 (hl y hy).2 (by omega);simp[Ln.ok,Ln.asks,Ln.q0,jQ hd.1 hd.2 (by omega),Wd.jX hn.1 hn.2.1,hl3];exact this};have:y∈Ln.iY l:=by{simpa[Ln.us]using hy};rcases Ln.zz l [] this with h|h;{exact(hl y h).2};cases h
theorem Ql (hw:0<=wd f/\wd f<=6){d a n:Int}(hd:0<=d/\d<=wd f+20)(ha:0<=a/\a<=wd f+20)(hn:0<=n/\n<=255):lY fs f (⟨8,d,a,0,n,[]⟩,-1):=by refine⟨fun N h0 h1=>?_,fun h=>by simp at h,by simp[Ln.st];omega,fun y hy=>by simp[Ln.us]at hy;omega,fun h=>by simp at h⟩;rw[ay (by show¬(0:Int)<=-1;omega)];simp[Ln.ok,Ln.asks,Ln.q0,jQ hd.1 hd.2 (by omega),jQ ha.1 ha.2 (by omega),Wd.jX hn.1 hn.2]
theorem P5 (hw:0<=wd f/\wd f<=6){a b n:Int}(ha:0<=a/\a<=wd f+20)(hb:0<=b/\b<=wd f+20)(hn:0<=n/\n<=255):lY fs f (⟨9,0,a,b,n,[]⟩,-1):=by refine⟨fun N h0 h1=>?_,fun h=>by simp at h,by simp[Ln.st];omega,fun y hy=>?_,fun h=>by simp at h⟩;{rw[ay (by show¬(0:Int)<=-1;omega)];simp[Ln.ok,Ln.asks,Ln.q0,jQ ha.1 ha.2 (by omega),jQ hb.1 hb.2 (by omega),Wd.jX hn.1 hn.2]};have:y∈Ln.put [a] b:=by{simpa[Ln.us]using hy};rcases Ln.oQ this with rfl|h;{omega};simp at h;omega
theorem FV (hw:0<=wd f/\wd f<=6){a:Int}(ha:0<=a/\a<=wd f+20):lY fs f (⟨10,0,a,0,0,[]⟩,-1):=by refine⟨fun N h0 h1=>?_,fun h=>by simp at h,by simp[Ln.st];omega,fun y hy=>by simp[Ln.us]at hy;omega,fun h=>by simp at h⟩;rw[ay (by show¬(0:Int)<=-1;omega)];simp[Ln.ok,Ln.asks,Ln.q0,jQ ha.1 ha.2 (by omega)]
theorem M9 (hw:0<=wd f/\wd f<=6):lY fs f (⟨11,0,0,0,0,[]⟩,-1):=by refine⟨fun N h0 h1=>?_,fun h=>by simp at h,by simp[Ln.st];omega,fun y hy=>by simp[Ln.us,Ln.iY]at hy,fun h=>by simp at h⟩;rw[ay (by show¬(0:Int)<=-1;omega)];simp[Ln.ok,Ln.asks,Ln.q0]
theorem oO (xs:List (Int×Int))(E:List Int)(n:Nat):∀k,(aF.di xs E n k).length<=k
 |0=>by simp[aF.di]
 | k+1=>by
   rw[aF.qf]
   have:=oO xs E n k
   split
   · simp only[List.length_cons];omega
   · omega
theorem za {E O H:List Int}(hA:Hg.Acc fs f E O H)(hf:f.g=0\/f.g=1){n:Nat}{h a:Int}(hJ:Hg.mK f E H n h a)(h1:(bZ f E H n a).2.2=1):wd f<=(bZ f E H n a).2.1/\(bZ f E H n a).2.1<=wd f+20/\1<=h:=by by_cases hlt:a.toNat<(aF.di f.b E n n).length;{obtain⟨t,et,htn,hop,hH0,hst,hle,hae,-⟩:=hJ.1 hlt;rw[nX hlt (t:=t) et]at h1 ⊢;have htl:t<f.b.length:=by{rcases Nat.lt_or_ge t f.b.length with h|h;{exact h};exfalso;have:H.getD t 0=0:=by{rw[ai,List.getElem?_eq_none (by rw[hA.lH];omega)];rfl};have he:aF.op f.b t=0:=by{unfold aF.op;rw[ai,List.getElem?_eq_none (by omega)];rfl};rw[he]at hop;simp[St.opens]at hop};have htop:=hA.dH t htl;unfold Hg.lQ at hst hle;rw[az hH0]at hst hle;unfold bx;by_cases h9:aF.op f.b t=9;{rw[az h9]at h1;simp at h1};rw[ay h9]at h1 ⊢;by_cases h10:aF.op f.b t=10;{rw[az h10]at h1 ⊢ hst hle;simp only at h1 ⊢;omega};rw[ay h10]at h1 ⊢ hst hle;simp only at h1 ⊢;omega};have:=hJ.2 hlt;rw[ni hlt]at h1 ⊢;simp only[bx]at h1 ⊢;omega
theorem vJ {E O H:List Int}(hA:Hg.Acc fs f E O H)(hf:0<=f.a/\f.a<=3/\0<=f.l/\f.l<=3/\(f.g=0\/f.g=1)/\f.b.length<=80)(hfs:∀k,k<fs.length->0<=(fs.getD k .z).a/\(fs.getD k .z).a<=3)(hst:St.bi f.b=true){n:Nat}(hn:n<f.b.length)(hr:0<=H.getD n 0):∀x∈step fs f E O H n,lY fs f x:=by have hty:=hA.typ n hn hr;have wK:=pQ hA hn hr;have htop:=hA.dH n hn;have hw:0<=wd f/\wd f<=6:=by{unfold wd;omega};have hok:St.ok (aF.op f.b n) (arg f.b n)=true:=St.aT hst hn;have htake:=hty.take;obtain⟨p,hp⟩:∃p,aF.op f.b n=p:=⟨_,rfl⟩;have ebx:bx f (H.getD n 0-1)=wd f+(H.getD n 0-1):=rfl;intro x hx;have hgx:=wK x hx;unfold step DJ at hx;rw[hp]at hx hok htake;rw[ebx]at hx;simp only[St.ok,ax,Wd.bB]at hok;have hag:St.least p<=arg f.b n:=hok.2.1;have hal:arg f.b n<=St.bH p:=hok.2.2;by_cases h1:p=1;{subst h1;rw[az rfl,List.mem_singleton]at hx;rw[hx];have e1:St.least 1=0:=by{decide};have e2:St.bH 1=4294967295:=by{decide};rw[e1]at hag;rw[e2]at hal;exact E9 hw (by omega) (Wd.jX hag hal)};rw[ay h1]at hx;by_cases h2:p=2;{subst h2;have:=hty.loc (.inl hp);have e1:St.least 2=0:=by{decide};rw[az rfl,List.mem_singleton]at hx;rw[hx];exact nV hw (.inl rfl) (by omega) (by unfold wd;omega)};rw[ay h2]at hx;by_cases h3:p=3\/p=4;{have:=hty.loc (.inr (by rw[hp];exact h3));have e1:St.least p=0:=by{unfold St.least;rw[ay (by omega)]};have e2:Hg.tk fs p (arg f.b n)=1:=by{unfold Hg.tk;rcases h3 with rfl|rfl;{rfl};rfl};rw[az h3,List.mem_singleton]at hx;rw[hx];exact nV hw (.inl rfl) (by unfold wd;omega) (by omega)};rw[ay h3]at hx;by_cases h5:p=5;{subst h5;have e1:St.least 5=1:=by{decide};have e2:St.bH 5=12:=by{decide};have e3:Hg.tk fs 5 (arg f.b n)=2:=rfl;rw[az rfl,List.mem_singleton]at hx;rw[hx];exact QI hw (by omega) (by omega) (by omega) (by omega)};rw[ay h5]at hx;by_cases h6:p=6;{subst h6;have e3:Hg.tk fs 6 (arg f.b n)=1:=rfl;rw[az rfl,List.mem_singleton]at hx;rw[hx];exact nV hw (.inr rfl) (by omega) (by omega)};rw[ay h6]at hx;by_cases h10:p=10;{subst h10;have e3:Hg.tk fs 10 (arg f.b n)=1:=rfl;rw[az rfl]at hx;have hi:=hty.iff hp;rcases List.mem_cons.1 hx with rfl|hx;{exact nV hw (.inr rfl) (by omega) (by omega)};rw[List.mem_singleton]at hx;rw[hx];refine FZ hw (by omega) ?_;split;{omega};rcases hi with⟨a,-⟩|⟨-,a,b,-⟩;{omega};omega};rw[ay h10]at hx;by_cases h11:p=11;{subst h11;rw[az rfl]at hx;have hi:=hty.Es hp;rw[List.mem_singleton]at hx;rw[hx];exact Hu hw hi.1};rw[ay h11]at hx;by_cases qy:p=13\/p=15;{rw[az qy]at hx;have hg:=ma hA hn (if p=15 then 99 else arg f.b n);have hJ:Hg.mK f E H n (H.getD n 0) (if p=15 then 99 else arg f.b n):=by{by_cases rQ:p=15;{rw[az rQ];have hlen:=oO f.b E n n;exact⟨fun h=>by exfalso;simp at h;omega,fun _=>hty.ret (by rw[hp];exact rQ)⟩};rw[ay rQ];exact hty.jump (by rw[hp];omega)};have hlf:=za hA hf.2.2.2.2.1 hJ;generalize bZ f E H n (if p=15 then 99 else arg f.b n)=L at hx hg hlf;simp only[List.mem_append,List.mem_singleton]at hx;rcases hx with hx|hx;{by_cases hc:L.2.2=1/\L.2.1≠wd f+(H.getD n 0-1);{rw[az hc,List.mem_singleton]at hx;have:=hlf hc.1;rw[hx];exact nV hw (.inl rfl) (by omega) (by omega)};rw[ay hc]at hx;cases hx};rw[hx];exact Hu hw hg.1};rw[ay qy]at hx;by_cases Cb:p=14;{subst Cb;have e3:Hg.tk fs 14 (arg f.b n)=1:=rfl;rw[az rfl]at hx;have hg:=ma hA hn (arg f.b n);have hlf:=za hA hf.2.2.2.2.1 (hty.WA hp);generalize bZ f E H n (arg f.b n)=L at hx hg hlf;simp only at hx;by_cases hc:L.2.2=1/\L.2.1≠wd f+(H.getD n 0-1)-1;{rw[az hc]at hx;have hl2:=hlf hc.1;rcases List.mem_cons.1 hx with rfl|hx;{exact nV hw (.inr rfl) (by omega) (by omega)};rcases List.mem_cons.1 hx with rfl|hx;{exact FZ hw (by omega) (by omega)};rcases List.mem_cons.1 hx with rfl|hx;{exact nV hw (.inl rfl) (by omega) (by omega)};rw[List.mem_singleton]at hx;rw[hx];exact Hu hw hg.1};rw[ay hc,List.mem_singleton]at hx;rw[hx];exact FZ hw (by omega) hg.1};rw[ay Cb]at hx;by_cases h16:p=16;{subst h16;have e1:St.least 16=0:=by{decide};have e2:St.bH 16=3:=by{decide};have e3:Hg.tk fs 16 (arg f.b n)=(fs.getD (arg f.b n).toNat .z).a:=rfl;have hc:=hty.call hp;have ha:=hfs (arg f.b n).toNat (by omega);rw[az rfl,List.mem_singleton]at hx;rw[hx];have hle:((args (wd f+(H.getD n 0-1)) (fs.getD (arg f.b n).toNat .z).a).length:Int)=(fs.getD (arg f.b n).toNat .z).a:=by{unfold args;simp only[List.length_map,List.length_range];omega};refine Qj hw ?_ (by omega) ?_ (by omega) hle;{split<;>omega};intro y hy;unfold args at hy;simp only[List.mem_map,List.mem_range]at hy;obtain⟨i,hi,rfl⟩:=hy;omega};rw[ay h16]at hx;by_cases Hy:p=17;{subst Hy;have e1:St.least 17=0:=by{decide};have e2:St.bH 17=255:=by{decide};have e3:Hg.tk fs 17 (arg f.b n)=1:=rfl;rw[az rfl,List.mem_singleton]at hx;rw[hx];exact Ql hw (by omega) (by omega) (by omega)};rw[ay Hy]at hx;by_cases h18:p=18;{subst h18;have e1:St.least 18=0:=by{decide};have e2:St.bH 18=255:=by{decide};have e3:Hg.tk fs 18 (arg f.b n)=2:=rfl;rw[az rfl,List.mem_singleton]at hx;rw[hx];exact P5 hw (by omega) (by omega) (by omega)};rw[ay h18]at hx;by_cases h19:p=19;{rw[az h19,List.mem_singleton]at hx;rw[hx];exact M9 hw};rw[ay h19]at hx;cases hx
theorem vM {E O H:List Int}(hA:Hg.Acc fs f E O H)(hf:0<=f.a/\f.a<=3/\0<=f.l/\f.l<=3/\(f.g=0\/f.g=1)/\f.b.length<=80)(hfs:∀k,k<fs.length->0<=(fs.getD k .z).a/\(fs.getD k .z).a<=3)(hst:St.bi f.b=true):∀n,n<=f.b.length->∀x∈(df fs f E O H n).1,lY fs f x
 | 0,_,x,hx=>by
   unfold df first at hx
   simp only[List.mem_map,List.mem_range]at hx
   obtain⟨i,hi,rfl⟩:=hx
   exact E9 (by unfold wd;omega) (by unfold wd;omega) (by decide)
 | n +1,hn,x,hx=>by
   unfold df at hx
   simp only[List.mem_append]at hx
   rcases hx with hx|hx
   · exact vM hA hf hfs hst n (by omega) x hx
   · split at hx
     · exact vJ hA hf hfs hst (by omega) (by assumption) x hx
     · cases hx
theorem FI {E O H:List Int}(hA:Hg.Acc fs f E O H)(hf:0<=f.a/\f.a<=3/\0<=f.l/\f.l<=3/\(f.g=0\/f.g=1)/\f.b.length<=80)(hfs:∀k,k<fs.length->0<=(fs.getD k .z).a/\(fs.getD k .z).a<=3)(hst:St.bi f.b=true):∀x∈raw fs f E O H,lY fs f x:=fun x hx=>by
 unfold raw at hx
 have hw:0<=wd f/\wd f<=6:=by unfold wd;omega
 rcases List.mem_append.1 hx with hx|hx
 · exact vM hA hf hfs hst _ (Nat.le_refl _) x hx
 · unfold last at hx
   split at hx
   · rcases List.mem_cons.1 hx with rfl|hx
     · exact E9 hw (by omega) (by decide)
     · rw[List.mem_singleton]at hx
       rw[hx]
       exact FV hw (by omega)
   · rw[List.mem_singleton]at hx
     rw[hx]
     exact FV hw (by omega)
theorem qO (fs:List Fn)(f:Fn)(E O H:List Int):∀n j,j<n->0<=(df fs f E O H n).2.getD j 0/\(df fs f E O H n).2.getD j 0<=((df fs f E O H n).1.length:Int)
 |0,j,h=>by omega
 | n +1,j,h=>by
   have hl:=(iG fs f E O H n).2
   unfold df
   simp only[List.length_append]
   by_cases e:j=n
   · subst e
     rw[ai,List.getElem?_append_right (by omega),hl,Nat.sub_self]
     simp only[List.getElem?_cons_zero,Option.getD_some]
     omega
   · have ih:=qO fs f E O H n j (by omega)
     rw[ai,List.getElem?_append_left (by omega),←ai]
     omega
theorem xu (fs:List Fn)(f:Fn)(E O H:List Int):(df fs f E O H f.b.length).1.length<(raw fs f E O H).length/\(raw fs f E O H).length<=f.l.toNat+4*f.b.length+2:=by have h:=(iG fs f E O H f.b.length).1;unfold raw last;rw[List.length_append];split;{simp only[List.length_cons,List.length_nil];omega};simp only[List.length_cons,List.length_nil];omega
theorem EA (fs:List Fn)(f:Fn)(E O H:List Int){j:Nat}(h:j<f.b.length):0<=(cu fs f E O H).getD j 0/\(cu fs f E O H).getD j 0<((raw fs f E O H).length:Int):=by have h1:=qO fs f E O H f.b.length j h;have h2:=(xu fs f E O H).1;unfold cu;omega
theorem F6 {fs:List Fn}{f:Fn}{E O H:List Int}(h3:(raw fs f E O H).length<=300){x:Ln×Int}(hF:lY fs f x)(hg:-1<=x.2/\x.2<f.b.length):Ln.kF (raw fs f E O H).length (fJ (cu fs f E O H) x)=true/\Ln.st (fJ (cu fs f E O H) x)<=wd f+20/\(∀y∈Ln.us (fJ (cu fs f E O H) x),y<=wd f+20)/\((fJ (cu fs f E O H) x).k=7->0<=(fJ (cu fs f E O H) x).n/\(fJ (cu fs f E O H) x).n<fs.length/\((fJ (cu fs f E O H) x).l.length:Int)=(fs.getD (fJ (cu fs f E O H) x).n.toNat .z).a)/\(fJ (cu fs f E O H) x).k=x.1.k:=by unfold fJ;by_cases h0:0<=x.2;{have hs:=EA fs f E O H (j:=x.2.toNat) (by omega);have ho:=hF.ok ((cu fs f E O H).getD x.2.toNat 0) hs.1 (by omega);rw[az h0]at ho ⊢;refine⟨?_,hF.st,hF.us,fun h=>by have:=(hF.call h).1;omega,rfl⟩;unfold Ln.kF;rw[ho];have hs2:=hs;rw[ai]at hs2;simp;omega};have ho:=hF.ok 0 (by omega) (by omega);rw[ay h0]at ho ⊢;refine⟨?_,hF.st,hF.us,fun h=>(hF.call h).2,rfl⟩;unfold Ln.kF;rw[ho];have:=hF.goes;simp;omega
theorem vk {E O H:List Int} (hA:Hg.Acc fs f E O H) (hf:0<=f.a/\f.a<=3/\0<=f.l/\f.l<=3/\(f.g=0\/f.g=1)/\f.b.length<=80) (hfs:∀k,k<fs.length->0<=(fs.getD k .z).a/\(fs.getD k .z).a<=3) (hst:St.bi f.b=true):(f.b.length<=50->func fs f E O H≠[])/\(func fs f E O H≠[]->Ln.isOk (func fs f E O H)=true/\((func fs f E O H).getD ((func fs f E O H).length-1) .z).k=10/\Ln.boxes (func fs f E O H)<=wd f+21/\∀y∈func fs f E O H,y.k=7->0<=y.n/\y.n<fs.length/\(y.l.length:Int)=(fs.getD y.n.toNat .z).a):=by
 have hrl:=xu fs f E O H
 have hne:raw fs f E O H≠[]:=fun e=>by rw[e]at hrl;simp at hrl
 refine⟨fun h5=>?_,fun h=>?_⟩
 · unfold func;rw[az (by omega)];intro e;exact hne (by simpa using e)
 · have h3:(raw fs f E O H).length<=300:=by rcases Nat.lt_or_ge 300 (raw fs f E O H).length with h'|h';{exfalso;apply h;unfold func;rw[ay (by omega)]};exact h'
   have e:func fs f E O H=(raw fs f E O H).map (fJ (cu fs f E O H)):=by unfold func;rw[az h3]
   rw[e]
   have hall:∀y∈(raw fs f E O H).map (fJ (cu fs f E O H)),Ln.kF (raw fs f E O H).length y=true/\Ln.st y<=wd f+20/\(∀z∈Ln.us y,z<=wd f+20)/\(y.k=7->0<=y.n/\y.n<fs.length/\(y.l.length:Int)=(fs.getD y.n.toNat .z).a):=fun y hy=>by obtain⟨x,hx,rfl⟩:=List.mem_map.1 hy;have:=F6 h3 (FI hA hf hfs hst x hx) (zO hA x hx);exact⟨this.1,this.2.1,this.2.2.1,this.2.2.2.1⟩
   have hlast:(((raw fs f E O H).map (fJ (cu fs f E O H))).getD (((raw fs f E O H).map (fJ (cu fs f E O H))).length-1) .z).k=10:=by rw[List.length_map,ai,List.getElem?_map];have hl:(raw fs f E O H)[(raw fs f E O H).length-1]?=(last f)[(last f).length-1]?:=by{(have hp:0<(last f).length:=by unfold last;split<;>simp);have e2:(raw fs f E O H).length=(df fs f E O H f.b.length).1.length+(last f).length:=by{unfold raw;rw[List.length_append]};rw[e2];unfold raw;rw[List.getElem?_append_right (by omega)];congr 1;omega};rw[hl];unfold last;split;{rfl};rfl
   refine⟨?_,hlast,?_,fun y hy=>(hall y hy).2.2.2⟩
   · unfold Ln.isOk Ln.sO;rw[hlast];simp only[List.length_map,ax,decide_eq_true_eq,List.all_eq_true];exact⟨⟨by omega,h3⟩,fun y hy=>(hall y hy).1,by decide⟩
   · unfold Ln.boxes
     split
     · unfold Ln.fT
       have hmx:∀a b c:Int,a<=c->b<=c->Ln.mx a b<=c:=fun a b c h1 h2=>by unfold Ln.mx;split<;>assumption
       have Vh:∀(l:List Int)(m:Int),m<=wd f+21->(∀z∈l,z<=wd f+20)->l.foldl (fun n y=>Ln.mx n (y+1)) m<=wd f+21:=by
        intro l
        induction l with
        |nil=>intro m hm _;exact hm
        |cons z r ih=>
         intro m hm hz
         exact ih _ (hmx _ _ _ hm (by have:=hz z (by simp);omega)) (fun y hy=>hz y (by simp[hy]))
       have Ol:∀(l:List Ln)(m:Int),m<=wd f+21->(∀y∈l,Ln.st y<=wd f+20/\∀z∈Ln.us y,z<=wd f+20)->l.foldl Ln.most m<=wd f+21:=by
        intro l
        induction l with
        |nil=>intro m hm _;exact hm
        |cons z r ih=>
         intro m hm hz
         refine ih _ ?_ (fun y hy=>hz y (by simp[hy]))
         unfold Ln.most
         have:=hz z (by simp)
         exact Vh _ _ (hmx _ _ _ hm (by omega)) this.2
       exact Ol _ 0 (by unfold wd;omega) (fun y hy=>⟨(hall y hy).2.1,(hall y hy).2.2.1⟩)
     · unfold wd;omega
end Lw
def OT (W:World)(n₀:Nat)(v:Value)(xs:List Int):Prop:=∃t,W.ownsRow n₀ t 1 v xs.length (xs.map iv)
theorem OI.ot {W:World}{n₀:Nat}{v:Value}{xs:List Int}(h:OI W n₀ v xs):OT W n₀ v xs:=⟨_,h⟩
theorem OT.slice {W:World}{n₀:Nat}{v:Value}{xs:List Int}(h:OT W n₀ v xs):∃a cap,v= .slice a xs.length cap/\IL W a xs.length xs:=by obtain⟨t,h⟩:=h;rcases h.2 with⟨rfl,h0⟩|⟨g,cap,cur,rfl,hb,hc,hn,hm,hs,ht⟩;{exact⟨none,0,by rw[h0],rfl,by rw[h0];exact Nat.zero_le _, .inl h0⟩};refine⟨_,cap,rfl,rfl,Nat.le_trans hn hm, .inr ⟨g,0,rfl,(h.lt g rfl).2,fun j hj=>?_⟩⟩;have:=h.cellAt j (by omega);rw[Nat.zero_add,this,List.getElem?_map,aj hj,ai,aj hj];rfl
theorem OT.il {W:World}{n₀:Nat}{a:Option Addr}{n c:Nat}{xs:List Int}(h:OT W n₀ (.slice a n c) xs):n=xs.length/\IL W a n xs:=by obtain⟨a',c',e,hil⟩:=h.slice;simp only[Value.slice.injEq]at e;obtain⟨rfl,rfl,rfl⟩:=e;exact⟨rfl,hil⟩
theorem OT.kept {W W':World}{n₀:Nat}{v:Value}{xs:List Int}(h:OT W n₀ v xs)(hB:Below W.heap.size W W'):OT W' n₀ v xs:=by obtain⟨t,h⟩:=h;refine⟨t,World.ownsRow.kept (row:=none) h ⟨hB.os,hB.tape,hB.output,hB.size,fun k hk _=>hB.block k hk⟩ ?_⟩;rcases hv:v.ownBlock with _|b;{exact .inl rfl};exact .inr (by simp)
theorem OT.eP {W W':World}{n₀ b:Nat}{v:Value}{xs:List Int}(h:OT W n₀ v xs)(hg:W.grownBy W' (some b))(hne:∀g,v.ownBlock=some g->g≠b):OT W' n₀ v xs:=by obtain⟨t,h⟩:=h;refine⟨t,World.ownsRow.kept h hg ?_⟩;rcases hv:v.ownBlock with _|b';{exact .inl rfl};refine .inr ?_;have:=hne b' hv;simp only[ne_eq,ah];omega
theorem OT.mono {W:World}{n₀ n₁:Nat}{v:Value}{xs:List Int}(h:OT W n₁ v xs)(hn:n₀<=n₁):OT W n₀ v xs:=by obtain⟨t,h⟩:=h;refine⟨t,h.1,?_⟩;rcases h.2 with h'|⟨g',cap',cur,h',hb,r⟩;{exact .inl h'};exact .inr ⟨g',cap',cur,h',Nat.le_trans hn hb,r⟩
theorem OT.lt {W:World}{n₀:Nat}{v:Value}{xs:List Int}(h:OT W n₀ v xs)(g:Nat)(hg:v.ownBlock=some g):n₀<=g/\g<W.heap.size:=by obtain⟨t,h⟩:=h;exact World.ownsRow.lt h g hg
theorem ny.ot {W:World}{n₀ g:Nat}{t:TypeId}{xs:List Int}(h:ny W g t (xs.map iv))(hg:n₀<=g)(hm:xs.length<=maxLen):OT W n₀ (.slice (some ⟨g,0,none⟩) xs.length xs.length) xs:=
 ⟨t,by simp, .inr ⟨g,xs.length,(xs.map iv).toArray,rfl,hg,h,Nat.le_refl _,hm,by simp,by rw[Nat.mul_one];exact List.take_of_length_le (by simp)⟩⟩
theorem OI.QR {W:World}{n₀:Nat}{v:Value}{xs:List Int}(h:OI W n₀ v xs)(p:Addr)(hp:p.block<n₀)(x:Value):OI (W.setCell p x) n₀ v xs:=
 h.eP (aP W p x) (fun g hg=>by have:=(World.ownsRow.lt h g hg).1;omega)
theorem yR (k d a b n:Int)(xs:List Int)(la la':Option Addr)(ln lc W9:Nat)(w:World)(hs:IL w la ln xs)(hs':IL w la' ln xs):Calls Tryz.prog 49 #[.agg #[.int .i64 k, .int .i64 d, .int .i64 a, .int .i64 b, .int .i64 n, .slice la ln lc], .agg #[.int .i64 k, .int .i64 d, .int .i64 a, .int .i64 b, .int .i64 n, .slice la' ln W9]] w fun e w'=>e= .returned (.bool true)/\Below w.heap.size w w':=by have hB2:=gZ w (.cells #[.int .i64 k, .int .i64 d, .int .i64 a, .int .i64 b, .int .i64 n, .slice la ln lc] 41) (.cells #[.int .i64 k, .int .i64 d, .int .i64 a, .int .i64 b, .int .i64 n, .slice la' ln W9] 41);have hcon:=uG la la' ln lc W9 xs _ (hs.kept hB2) (hs'.kept hB2);go_enter Tryz.func49,Tryz.ntmps49;go_wp2_with fail;refine hcon.mono ?_;rintro e w1 ⟨rfl,hB3⟩;have hB4:=hB2.trans (hB3.mono hB2.size);go_wp2;go_ret;exact⟨rfl,hB4⟩
section
open Go.ChangeShapes Go.WideShapes Go.ChangeAt Go.RowKit Go.Shelf Go.Deep
theorem xX (a b:Option Addr)(len cap cap':Nat)(fs:List Ln)(w:World)(hs:LL w a len fs)(hs':LL w b len fs):Calls Tryz.prog 23 #[.slice a len cap, .slice b len cap'] w fun e w'=>e= .returned (.bool true)/\Below w.heap.size w w':=by obtain⟨hl,hm,hrow⟩:=hs;obtain⟨-,-,hrow'⟩:=hs';clear hl;unfold maxLen at hm;go_enter Tryz.func23,Tryz.ntmps23;go_wp2;go_loopw [5] (fun i wr=>∃k:Nat,i= .int .i64 k/\k<=len/\Below w.heap.size w wr) (fun i _=>len-(intOf i).toNat);(case atStart=>exact⟨0,rfl,Nat.zero_le _,Below.refl _ _⟩);case round=>obtain⟨k,rfl,hk,hB⟩:=hrel;by_cases hlt:k<len;{rcases hrow with h0|⟨b1,eZ,rfl,hb1,hx1⟩;{omega};rcases hrow' with h0|⟨b2,dU,rfl,hb2,hx2⟩;{omega};obtain⟨x0,x1,x2,x3,x4,ba,bl,bc,x5,hsl⟩:=hx1 k hlt;obtain⟨y0,y1,y2,y3,y4,ba',Je,bc',y5,mW⟩:=hx2 k hlt;obtain⟨⟨p,d,aa,bb,n,bd⟩,hpq⟩:∃x,fs.getD k .z=x:=⟨_,rfl⟩;rw[hpq]at x0 x1 x2 x3 x4 y0 y1 y2 y3 y4 hsl mW;simp only at x0 x1 x2 x3 x4 y0 y1 y2 y3 y4 hsl mW;obtain rfl:bl=Je:=hsl.1.symm.trans mW.1;have hs1:=hsl.kept hB;have hs2:=mW.kept hB;have hc0:∀wx:dB wr,wx.to.cell? ⟨b1,eZ+k*6,none⟩=some (.int .i64 p):=fun wx=>((hB.trans (wx.h.mono hB.size)).cell (p:=⟨b1,eZ+k*6,none⟩) hb1).trans x0;have hc1:∀wx:dB wr,wx.to.cell? ⟨b1,eZ+k*6+1,none⟩=some (.int .i64 d):=fun wx=>((hB.trans (wx.h.mono hB.size)).cell (p:=⟨b1,eZ+k*6+1,none⟩) hb1).trans x1;have hc2:∀wx:dB wr,wx.to.cell? ⟨b1,eZ+k*6+2,none⟩=some (.int .i64 aa):=fun wx=>((hB.trans (wx.h.mono hB.size)).cell (p:=⟨b1,eZ+k*6+2,none⟩) hb1).trans x2;have hc3:∀wx:dB wr,wx.to.cell? ⟨b1,eZ+k*6+3,none⟩=some (.int .i64 bb):=fun wx=>((hB.trans (wx.h.mono hB.size)).cell (p:=⟨b1,eZ+k*6+3,none⟩) hb1).trans x3;have hc4:∀wx:dB wr,wx.to.cell? ⟨b1,eZ+k*6+4,none⟩=some (.int .i64 n):=fun wx=>((hB.trans (wx.h.mono hB.size)).cell (p:=⟨b1,eZ+k*6+4,none⟩) hb1).trans x4;have LZ:∀wx:dB wr,wx.to.cell? ⟨b1,eZ+k*6+5,none⟩=some (.slice ba bl bc):=fun wx=>((hB.trans (wx.h.mono hB.size)).cell (p:=⟨b1,eZ+k*6+5,none⟩) hb1).trans x5;have hd0:∀wx:dB wr,wx.to.cell? ⟨b2,dU+k*6,none⟩=some (.int .i64 p):=fun wx=>((hB.trans (wx.h.mono hB.size)).cell (p:=⟨b2,dU+k*6,none⟩) hb2).trans y0;have hd1:∀wx:dB wr,wx.to.cell? ⟨b2,dU+k*6+1,none⟩=some (.int .i64 d):=fun wx=>((hB.trans (wx.h.mono hB.size)).cell (p:=⟨b2,dU+k*6+1,none⟩) hb2).trans y1;have hd2:∀wx:dB wr,wx.to.cell? ⟨b2,dU+k*6+2,none⟩=some (.int .i64 aa):=fun wx=>((hB.trans (wx.h.mono hB.size)).cell (p:=⟨b2,dU+k*6+2,none⟩) hb2).trans y2;have hd3:∀wx:dB wr,wx.to.cell? ⟨b2,dU+k*6+3,none⟩=some (.int .i64 bb):=fun wx=>((hB.trans (wx.h.mono hB.size)).cell (p:=⟨b2,dU+k*6+3,none⟩) hb2).trans y3;have hd4:∀wx:dB wr,wx.to.cell? ⟨b2,dU+k*6+4,none⟩=some (.int .i64 n):=fun wx=>((hB.trans (wx.h.mono hB.size)).cell (p:=⟨b2,dU+k*6+4,none⟩) hb2).trans y4;have hd5:∀wx:dB wr,wx.to.cell? ⟨b2,dU+k*6+5,none⟩=some (.slice ba' bl bc'):=fun wx=>((hB.trans (wx.h.mono hB.size)).cell (p:=⟨b2,dU+k*6+5,none⟩) hb2).trans y5;have hne:=dB.any wr;clear hx1 hx2 x0 x1 x2 x3 x4 x5 y0 y1 y2 y3 y4 y5 hpq hsl mW;go_wp2;refine bK (by kernel_rfl) (by kernel_rfl) ?_;(repeat(go_big_quiet_step (first|(go_at_call 49;refine jk (yR _ _ _ _ _ bd _ _ _ _ _ _ (hs1.kept (dB.h _)) (hs2.kept (dB.h _)))))));refine wpQuiet_nil ?_;rintro _ ⟨pw,rfl⟩;have bI:=hB.trans (pw.h.mono hB.size);generalize pw.to=w7 at*;go_wp2;go_roundw;(case rel=>exact⟨k+1,by simp,by omega,bI⟩);case measure=>simp[intOf];omega};clear hrow hrow';go_wp2;go_ret;exact⟨rfl,hB⟩
end
end Go.Proofs.YtellfmhljjdjbaaGreatDoor
