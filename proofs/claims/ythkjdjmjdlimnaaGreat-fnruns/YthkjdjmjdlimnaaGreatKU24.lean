/-
  Own texts for a law: StepD3 Dl3 Dl4 Rd0 Gen11 Gen12 Phi2 Phi3 PhiW
-/
import Derived.Test.YthkjdjmjdlimnaaGreatKU23
namespace Go.Proofs.YthkjdjmjdlimnaaGreat
open Go.RowKit Go.Shelf
set_option linter.all false
set_option maxRecDepth 100000
set_option maxHeartbeats 16000000
theorem ET {w w':World}{B:Nat}{a:Option Addr}{len cap:Nat}{zs:List Int}{n₀ e k g n c:Nat}{xs:List Value}(h:w.ownsRow n₀ e k (.slice (some ⟨g,0,none⟩) n c) n xs)(hd:aT w w' B a len cap zs)(hB:B<n₀):w'.ownsRow n₀ e k (.slice (some ⟨g,0,none⟩) n c) n xs:=
 h.kept hd.2 (.inr (by have:=(h.lt g rfl).1;simp only[Value.ownBlock,ne_eq,af];omega))
theorem aT.app {w w1 w2:World}{B:Nat}{a:Option Addr}{len cap:Nat}{zs:List Int}{e k g n c:Nat}{xs:List Value}(h:aT w w1 B a len cap zs)(hB:B<w.heap.size)(hrow:w1.ownsRow w.heap.size e k (.slice (some ⟨g,0,none⟩) n c) n xs)(hg:w1.grownBy w2 (Value.slice (some ⟨g,0,none⟩) n c).ownBlock):aT w w2 B a len cap zs:=
 h.fresh hB hg (hrow.lt g rfl).1
def LD (w wr:World)(B:Nat)(a:Option Addr)(len cap:Nat)(zs:List Int)(v:Value)(n:Nat):Prop:=
 ∃(l:List (Int×Int))(g c:Nat),v= .slice (some ⟨g,0,none⟩) n c/\n=l.length/\wr.ownsRow w.heap.size 95 2 (.slice (some ⟨g,0,none⟩) n c) n (encS l)/\aT w wr B a len cap zs
theorem LD.os {w wr:World}{B:Nat}{a:Option Addr}{len cap:Nat}{zs:List Int}{v:Value}{n:Nat}(h:LD w wr B a len cap zs v n):∃l,OS wr w.heap.size v l/\aT w wr B a len cap zs:=by obtain⟨l,g,c,rfl,hn,hrow,hd⟩:=h;exact⟨l,OS.r9 hrow,hd⟩
def KL (w:World)(B:Nat)(a:Option Addr)(len cap:Nat)(zs:List Int)(g c n:Nat)(W:World):Prop:=
 ∃vs ls,List.length ls=n/\List.length vs=n/\W.ownsRow w.heap.size 109 6 (.slice (some ⟨g,0,none⟩) n c) n (ek vs)/\jo W w.heap.size n vs ls/\aT w W B a len cap zs/\B<w.heap.size
section
variable {w W W' : World} {B : Nat} {a : Option Addr} {len cap : Nat} {zs : List Int} {g c n : Nat}
theorem KL.drawn (h:KL w B a len cap zs g c n W)(hd:aT W W' B a len cap zs):KL w B a len cap zs g c n W':=by obtain⟨vs,ls,h1,h2,h3,h4,h5,h6⟩:=h;exact⟨vs,ls,h1,h2,ET h3 hd h6,h4.other hd.2 h6,h5.andThen hd,h6⟩
theorem KL.dr (h:KL w B a len cap zs g c n W):aT w W B a len cap zs:=by obtain⟨vs,ls,h1,h2,h3,h4,h5,h6⟩:=h;exact h5
theorem KL.Z8 (h:KL w B a len cap zs g c n W):∃ls,ni W w.heap.size (.slice (some ⟨g,0,none⟩) n c) ls/\aT w W B a len cap zs:=by obtain⟨vs,ls,h1,h2,h3,h4,h5,h6⟩:=h;subst h1;exact⟨ls,⟨g,c,vs,rfl,h3,h4⟩,h5⟩
theorem KL.app {g' c':Nat}{x:Ln}{vl:Value}(h:KL w B a len cap zs g c n W)(ho:OI W w.heap.size vl x.l)(vs:List Lv)(hv:∀vs',W.ownsRow w.heap.size 109 6 (.slice (some ⟨g,0,none⟩) n c) n (ek vs')->True)(hg:(W.alloc (.cells #[.int .i64 x.k, .int .i64 x.d, .int .i64 x.a, .int .i64 x.b, .int .i64 x.n,vl] 109)).grownBy W' (Value.slice (some ⟨g,0,none⟩) n c).ownBlock)(hrow:W.ownsRow w.heap.size 109 6 (.slice (some ⟨g,0,none⟩) n c) n (ek vs))(hvl:vs.length=n)(ls:List Ln)(hls:ls.length=n)(ht:jo W w.heap.size n vs ls)(hn:W'.ownsRow w.heap.size 109 6 (.slice (some ⟨g',0,none⟩) (n+1) c') (n+1) (ek vs++[.int .i64 x.k, .int .i64 x.d, .int .i64 x.a, .int .i64 x.b, .int .i64 x.n,vl])):KL w B a len cap zs g' c' (n+1) W':=by obtain⟨-,-,-,-,-,-,h5,h6⟩:=h;have hB1:=aB W (.cells #[.int .i64 x.k, .int .i64 x.d, .int .i64 x.a, .int .i64 x.b, .int .i64 x.n,vl] 109);have hr1:=aO hrow hB1;have ht1:=ht.kept hB1;have ho1:=ho.kept hB1;have ne:∀{v:Value}{xs:List Int},OI (W.alloc (.cells #[.int .i64 x.k, .int .i64 x.d, .int .i64 x.a, .int .i64 x.b, .int .i64 x.n,vl] 109)) w.heap.size v xs->∀k,v.ownBlock=some k->(Value.slice (some ⟨g,0,none⟩) n c).ownBlock≠some k:=fun hoi k hk=>eZ hoi hr1 (by decide) hk;have ht2:jo W' w.heap.size n vs ls:=ht1.dJ hg (fun j hj k hk=>ne (ht1 j hj).2.2.2.2.2 k hk);have ho2:OI W' w.heap.size vl x.l:=dO ho1 hg (fun k hk=>ne ho1 k hk);refine⟨vs++[(x.k,x.d,x.a,x.b,x.n,vl)],ls++[x],by simp[hls],by simp[hvl],by rw[oN];exact hn,fun j hj=>?_,(h5.alloc _).app h6 hr1 hg,h6⟩;by_cases e:j<n;{have e1:(vs++[(x.k,x.d,x.a,x.b,x.n,vl)]).getD j iA=vs.getD j iA:=by{rw[ah,List.getElem?_append_left (by omega),←ah]};have e2:(ls++[x]).getD j .z=ls.getD j .z:=by{rw[ah,List.getElem?_append_left (by omega),←ah]};rw[e1,e2];exact ht2 j e};have hjn:j=n:=by{omega};subst hjn;have e1:(vs++[(x.k,x.d,x.a,x.b,x.n,vl)]).getD j iA=(x.k,x.d,x.a,x.b,x.n,vl):=by{rw[ah,List.getElem?_append_right (by omega),hvl];simp};have e2:(ls++[x]).getD j .z=x:=by{rw[ah,List.getElem?_append_right (by omega),hls];simp};rw[e1,e2];exact⟨rfl,rfl,rfl,rfl,rfl,ho2⟩
theorem KL.set {k:Nat}{vl:Value}(x:Ln)(h:KL w B a len cap zs g c n W)(hk:k<n)(ho:OI W w.heap.size vl x.l):KL w B a len cap zs g c n ((((((W.setCell ⟨g,k*6,none⟩ (.int .i64 x.k)).setCell ⟨g,k*6+1,none⟩ (.int .i64 x.d)).setCell ⟨g,k*6+2,none⟩ (.int .i64 x.a)).setCell ⟨g,k*6+3,none⟩ (.int .i64 x.b)).setCell ⟨g,k*6+4,none⟩ (.int .i64 x.n)).setCell ⟨g,k*6+5,none⟩ vl):=by obtain⟨vs,ls,h1,h2,h3,h4,h5,h6⟩:=h;have Zn:=h3.stored (k*6) (.int .i64 x.k);have FH:=Zn.1.stored (k*6+1) (.int .i64 x.d);have Zo:=FH.1.stored (k*6+2) (.int .i64 x.a);have Zp:=Zo.1.stored (k*6+3) (.int .i64 x.b);have Zq:=Zp.1.stored (k*6+4) (.int .i64 x.n);have TS:=Zq.1.stored (k*6+5) vl;have hgr:=(eu (eu (eu (eu (eu Zn.2 FH.2) Zo.2) Zp.2) Zq.2) TS.2);have ne:∀{v:Value}{xs:List Int},OI W w.heap.size v xs->∀k,v.ownBlock=some k->(some g:Option Nat)≠some k:=fun hoi k hk=>eZ hoi h3 (by decide) hk;have ht2:=h4.dJ hgr (fun j hj k hk=>ne (h4 j hj).2.2.2.2.2 k hk);have ho2:=dO ho hgr (fun k hk=>ne ho k hk);have hlt:=World.ownsRow.lt h3 g rfl;rw[←vD vs k (x.k,x.d,x.a,x.b,x.n,vl)]at TS;refine⟨vs.set k (x.k,x.d,x.a,x.b,x.n,vl),ls.set k x,by simp[h1],by simp[h2],TS.1,fun j hj=>?_,h5.fresh h6 hgr hlt.1,h6⟩;by_cases e:j=k;{subst e;have e1:(vs.set j (x.k,x.d,x.a,x.b,x.n,vl)).getD j iA=(x.k,x.d,x.a,x.b,x.n,vl):=by{rw[ah,List.getElem?_set_self (by omega)];rfl};have e2:(ls.set j x).getD j .z=x:=by{rw[ah,List.getElem?_set_self (by omega)];rfl};rw[e1,e2];exact⟨rfl,rfl,rfl,rfl,rfl,ho2⟩};have e1:(vs.set k (x.k,x.d,x.a,x.b,x.n,vl)).getD j iA=vs.getD j iA:=by{rw[ah,List.getElem?_set_ne (by omega),←ah]};have e2:(ls.set k x).getD j .z=ls.getD j .z:=by{rw[ah,List.getElem?_set_ne (by omega),←ah]};rw[e1,e2];exact ht2 j hj
theorem KL.at (h:KL w B a len cap zs g c n W){k:Nat}(hk:k<n):(∃p0 p1 p2 p3 p4:Int,∃u,W.cell? ⟨g,k*6,none⟩=some (.int .i64 p0)/\W.cell? ⟨g,k*6+1,none⟩=some (.int .i64 p1)/\W.cell? ⟨g,k*6+2,none⟩=some (.int .i64 p2)/\W.cell? ⟨g,k*6+3,none⟩=some (.int .i64 p3)/\W.cell? ⟨g,k*6+4,none⟩=some (.int .i64 p4)/\W.cell? ⟨g,k*6+5,none⟩=some u)/\W.frozen? ⟨g,k*6,none⟩=false/\W.frozen? ⟨g,k*6+1,none⟩=false/\W.frozen? ⟨g,k*6+2,none⟩=false/\W.frozen? ⟨g,k*6+3,none⟩=false/\W.frozen? ⟨g,k*6+4,none⟩=false/\W.frozen? ⟨g,k*6+5,none⟩=false/\g<W.heap.size/\n<=c:=by obtain⟨vs,ls,h1,h2,h3,h4,h5,h6⟩:=h;obtain⟨g0,g1,g2,g3,g4,g5⟩:=mW vs k (by omega);exact⟨⟨_,_,_,_,_,_,(World.ownsRow.cellAt h3 (k*6) (by omega)).trans g0,(World.ownsRow.cellAt h3 (k*6+1) (by omega)).trans g1,(World.ownsRow.cellAt h3 (k*6+2) (by omega)).trans g2,(World.ownsRow.cellAt h3 (k*6+3) (by omega)).trans g3,(World.ownsRow.cellAt h3 (k*6+4) (by omega)).trans g4,(World.ownsRow.cellAt h3 (k*6+5) (by omega)).trans g5⟩,h3.frozenAt _,h3.frozenAt _,h3.frozenAt _,h3.frozenAt _,h3.frozenAt _,h3.frozenAt _,(World.ownsRow.lt h3 g rfl).2,oO h3⟩
theorem ni.dr {v:Value}{ls:List Ln}(h:ni W n v ls)(hg:W.grownBy W' (some B))(hB:B<n):ni W' n v ls:=by obtain⟨g,cap,vs,e,h1,h2⟩:=h;exact⟨g,cap,vs,e,dO h1 hg (fun k hk=>by have:=(World.ownsRow.lt h1 k hk).1;simp only[ne_eq,af];omega),h2.other hg hB⟩
end
theorem QO {W:World}{M F nf:Nat}{q:Prop}(h:∀j,j<nf->zw W M F j q)(hF:F<W.heap.size)(hn:nf<=3):∃fs,FL W (some ⟨F,0,none⟩) nf fs:=by
 have H:∀m,m<=nf->∃fs:List Fn,fs.length=m/\∀j,j<m->W.cell? ⟨F,0+j*4,none⟩=some (.int .i64 (fs.getD j .z).a)/\W.cell? ⟨F,0+j*4+1,none⟩=some (.int .i64 (fs.getD j .z).l)/\W.cell? ⟨F,0+j*4+2,none⟩=some (.int .i64 (fs.getD j .z).g)/\
     ∃ba bl bc,W.cell? ⟨F,0+j*4+3,none⟩=some (.slice ba bl bc)/\SL W ba bl (fs.getD j .z).b:=by
   intro m
   induction m with
   |zero=>exact fun _=>⟨[],rfl,fun j hj=>by omega⟩
   | succ m ih=>
     intro hm
     obtain⟨fs,hl,hx⟩:=ih (by omega)
     obtain⟨p,q,g,ba,bl,bc,xs,-,-,k0,k1,k2,k3,k4,-⟩:=h m (by omega)
     refine⟨fs++[(⟨p,q,g,xs⟩:Fn)],by simp[hl],fun j hj=>?_⟩
     by_cases e:j<m
     · have e1:(fs++[(⟨p,q,g,xs⟩:Fn)]).getD j .z=fs.getD j .z:=by rw[ah,ah,List.getElem?_append_left (by omega)]
       rw[e1]
       exact hx j e
     · have e':j=m:=by omega
       subst e'
       have e1:(fs++[(⟨p,q,g,xs⟩:Fn)]).getD j .z=⟨p,q,g,xs⟩:=by
         rw[ah,List.getElem?_append_right (by omega),hl,Nat.sub_self]
         rfl
       rw[e1]
       simp only[Nat.zero_add]
       exact⟨k0,k1,k2,ba,bl,bc,k3,k4.sl⟩
 obtain⟨fs,hl,hx⟩:=H nf (Nat.le_refl _)
 exact⟨fs,hl,by simp only[maxLen];omega, .inr ⟨F,0,rfl,hF,hx⟩⟩
structure DA (w:World)(B:Nat)(a:Option Addr)(len cap:Nat)(zs:List Int)(M F nf cv Mb:Nat)(d:ByteArray)(x:World):Prop where
 ix:B<w.heap.size/\w.heap.size<=M/\M<F/\F<x.heap.size/\w.heap.size<=Mb
 nb:nf<=3
 fd:∀j,j<nf->zw x M F j True
 bM:bq x Mb [.slice (some ⟨F,0,none⟩) nf cv, .string d]
 dr:aT w x B a len cap zs
theorem DA.drawn {w x x':World}{B:Nat}{a:Option Addr}{len cap:Nat}{zs:List Int}{M F nf cv Mb:Nat}{d:ByteArray}(h:DA w B a len cap zs M F nf cv Mb d x)(hd:aT x x' B a len cap zs):DA w B a len cap zs M F nf cv Mb d x':=by have ix:=h.ix;have hs:=hd.2.size;exact⟨by omega,h.nb,fun j hj=>(h.fd j hj).of hs (fun k hk hMk=>hd.2.block k hk (by simp only[ne_eq,af];omega)) ix.2.2.2.1 ix.2.2.1,h.bM.dr hd (by omega),h.dr.andThen hd⟩
theorem DA.kept {w x x':World}{B:Nat}{a:Option Addr}{len cap:Nat}{zs:List Int}{M F nf cv Mb:Nat}{d:ByteArray}(h:DA w B a len cap zs M F nf cv Mb d x)(hB:Below x.heap.size x x'):DA w B a len cap zs M F nf cv Mb d x':=by have ix:=h.ix;have hs:=hB.size;exact⟨by omega,h.nb,fun j hj=>(h.fd j hj).of hs (fun k hk _=>hB.block k hk) ix.2.2.2.1 ix.2.2.1,h.bM.kept hB,h.dr.plain ⟨hB.os,hB.tape,hB.output,hB.size,fun k hk _=>hB.block k hk⟩⟩
def Uy (B M F nf cv N:Nat)(d:ByteArray):Nat->Value->World->Prop
 |0,y,_=>y= .agg #[.slice (some ⟨F,0,none⟩) nf cv, .string d]
 |1,y,_=>y= .pointer (some ⟨B,0,none⟩)
 |2,y,_=>y= .pointer (some ⟨M,0,none⟩)
 |3,y,_=>y= .slice (some ⟨F,0,none⟩) nf cv
 |4,y,_=>y= .int .i64 nf
 |5,y,_=>∃p:Int,y= .int .i64 p
 |6,y,x=>∃ls,ni x N y ls
 |_,_,_=>True
theorem Uy.dE {B M F nf cv N:Nat}{d:ByteArray}(hN:B<N){k:Nat}{y:Value}{x x':World}(hr:x.grownBy x' (some B))(hf:Uy B M F nf cv N d k y x):Uy B M F nf cv N d k y x':=by
 unfold Uy at hf ⊢
 split at hf
 all_goals first
   |exact hf
   |(obtain⟨ls,h⟩:=hf;exact⟨ls,h.dr hr hN⟩)
theorem sZ (B:Nat)(a:Option Addr)(len cap:Nat)(zs:List Int)(hlen:len<=4096)(w:World)(hc:jB w B a len cap zs):Calls Tryz.prog 41 #[.pointer (some ⟨B,0,none⟩)] w fun e w'=>∃v ls,e= .returned v/\ni w' w.heap.size v ls/\aT w w' B a len cap zs:=by have hBw:=hc.1;obtain⟨i0,hi,hz0,hz1,hz2⟩:=info_parts vz;go_enter Tryz.func41,Tryz.ntmps41;go_wp2_with fail;refine(eD B a len cap zs 3 _ hc).mono ?_;rintro e w1 ⟨o,rfl,hd1⟩;clear hc;cases o;{go_wp2_with fail;refine(sH B a len cap zs hlen _ hd1.1).mono ?_;rintro e w2 ⟨F,nf,cv,d,rfl,O3,M,hM1,hM2,Zr,⟨hn1,hn2,hn3,Y9⟩,Zt,-,hd2⟩;dsimp only;have hs1:=hd1.2.size;have da:DA w B a len cap zs M F nf cv w2.heap.size d (w2.alloc (.cells #[.slice (some ⟨F,0,none⟩) nf cv, .string d] 26)):=⟨by simp;omega,hn2,fun j hj=>(Zt j hj).of (by simp) (fun k hk _=>(aB w2 _).block k hk) Zr hM2,bq.new w2 [.slice (some ⟨F,0,none⟩) nf cv, .string d] 26,(hd1.andThen hd2).alloc _⟩;have ahJ:(nf:Int)<=(cv:Int):=by{omega};clear Zt hd1 hd2 Zr;go_wp2_with fail;skip;refine eQ 7 [12,13,14,15,16,17,18] (fun x=>DA w B a len cap zs M F nf cv w2.heap.size d x) (fun x x'=>x.grownBy x' (some B)) (Uy B w2.heap.size F nf cv w.heap.size d) (by kernel_rfl) (by kernel_rfl) (by simp) (da.kept (Below.refl _ _).drew) (fun k y x x' hr hf=>Uy.dE hBw hr hf) ?_ ?_;{simp only[List.take_succ_cons,List.take_zero];refine⟨?_,?_,?_,?_,?_,?_,?_,trivial⟩;{intro b x hA hfr aH;unfold Oper.wp;generalize hK:(fun(b':Act) (x':World)=>∃y,_/\_)=K;have e3:b.tmps[3]?.getD undef= .pointer (some ⟨w2.heap.size,0,none⟩):=aD (hfr 3 (by decide));have m0:=(hA.bM.2 0 _ rfl).1;have m1:=(hA.bM.2 1 _ rfl).1;simp only[execOp];go_simp;rw[←hK];exact⟨_,rfl,hA,rfl,World.grownBy.refl _ _⟩};{intro b x hA hfr aH;unfold Oper.wp;generalize hK:(fun(b':Act) (x':World)=>∃y,_/\_)=K;have e0:b.tmps[0]?.getD undef= .pointer (some ⟨B,0,none⟩):=aD (hfr 0 (by decide));simp only[execOp];go_simp;rw[←hK];exact⟨_,rfl,hA,rfl,World.grownBy.refl _ _⟩};{intro b x hA hfr aH;unfold Oper.wp;generalize hK:(fun(b':Act) (x':World)=>∃y,_/\_)=K;have e3:b.tmps[3]?.getD undef= .pointer (some ⟨w2.heap.size,0,none⟩):=aD (hfr 3 (by decide));simp only[execOp];go_simp;rw[←hK];exact⟨_,rfl,hA,rfl,World.grownBy.refl _ _⟩};{intro b x hA hfr aH;unfold Oper.wp;generalize hK:(fun(b':Act) (x':World)=>∃y,_/\_)=K;have e14:b.tmps[14]?.getD undef= .pointer (some ⟨w2.heap.size,0,none⟩):=aD (aH 2 (by kernel_rfl));have m0:=(hA.bM.2 0 _ rfl).1;simp only[execOp];go_simp;rw[←hK];exact⟨_,rfl,hA,rfl,World.grownBy.refl _ _⟩};{intro b x hA hfr aH;unfold Oper.wp;generalize hK:(fun(b':Act) (x':World)=>∃y,_/\_)=K;have e15:b.tmps[15]?.getD undef= .slice (some ⟨F,0,none⟩) nf cv:=aD (aH 3 (by kernel_rfl));simp only[execOp];go_simp;rw[←hK];exact⟨_,rfl,hA,rfl,World.grownBy.refl _ _⟩};{intro b x hA hfr aH;unfold Oper.wp;generalize hK:(fun(b':Act) (x':World)=>∃y,_/\_)=K;have e13:b.tmps[13]?.getD undef= .pointer (some ⟨B,0,none⟩):=aD (aH 1 (by kernel_rfl));have e16:b.tmps[16]?.getD undef= .int .i64 nf:=aD (aH 4 (by kernel_rfl));simp only[execOp];go_simp;refine(aM B a len cap zs nf x hA.dr.1).mono ?_;rintro e w' ⟨y,rfl,y0,ym,y1,hd⟩;rw[←hK];exact⟨_,rfl,hA.drawn hd,⟨y,rfl⟩,hd.2⟩};intro b x hA hfr aH;unfold Oper.wp;generalize hK:(fun(b':Act) (x':World)=>∃y,_/\_)=K;have e12:b.tmps[12]?.getD undef= .agg #[.slice (some ⟨F,0,none⟩) nf cv, .string d]:=aD (aH 0 (by kernel_rfl));obtain⟨p,q1⟩:=aH 5 (by kernel_rfl);have e17:b.tmps[17]?.getD undef= .int .i64 p:=by{simpa[Act.eval]using q1};obtain⟨fs,hfl⟩:=QO hA.fd hA.ix.2.2.2.1 hA.nb;simp only[execOp];go_simp;refine(xu (some ⟨F,0,none⟩) nf cv fs d (by simp only[maxLen];omega) p x hfl).mono ?_;rintro e w' ⟨v,rfl,hol,hBl⟩;rw[←hK];exact⟨_,rfl,hA.kept hBl,⟨_,hol.mono hA.dr.2.size⟩,⟨hBl.os,hBl.tape,hBl.output,hBl.size,fun k hk _=>hBl.block k hk⟩⟩};intro b x hA hF hb;obtain⟨ls,e18⟩:=hF 6 (by decide);obtain⟨z12,e12⟩:∃z,b.eval (.tmp 12)=z:=⟨_,rfl⟩;obtain⟨z13,e13⟩:∃z,b.eval (.tmp 13)=z:=⟨_,rfl⟩;obtain⟨z14,e14⟩:∃z,b.eval (.tmp 14)=z:=⟨_,rfl⟩;obtain⟨z15,e15⟩:∃z,b.eval (.tmp 15)=z:=⟨_,rfl⟩;obtain⟨z16,e16⟩:∃z,b.eval (.tmp 16)=z:=⟨_,rfl⟩;obtain⟨z17,e17⟩:∃z,b.eval (.tmp 17)=z:=⟨_,rfl⟩;obtain⟨v,ev⟩:∃z,b.eval (.tmp 18)=z:=⟨_,rfl⟩;have hol:ni x w.heap.size v ls:=by{rw[←ev];exact e18};simp only[List.foldl,e12,e13,e14,e15,e16,e17,ev]at hb;have HD:=ae (ak hol hA.dr);obtain⟨g,c,hv,-⟩:=hol.LL;subst hv;clear hF e12 e13 e14 e15 e16 e17 e18 ev hol hA da;subst hb;simp only[Act.put,List.setIfInBounds_toArray,List.set_cons_succ,List.set_cons_zero,List.drop_succ_cons,List.drop_zero];go_wp2;go_ret;exact⟨_,ls,rfl,HD.out.1,HD.out.2⟩};go_wp2_with fail;refine(aM B a len cap zs 12 _ hd1.1).mono ?_;rintro e w2 ⟨x,rfl,hx0,hx1,hx2,hd2⟩;have hx3:x<12:=by{omega};have hd3:=hd1.andThen hd2;obtain⟨m,rfl⟩:∃m:Nat,x=m:=⟨x.toNat,by omega⟩;have h0:KL w B a len cap zs w2.heap.size 0 0 (w2.alloc (.cells #[] 109)):=⟨[],[],rfl,rfl,⟨rfl, .inr ⟨w2.heap.size,0,#[],rfl,hd3.2.size,World.alloc_heap_new w2 _,Nat.le_refl _,by simp[maxLen],rfl,rfl⟩⟩,fun j hj=>by omega,hd3.alloc _,hBw⟩;clear hd1 hd2 hd3 hx0 hx1 hx2;go_wp2;(try rw[show(1+(m:Int))=(m:Int)+1 by omega]);go_loopw [5,6] (fun v i wr=>∃(k g c:Nat),i= .int .i64 k/\k<=m+1/\v= .slice (some ⟨g,0,none⟩) k c/\KL w B a len cap zs g c k wr) (fun _ i _=>m+1-(intOf i).toNat);(case atStart=>exact⟨0,_,_,rfl,by omega,rfl,h0⟩);case round=>obtain⟨k,g,c,rfl,hk,rfl,h⟩:=hrel;clear h0;by_cases hlt:k<m+1;{have fI:(k:Int)<(m:Int)+1:=by{omega};go_wp2_with fail;refine(tq B a len cap zs ((m:Int)+1) _ h.dr.1).mono ?_;rintro e w3 ⟨⟨xk,xd,xa,xb,xn,xl⟩,vl,rfl,hxl,ho,hd⟩;dsimp only at hxl ho ⊢;have ho2:=ho.mono h.dr.2.size;replace h:=h.drawn hd;obtain⟨ad,cv,hvs,-⟩:=ho.slice;subst hvs;have HK:=ae h;obtain⟨vs,ls,k1,k2,k3,k4,k5,k6⟩:=h;have HRW:=ae (aO k3 (aB w3 (.cells #[.int .i64 xk, .int .i64 xd, .int .i64 xa, .int .i64 xb, .int .i64 xn, .slice ad xl.length cv] 109)));have HR:=ae (ak k1 (ak k2 (ak k3 (ak k4 ho2))));have hsz:=k5.2.size;clear hd ho ho2 k1 k2 k3 k4 k5 k6;go_wp2_with(at_builtin;refine wpList_append_own _ rfl _ _ 67 rfl w.heap.size 109 i0 (.agg #[.int .i64 0, .int .i64 0, .int .i64 0, .int .i64 0, .int .i64 0, .slice none 0 0]) 6 64 Tryz.underlying67 hi hz0 hz1 hz2 rfl (by decide) _ _ _ rfl HRW.out ⟨w3.heap.size,0,none⟩ 1 1 [.int .i64 xk, .int .i64 xd, .int .i64 xa, .int .i64 xb, .int .i64 xn, .slice ad xl.length cv] rfl rfl (vX w3 _ _ _ _ _ _ _ _ w3.heap.size rfl (fun i=>rfl)) (by simp[Value.oneCell']) (by simp only[maxLen];omega) (by omega) (by simp;omega) ?_;intro v' wA hown' hgrow _;obtain⟨g',cap',rfl⟩:=ownsRow_succ hown');go_roundw;(case rel=>obtain⟨k1,k2,k3,k4,ho2⟩:=HR.out;exact⟨k+1,g',cap',by simp,by omega,rfl,HK.out.app (x:=⟨xk,xd,xa,xb,xn,xl⟩) ho2 vs (fun _ _=>trivial) hgrow k3 k2 ls k1 k4 hown'⟩);case measure=>simp[intOf];omega};have hke:k=m+1:=by{omega};subst hke;have fI:¬((m:Int)+1<(m:Int)+1):=by{omega};go_wp2_with fail;refine(eD B a len cap zs 8 _ h.dr.1).mono ?_;rintro e w4 ⟨o1,rfl,hd⟩;(try dsimp only);replace h:=h.drawn hd;clear hd hlt;cases o1;{go_wp2_with fail;refine(aM B a len cap zs 8 _ h.dr.1).mono ?_;rintro e w5 ⟨y8,rfl,hy0,hy1,hy2,hd⟩;(try dsimp only);replace h:=h.drawn hd;clear hd hy0 hy1 hy2;obtain⟨⟨p0,p1,p2,p3,p4,u,c0,c1,c2,c3,c4,c5⟩,f0,f1,f2,f3,f4,f5,hgl,hnc⟩:=h.at (k:=m) (by omega);have HN:=ae (h.set (k:=m) (vl:= .slice none 0 0) ⟨10,0,y8,0,0,[]⟩ (by omega) (OI.nil _ _));clear h;dsimp only at HN;go_wp2_with fail;have h:=HN.out;clear HN;clear c0 c1 c2 c3 c4 c5 f0 f1 f2 f3 f4 f5 hgl hnc;refine(eD B a len cap zs 12 _ h.dr.1).mono ?_;rintro e Y0 ⟨o2,rfl,hd⟩;(try dsimp only);replace h:=h.drawn hd;clear hd;cases o2;{have HN:=ae h;clear h;go_wp2;go_ret;obtain⟨ls,hol,hdd⟩:=HN.out.Z8;exact⟨_,ls,rfl,hol,hdd⟩};go_wp2_with fail;refine(aM B a len cap zs ((m:Int)+1) _ h.dr.1).mono ?_;rintro e Y1 ⟨y,rfl,hy0,hy1,hy2,hd⟩;(try dsimp only);replace h:=h.drawn hd;have hy3:y<(m:Int)+1:=by{omega};clear hd hy2 hy1;obtain⟨j,rfl⟩:∃j:Nat,y=j:=⟨y.toNat,by omega⟩;go_wp2_with fail;refine(nH B a len cap zs _ h.dr.1).mono ?_;rintro e Y2 ⟨⟨xk,xd,xa,xb,xn,xl⟩,vl,rfl,hxl,ho,hd⟩;dsimp only at hxl ho ⊢;have ho2:=ho.mono h.dr.2.size;replace h:=h.drawn hd;obtain⟨ad,cv,hvs,-⟩:=ho.slice;subst hvs;clear hd ho;obtain⟨⟨p0,p1,p2,p3,p4,u,c0,c1,c2,c3,c4,c5⟩,f0,f1,f2,f3,f4,f5,hgl,hnc⟩:=h.at (k:=j) (by omega);have HN:=ae (h.set (k:=j) (vl:= .slice ad xl.length cv) ⟨xk,xd,xa,xb,xn,xl⟩ (by omega) ho2);clear h;dsimp only at HN;clear ho2;go_wp2;go_ret;obtain⟨ls,hol,hdd⟩:=HN.out.Z8;exact⟨_,ls,rfl,hol,hdd⟩};go_wp2_with fail;refine(eD B a len cap zs 12 _ h.dr.1).mono ?_;rintro e Y0 ⟨o2,rfl,hd⟩;(try dsimp only);replace h:=h.drawn hd;clear hd;cases o2;{have HN:=ae h;clear h;go_wp2;go_ret;obtain⟨ls,hol,hdd⟩:=HN.out.Z8;exact⟨_,ls,rfl,hol,hdd⟩};go_wp2_with fail;refine(aM B a len cap zs ((m:Int)+1) _ h.dr.1).mono ?_;rintro e Y1 ⟨y,rfl,hy0,hy1,hy2,hd⟩;(try dsimp only);replace h:=h.drawn hd;have hy3:y<(m:Int)+1:=by{omega};clear hd hy2 hy1;obtain⟨j,rfl⟩:∃j:Nat,y=j:=⟨y.toNat,by omega⟩;go_wp2_with fail;refine(nH B a len cap zs _ h.dr.1).mono ?_;rintro e Y2 ⟨⟨xk,xd,xa,xb,xn,xl⟩,vl,rfl,hxl,ho,hd⟩;dsimp only at hxl ho ⊢;have ho2:=ho.mono h.dr.2.size;replace h:=h.drawn hd;obtain⟨ad,cv,hvs,-⟩:=ho.slice;subst hvs;clear hd ho;obtain⟨⟨p0,p1,p2,p3,p4,u,c0,c1,c2,c3,c4,c5⟩,f0,f1,f2,f3,f4,f5,hgl,hnc⟩:=h.at (k:=j) (by omega);have HN:=ae (h.set (k:=j) (vl:= .slice ad xl.length cv) ⟨xk,xd,xa,xb,xn,xl⟩ (by omega) ho2);clear h;dsimp only at HN;clear ho2;go_wp2;go_ret;obtain⟨ls,hol,hdd⟩:=HN.out.Z8;exact⟨_,ls,rfl,hol,hdd⟩
theorem ni.off {W W':World}{n₀ B:Nat}{v:Value}{fs:List Ln}(h:ni W n₀ v fs)(hg:W.grownBy W' (some B))(hB:B<n₀):ni W' n₀ v fs:=by obtain⟨g,cap,vs,e,h1,h2⟩:=h;subst e;have hlt:=World.ownsRow.lt h1 g rfl;exact⟨g,cap,vs,rfl,h1.kept hg (.inr (by simp only[Value.ownBlock,ne_eq,af];omega)),h2.other hg hB⟩
theorem RR.off {W W':World}{n₀ g n cc B:Nat}{ws:List Value}{iD:List (List Ln)}(h:RR W n₀ g n cc ws iD)(hg:W.grownBy W' (some B))(hB:B<n₀):RR W' n₀ g n cc ws iD:=by have hlt:=World.ownsRow.lt h.1 g rfl;exact⟨h.1.kept hg (.inr (by simp only[Value.ownBlock,ne_eq,af];omega)),h.2.1,h.2.2.1,fun j hj=>(h.2.2.2 j hj).off hg hB⟩
theorem RR.max {W:World}{n₀ g n cc:Nat}{ws:List Value}{iD:List (List Ln)}(h:RR W n₀ g n cc ws iD):n<=cc/\cc<=maxLen:=by rcases h.1.2 with⟨e,-⟩|⟨g',cap',cur,e,hb,hc,hn,hm,-⟩;{cases e};cases e;exact⟨hn,hm⟩
theorem RR.Z6 {W:World}{n₀ g n cc:Nat}{ws:List Value}{iD:List (List Ln)}(h:RR W n₀ g n cc ws iD):Bu W (some ⟨g,0,none⟩) n iD:=by have hm:=h.max;have hlt:=World.ownsRow.lt h.1 g rfl;refine⟨h.2.2.1,by omega, .inr ⟨g,0,rfl,hlt.2,fun k hk=>?_⟩⟩;have hk2:k<n:=by{rw[←h.2.2.1];exact hk};have hc:=World.ownsRow.cellAt h.1 k (by omega);obtain⟨gl,cl,e,h0,h1,h2⟩:=(h.2.2.2 k hk2).LL;refine⟨_,_,cl,?_,h2⟩;rw[Nat.zero_add];have e2:ws[k]?=some (ws.getD k undef):=by{rw[ah,ai (show k<ws.length by rw[h.2.1];exact hk2)];rfl};rw[e2,e]at hc;exact hc
theorem DL.off {w w':World}{N B:Nat}{v:Value}{xs:List Int}(h:DL w N v xs)(hB:Below w.heap.size w w'):DL w' N v xs:=by obtain⟨g,off,n,c,rfl,h1,h2,h3⟩:=h;exact⟨g,off,n,c,rfl,h1,h2,h3.kept hB⟩
section
structure LM (w:World)(R M D:Nat)(d:ByteArray)(B:Nat)(a:Option Addr)(len cap:Nat)(zs:List Int)(F nf cv:Nat)(W:World):Prop where
 ix:w.heap.size<=R/\R<M/\M<F/\F<D/\D<W.heap.size/\B<w.heap.size
 nb:0<nf/\nf<=3/\nf<=cv/\cv<=maxLen
 bR:bq W R [.slice none 0 0, .string ⟨#[]⟩]
 bM:bq W D [.slice (some ⟨F,0,none⟩) nf cv, .string d]
 fd:∀j,j<nf->zw W M F j True
 fz:∀k,W.frozen? ⟨F,k,none⟩=false
 dr:aT w W B a len cap zs
variable {w W W' : World} {R M D : Nat} {d : ByteArray} {B : Nat} {a : Option Addr} {len cap : Nat} {zs : List Int} {F nf cv : Nat}
theorem LM.kb (h:LM w R M D d B a len cap zs F nf cv W)(hk:KB W.heap.size B W W')(hc:jB W' B a len cap zs):LM w R M D d B a len cap zs F nf cv W':=by have ix:=h.ix;have hs:=hk.size;have box:∀{b:Nat}{vs:List Value},bq W b vs->b≠B->bq W' b vs:=fun{b vs} hb hne=>by{have e:=hk.block b hb.1 hne;refine⟨by have:=hb.1;omega,fun i x hx=>?_⟩;obtain⟨h1,h2⟩:=hb.2 i x hx;exact⟨(World.cell?_of_block e).trans h1,(World.frozen?_of_block e).trans h2⟩};exact⟨by omega,h.nb,box h.bR (by omega),box h.bM (by omega),fun j hj=>(h.fd j hj).of hs (fun k a b=>hk.block k a (by omega)) (by omega) (by omega),fun k=>(World.frozen?_of_block (hk.block F (by omega) (by omega))).trans (h.fz k),hc,⟨hk.os.trans h.dr.2.os,hk.tape.trans h.dr.2.tape,hk.output.trans h.dr.2.output,Nat.le_trans h.dr.2.size hs,fun k h1 h2=>(hk.block k (by have:=h.dr.2.size;omega) (fun e=>h2 (by rw[e]))).trans (h.dr.2.block k h1 h2)⟩⟩
theorem LM.drawn (h:LM w R M D d B a len cap zs F nf cv W)(hd:aT W W' B a len cap zs):LM w R M D d B a len cap zs F nf cv W':=
 h.kb ⟨hd.2.os,hd.2.tape,hd.2.output,hd.2.size,fun k h1 h2=>hd.2.block k h1 (by simpa using h2)⟩ hd.1
theorem LM.kept (h:LM w R M D d B a len cap zs F nf cv W)(hB:Below W.heap.size W W'):LM w R M D d B a len cap zs F nf cv W':=
 h.kb (KB.below hB (Nat.le_refl _)) (h.dr.1.kept (row:=none) ⟨hB.os,hB.tape,hB.output,hB.size,fun k hk _=>hB.block k hk⟩ (by simp) (.inr (by simp)))
def FDs (W:World)(M F nf:Nat):Prop:=∀j,j<nf->zw W M F j False
def FM (w:World)(B:Nat)(a:Option Addr)(len cap:Nat)(zs:List Int)(F nf cv:Nat)(W:World):Prop:=
 ∃M,w.heap.size<=M/\M<F/\F<W.heap.size/\(0<nf/\nf<=3/\nf<=cv/\cv<=maxLen)/\FDs W M F nf/\aT w W B a len cap zs
theorem zw.iJ {j:Nat}{f:Prop}(h:zw W M F j f):zw W M F j False:=by obtain⟨p,q,g,ba,bl,bc,xs,h0,h1,h2,h3,h4,h5,h6,h7⟩:=h;exact⟨p,q,g,ba,bl,bc,xs,h0,h1,h2,h3,h4,h5,h6,fun h=>h.elim⟩
structure CH (x:World)(B F j:Nat)(W:World):Prop where
 os:W.os=x.os
 tape:W.tape=x.tape
 output:W.output=x.output
 size:x.heap.size<=W.heap.size
 blk:∀k,k<x.heap.size->k≠B->k≠F->W.heap[k]?=x.heap[k]?
 cell:∀o,o≠j*4+1->o≠j*4+2->o≠j*4+3->W.cell? ⟨F,o,none⟩=x.cell? ⟨F,o,none⟩
 fz:∀o,W.frozen? ⟨F,o,none⟩=x.frozen? ⟨F,o,none⟩
theorem jB.put {W:World}(h:jB W B a len cap zs)(p:Addr)(hp:B<p.block)(v:Value):jB (W.setCell p v) B a len cap zs:=
 h.kept (aC W p v) (by simp only[ne_eq,af];omega) (h.2.1.imp_right fun hx y e e'=>by have:=hx y e;simp only[af]at e';omega)
theorem CH.kb {x:World}{j:Nat}(h:CH x B F j W)(hk:KB W.heap.size B W W')(hF:F<x.heap.size)(Zi:F≠B):CH x B F j W':=by have hs:=h.size;have e:=hk.block F (by omega) Zi;exact⟨hk.os.trans h.os,hk.tape.trans h.tape,hk.output.trans h.output,Nat.le_trans h.size hk.size,fun k h1 h2 h3=>(hk.block k (by omega) h2).trans (h.blk k h1 h2 h3),fun o h1 h2 h3=>(World.cell?_of_block e).trans (h.cell o h1 h2 h3),fun o=>(World.frozen?_of_block e).trans (h.fz o)⟩
theorem CH.drawn {x:World}{j:Nat}(h:CH x B F j W)(hd:aT W W' B a len cap zs)(hF:F<x.heap.size)(Zi:F≠B):CH x B F j W':=
 h.kb ⟨hd.2.os,hd.2.tape,hd.2.output,hd.2.size,fun k h1 h2=>hd.2.block k h1 (by simpa using h2)⟩ hF Zi
theorem CH.box {x:World}{j b:Nat}{vs:List Value}(h:CH x B F j W)(hb:bq x b vs)(h1:b≠B)(h2:b≠F):bq W b vs:=by have e:=h.blk b hb.1 h1 h2;refine⟨by have:=hb.1;have:=h.size;omega,fun i x hx=>?_⟩;obtain⟨k1,k2⟩:=hb.2 i x hx;exact⟨(World.cell?_of_block e).trans k1,(World.frozen?_of_block e).trans k2⟩
theorem BH.tail {gb off bl:Nat}{xs:List (Int×Int)}(h:BH W M F (some ⟨gb,off,none⟩) bl xs)(hb:0<bl):BH W M F (some ⟨gb,off+2,none⟩) (bl-1) (xs.drop 1):=by obtain⟨h1,h2,h3|⟨b,o,e,h4,h5,h6,h7⟩⟩:=h;{omega};cases e;refine⟨by rw[List.length_drop,h1],by omega, .inr ⟨gb,off+2,rfl,h4,h5,h6,fun j hj=>?_⟩⟩;have:=h7 (j+1) (by omega);rw[show off+(j+1)*2=off+2+j*2 by omega]at this;rw[ah,List.getElem?_drop,show 1+j=j+1 by omega,←ah];exact this
theorem LM.change {x:World}{j:Nat}(h:LM w R M D d B a len cap zs F nf cv x)(hc:CH x B F j W)(mQ:jB W B a len cap zs){q g:Int}{ba:Option Addr}{bl bc:Nat}{xs:List (Int×Int)}(h1:W.cell? ⟨F,j*4+1,none⟩=some (.int .i64 q))(h2:W.cell? ⟨F,j*4+2,none⟩=some (.int .i64 g))(h3:W.cell? ⟨F,j*4+3,none⟩=some (.slice ba bl bc))(h4:BH W M F ba bl xs)(v1 v2:Value):FM w B a len cap zs F nf cv ((W.setCell ⟨R,0,none⟩ v1).setCell ⟨R,1,none⟩ v2):=by have ix:=h.ix;have hs:=hc.size;have hdw:aT w W B a len cap zs:=⟨mQ,hc.os.trans h.dr.2.os,hc.tape.trans h.dr.2.tape,hc.output.trans h.dr.2.output,Nat.le_trans h.dr.2.size hc.size,fun k hk hne=>(hc.blk k (by have:=h.dr.2.size;omega) (fun e=>hne (by rw[e])) (by omega)).trans (h.dr.2.block k hk hne)⟩;refine⟨M,by omega,by omega,by simp[World.setCell];omega,h.nb,fun i hi=>?_,(hdw.put ix.2.2.2.2.2 ⟨R,0,none⟩ (by simp only;omega) _).put ix.2.2.2.2.2 ⟨R,1,none⟩ (by simp only;omega) _⟩;have hW:zw W M F i False:=by{obtain⟨p',q',g',ba',bl',bc',xs',k0,k1,k2,k3,k4,k5,k6,-⟩:=h.fd i hi;by_cases e:i=j;{subst e;exact⟨p',q,g,ba,bl,bc,xs,k0,k1,(hc.cell _ (by omega) (by omega) (by omega)).trans k2,h1,h2,h3,h4,fun h=>h.elim⟩};exact⟨p',q',g',ba',bl',bc',xs',k0,k1,(hc.cell _ (by omega) (by omega) (by omega)).trans k2,(hc.cell _ (by omega) (by omega) (by omega)).trans k3,(hc.cell _ (by omega) (by omega) (by omega)).trans k4,(hc.cell _ (by omega) (by omega) (by omega)).trans k5,k6.of hc.size (fun k a b c=>hc.blk k a (by omega) c),fun h=>h.elim⟩};exact(hW.set ⟨R,0,none⟩ _ (by simp only;omega) (by omega)).set ⟨R,1,none⟩ _ (by simp only;omega) (by omega)
theorem LM.fin (h:LM w R M D d B a len cap zs F nf cv W)(v1 v2:Value):FM w B a len cap zs F nf cv ((W.setCell ⟨R,0,none⟩ v1).setCell ⟨R,1,none⟩ v2):=by have ix:=h.ix;exact⟨M,by omega,by omega,by simp[World.setCell];omega,h.nb,fun j hj=>(((h.fd j hj).iJ).set ⟨R,0,none⟩ _ (by simp only;omega) (by omega)).set ⟨R,1,none⟩ _ (by simp only;omega) (by omega),(h.dr.put ix.2.2.2.2.2 ⟨R,0,none⟩ (by simp only;omega) _).put ix.2.2.2.2.2 ⟨R,1,none⟩ (by simp only;omega) _⟩
def Z9 (B F D nf cv:Nat):Nat->Value->World->Prop
 |0,y,_=>y= .pointer (some ⟨D,0,none⟩)
 |1,y,_=>y= .slice (some ⟨F,0,none⟩) nf cv
 |2,y,_=>y= .pointer (some ⟨B,0,none⟩)
 |3,y,_=>y= .pointer (some ⟨D,0,none⟩)
 |4,y,_=>y= .slice (some ⟨F,0,none⟩) nf cv
 |5,y,_=>y= .int .i64 nf
 |6,y,_=>∃j:Nat,j<nf/\y= .int .i64 j
 |7,y,_=>∃j:Nat,j<nf/\y= .pointer (some ⟨F,j*4,none⟩)
 |_,_,_=>True
theorem Z9.dE {B F D nf cv k:Nat}{y:Value}{x x':World}(hf:Z9 B F D nf cv k y x):Z9 B F D nf cv k y x':=by unfold Z9 at hf ⊢;split at hf;all_goals exact hf
def Z7 (B F j gb bl cb:Nat):Nat->Value->World->Prop
 |0,y,_=>y= .pointer (some ⟨F,j*4,none⟩)
 |1,y,_=>y= .pointer (some ⟨F,j*4,none⟩)
 |2,y,_=>y= .pointer (some ⟨F,j*4+3,none⟩)
 |3,y,_=>y= .slice (some ⟨gb,0,none⟩) bl cb
 |4,y,_=>y= .pointer (some ⟨B,0,none⟩)
 |5,y,_=>y= .pointer (some ⟨F,j*4,none⟩)
 |6,y,_=>y= .pointer (some ⟨F,j*4,none⟩)
 |7,y,_=>y= .pointer (some ⟨F,j*4+3,none⟩)
 |8,y,_=>y= .slice (some ⟨gb,0,none⟩) bl cb
 |9,y,_=>y= .int .i64 bl
 |10,y,_=>∃i:Nat,i<bl/\y= .int .i64 i
 |11,y,_=>y= .pointer (some ⟨B,0,none⟩)
 |12,y,_=>∃op z:Int,y= .agg #[.int .i64 op, .int .i64 z]
 |_,_,_=>True
theorem Z7.dE {B F j gb bl cb k:Nat}{y:Value}{x x':World}(hf:Z7 B F j gb bl cb k y x):Z7 B F j gb bl cb k y x':=by unfold Z7 at hf ⊢;split at hf;all_goals exact hf
end
theorem FDs.fl {W:World}{M F nf:Nat}(h:FDs W M F nf)(hF:F<W.heap.size)(hn:nf<=3):∃fs,FL W (some ⟨F,0,none⟩) nf fs:=by
 have H:∀m,m<=nf->∃fs:List Fn,fs.length=m/\∀j,j<m->W.cell? ⟨F,0+j*4,none⟩=some (.int .i64 (fs.getD j .z).a)/\W.cell? ⟨F,0+j*4+1,none⟩=some (.int .i64 (fs.getD j .z).l)/\W.cell? ⟨F,0+j*4+2,none⟩=some (.int .i64 (fs.getD j .z).g)/\
     ∃ba bl bc,W.cell? ⟨F,0+j*4+3,none⟩=some (.slice ba bl bc)/\SL W ba bl (fs.getD j .z).b:=by
   intro m
   induction m with
   |zero=>exact fun _=>⟨[],rfl,fun j hj=>by omega⟩
   | succ m ih=>
     intro hm
     obtain⟨fs,hl,hx⟩:=ih (by omega)
     obtain⟨p,q,g,ba,bl,bc,xs,-,-,k0,k1,k2,k3,k4,-⟩:=h m (by omega)
     refine⟨fs++[(⟨p,q,g,xs⟩:Fn)],by simp[hl],fun j hj=>?_⟩
     by_cases e:j<m
     · have e1:(fs++[(⟨p,q,g,xs⟩:Fn)]).getD j .z=fs.getD j .z:=by rw[ah,ah,List.getElem?_append_left (by omega)]
       rw[e1]
       exact hx j e
     · have e':j=m:=by omega
       subst e'
       have e1:(fs++[(⟨p,q,g,xs⟩:Fn)]).getD j .z=⟨p,q,g,xs⟩:=by
         rw[ah,List.getElem?_append_right (by omega),hl,Nat.sub_self]
         rfl
       rw[e1]
       simp only[Nat.zero_add]
       exact⟨k0,k1,k2,ba,bl,bc,k3,k4.sl⟩
 obtain⟨fs,hl,hx⟩:=H nf (Nat.le_refl _)
 exact⟨fs,hl,by simp only[maxLen];omega, .inr ⟨F,0,rfl,hF,hx⟩⟩
theorem bG {n:Nat}{w w1 w2:World}{B:Nat}{a:Option Addr}{len cap:Nat}{zs:List Int}(h:Below n w w1)(hd:aT w1 w2 B a len cap zs)(hB:n<=B)(hn:n<=w1.heap.size):Below n w w2:=
 ⟨hd.2.os.trans h.os,hd.2.tape.trans h.tape,hd.2.output.trans h.output,Nat.le_trans h.size hd.2.size,fun k hk=>(hd.2.block k (by omega) (by simp only[ne_eq,af];omega)).trans (h.block k hk)⟩
section
open Go.RowKit
variable {P : Program} {ops : Array Oper} {md : Region.Mode} {Q : Exit → Act → World → Prop} {n : Nat}
def IJ (P:Program)(Q:Exit->Act->World->Prop)(a:Act)(ds:List Nat)(m:Nat)(A:Bool->World->Prop)(F:Nat->Value->World->Prop)(k:Nat)(o:Oper):Prop:=
 ∀ (t:Bool) (b:Act) (x:World),A t x->(k=m->t=false)->((o.after.any fun e=>Region.binds .any e&&e.on==m)=true->t=true)->(∀t,t∉ds->b.eval (.tmp t)=a.eval (.tmp t))->b.defers=a.defers->(∀j,(o.after.any fun e=>Region.binds .any e&&e.on==j)=true->F j (b.eval (.tmp (ds.getD j 0))) x)->
   o.wp P b x (fun b' x'=>∃y,b'=b.put o.dst y/\A (t||decide (k=m)) x'/\F k y x'/\∀i z,F i z x->F i z x') Q
def mZ (P:Program)(Q:Exit->Act->World->Prop)(a:Act)(ds:List Nat)(m:Nat)(A:Bool->World->Prop)(F:Nat->Value->World->Prop):Nat->List Oper->Prop
 |_,[]=>True
 |k,o::r=>IJ P Q a ds m A F k o/\mZ P Q a ds m A F (k+1) r
theorem mZ.at {a:Act}{ds:List Nat}{m:Nat}{A:Bool->World->Prop}{F:Nat->Value->World->Prop}:∀{r:List Oper}{k:Nat},mZ P Q a ds m A F k r->∀i o,r[i]?=some o->IJ P Q a ds m A F (k+i) o
 |[],_,_,i,o,h=>by simp at h
 |q::r,k,h,0,o,e=>by cases e;exact h.1
 | q::r,k,h,i+1,o,e=>by
   have:=mZ.at h.2 i o (by simpa using e)
   rwa [show k+1+i=k+(i+1)by omega]at this
theorem fe {id:Nat}{a:Act}{w:World}{l:List Oper}(n:Nat)(ds:List Nat)(m:Nat)(A:Bool->World->Prop)(F:Nat->Value->World->Prop)(hm:P.follows .mixedOrders=true)(hB:(Region.noSelect l.toArray&&decide (n<l.length)&&Region.sinkB .any l.toArray n&&Region.chainB .any l.toArray n&&vU l n ds&&Region.seqB .any l.toArray (l.length-n) n (mf l.length n))=true)(hsz:∀d∈ds,d<a.tmps.size)(h0:A false w.drew)(hall:mZ P Q a ds m A F 0 (l.take n))(hend:∀b x,A (decide (m<n)) x->(∀j,j<n->F j (b.eval (.tmp (ds.getD j 0))) x)->b=ds.foldl (fun a' t=>a'.put (some t) (b.eval (.tmp t))) a->wpList P l.toArray Q (l.drop n) b x):(Code.region id l.toArray true).wp P Q a w:=by
 simp only[au,decide_eq_true_eq]at hB
 obtain⟨⟨⟨⟨⟨hsel,hn⟩,hs⟩,hc⟩,hhd⟩,hseq⟩:=hB
 have hn':n<l.toArray.size:=by simpa using hn
 simp only[vU,au,decide_eq_true_eq,List.all_eq_true,List.mem_range]at hhd
 obtain⟨⟨hdl,hnd⟩,hops⟩:=hhd
 have hop:∀i o,i<n->l.toArray[i]?=some o->o.dst=some (ds.getD i 0)/\o.guard=none/\(∀e∈o.after,Region.binds .any e=true->e.on<i)/\ds.getD i 0∈ds:=by intro i o hi ho;have h1:=hops i hi;have ho':l[i]?=some o:=by{simpa using ho};rw[ho']at h1;simp only[au,beq_iff_eq,Option.isNone_iff_eq_none,Array.all_eq_true',decide_eq_true_eq,Bool.or_eq_true,Bool.not_eq_true']at h1;have h2:ds[i]?=some (ds.getD i 0):=by{rw[ah,ai (by omega)];rfl};exact⟨by rw[h1.1.1,h2],h1.1.2,fun e he hbi=>(h1.2 e he).elim (fun h=>by rw[hbi]at h;cases h) (fun h=>h),List.mem_of_getElem? h2⟩
 have hinj:∀i j,i<n->j<n->ds.getD i 0=ds.getD j 0->i=j:=by intro i j hi hj e;rw[ah,ah,ai (by omega),ai (by omega)]at e;have e':ds[i]'(by omega)=ds[j]'(by omega):=e;rcases Nat.lt_trichotomy i j with h|h|h;{exact absurd e' (List.pairwise_iff_getElem.1 hnd i j (by omega) (by omega) h)};{exact h};exact absurd e'.symm (List.pairwise_iff_getElem.1 hnd j i (by omega) (by omega) h)
 let I:Array Bool->Act->World->Prop:=fun q b x=>A (q.getD m false&&decide (m<n)) x/\b.defers=a.defers/\b.tmps.size=a.tmps.size/\(∀t,t∉ds->b.eval (.tmp t)=a.eval (.tmp t))/\∀j,j<n->q.getD j false=true->F j (b.eval (.tmp (ds.getD j 0))) x
 have inv:HeadInv .any l.toArray n (Array.replicate l.toArray.size false):=by refine⟨by simp,fun j oj _ hl=>?_,fun t _ ht=>getD_in (by simpa using ht) (getD_replicate_false _ _)⟩;rw[getD_replicate_false]at hl;cases hl
 have hu:tH n (Array.replicate l.toArray.size false)=n:=by
  have:∀m,m<=l.toArray.size->tH m (Array.replicate l.toArray.size false)=m:=by
   intro m
   induction m with
   |zero=>intro _;rfl
   |succ m ih=>
    intro hm
    rw[gU,ih (by omega)]
    have:(Array.replicate l.toArray.size false).getD m true=false:=getD_in (by simp at hm ⊢;omega) (getD_replicate_false _ _)
    rw[az this]
  exact this n (by omega)
 have H := pW (P:=P) (Q:=Q) (md:= .any) (l.toArray.size-n) I hs hc hn' (fun i o hi ho=>(hop i o hi ho).2.2.1)
   (fun q b x i o hq ho hi hun hafter hI=>by
     obtain⟨hA,hdf,hsize,hfr,hF⟩:=hI
     obtain⟨hd,hg,hb,hmem⟩:=hop i o hi ho
     have Dl:=hall.at i o (by rw[List.getElem?_take_of_lt hi];simpa using ho)
     rw[Nat.zero_add]at Dl
     have hwp:=Dl (q.getD m false&&decide (m<n)) b x hA (fun e=>by
       subst e
       have h3:i<q.size:=by rw[hq.size];omega
       simp[h3]at hun ⊢
       intro h4
       rw[hun]at h4
       cases h4) (fun hj=>by
       obtain⟨e,he,hbe⟩:=Array.any_eq_true'.1 hj
       simp only[au,beq_iff_eq]at hbe
       have h1:=hafter e he hbe.1
       have h2:=hb e he hbe.1
       rw[hbe.2]at h1 h2
       rw[h1]
       simpa using(show m<n by omega)) hfr hdf (fun j hj=>by
       obtain⟨e,he,hbe⟩:=Array.any_eq_true'.1 hj
       simp only[au,beq_iff_eq]at hbe
       have h1:=hafter e he hbe.1
       have h2:=hb e he hbe.1
       rw[hbe.2]at h1 h2
       exact hF j (by omega) h1)
     unfold wpOp
     simp only[ho]
     have hw:Region.wanted o (yielded l.toArray b.tmps)=true:=by simp[Region.wanted,hg]
     rw[az hw]
     refine .inl (Oper.wp_mono (fun b' x' h'=>?_) hwp)
     obtain⟨y,rfl,hA',hF',FY⟩:=h'
     have hA2:A ((q.setIfInBounds i true).getD m false&&decide (m<n)) x':=by
       by_cases e:i=m
       · subst e
         have h3:i<q.size:=by rw[hq.size];omega
         have h4:(q.setIfInBounds i true).getD i false=true:=by simp[h3]
         rw[h4]
         simpa[hi]using hA'
       · rw[getD_set_ne false e]
         simpa[e]using hA'
     have hds:ds.getD i 0<b.tmps.size:=by rw[hsize];exact hsz _ hmem
     rw[hd]
     refine⟨hA2,hdf,by simpa[Act.put]using hsize,fun t ht=>?_,fun j hj hq'=>?_⟩
     · rw[gY _ _ _ _ hds,ax (fun e=>ht (by rw[←e];exact hmem))]
       exact hfr t ht
     · rw[gY _ _ _ _ hds]
       by_cases e:i=j
       · subst e
         rw[az rfl]
         exact hF'
       · rw[ax (fun e2=>e (hinj i j hi hj e2))]
         rw[getD_set_ne false e]at hq'
         exact FY j _ (hF j hj hq'))
   (fun q b x hq j6 hI=>by
     obtain⟨hA,hdf,hsize,hfr,hF⟩:=hI
     have UN:q=mf l.length n:=by
       apply Array.ext
       · rw[hq.size];simp[mf];omega
       · intro i h1 h2
         have e1:q.getD i true=q[i]:=by simp[h1]
         have e2:q.getD i false=q[i]:=by simp[h1]
         by_cases e:i<n
         · have:=j6 i e
           rw[e1]at this
           rw[this]
           simp only[mf,List.getElem_toArray]
           rw[List.getElem_append_left (by simpa using e)]
           simp
         · have h3:i<l.toArray.size:=by rw[←hq.size];exact h1
           have:=hq.tail i (by omega) h3
           rw[e1]at this
           rw[this]
           simp only[mf,List.getElem_toArray]
           rw[List.getElem_append_right (by simpa using e)]
           simp
     have hF2:∀j,j<n->F j (b.eval (.tmp (ds.getD j 0))) x:=fun j hj=>hF j hj (by
       have:=j6 j hj
       have h1:j<q.size:=by rw[hq.size];omega
       simp[h1]at this ⊢
       exact this)
     have hbf:b=ds.foldl (fun a' t=>a'.put (some t) (b.eval (.tmp t))) a:=by
       obtain⟨s1,s2,s3⟩:=jI (fun t=>b.eval (.tmp t)) ds a
       have ht:b.tmps=(ds.foldl (fun a' t=>a'.put (some t) (b.eval (.tmp t))) a).tmps:=by
         apply Array.ext_getElem?
         intro t
         rw[s3 t]
         by_cases e:t<a.tmps.size
         · have eb:b.tmps[t]?=some (b.eval (.tmp t)):=by
             have h1:t<b.tmps.size:=by omega
             simp[Act.eval,h1]
           by_cases e2:t∈ds
           · rw[az ⟨e2,e⟩,eb]
           · rw[ax (fun h=>e2 h.1),eb,hfr t e2]
             simp[Act.eval,e]
         · rw[ax (fun h=>e h.2),Array.getElem?_eq_none (by omega),Array.getElem?_eq_none (by omega)]
       have e3:∀c d:Act,c.tmps=d.tmps->c.defers=d.defers->c=d:=by
         rintro⟨c1,c2⟩ ⟨d1,d2⟩ h1 h2
         simp only at h1 h2
         rw[h1,h2]
       exact e3 _ _ ht (hdf.trans s2.symm)
     have hA3:A (decide (m<n)) x:=by
       by_cases e:m<n
       · have h1:=j6 m e
         have h2:m<q.size:=by rw[hq.size];omega
         have h3:q.getD m false=true:=by simp[h2]at h1 ⊢;exact h1
         rw[h3,Bool.true_and]at hA
         exact hA
       · simp[e]at hA ⊢
         exact hA
     have:=hend b x hA3 hF2 hbf
     rw[UN]
     have e2:(l.drop n).length=l.toArray.size-n:=by rw[List.length_drop];simp
     have R2:=wpAny_of_seq (md:= .any) (Q':=Q) (l.drop n) n (mf l.length n) b x (fun j=>by simp[List.getElem?_drop]) (by rw[e2];simpa using hseq) this
     rwa [e2]at R2)
   n _ a w.drew inv hu ⟨by rw[getD_replicate_false,Bool.false_and];exact h0,rfl,rfl,fun t _=>rfl,fun j hj h=>by rw[getD_replicate_false]at h;cases h⟩
 rw[show n+(l.toArray.size-n)=l.toArray.size by omega]at H
 exact wp_region_any hm H
end
section
open Go.RowKit
variable {P : Program} {ops : Array Oper} {md : Region.Mode} {Q : Exit → Act → World → Prop} {n : Nat}
theorem wpAny_all (I:Array Bool->Act->World->Prop)(hback:∀i o,ops[i]?=some o->∀e∈o.after,Region.binds md e=true->e.on<i)(hstep:∀l b x i o,l.size=ops.size->ops[i]?=some o->i<ops.size->l.getD i true=false->(∀e∈o.after,Region.binds md e=true->l.getD e.on false=true)->I l b x->wpOp P ops Q i (fun b' x'=>I (l.setIfInBounds i true) b' x') b x)(hend:∀l b x,l.size=ops.size->(∀i,i<ops.size->l.getD i true=true)->I l b x->Q .normal b x):∀f l b x,l.size=ops.size->tH ops.size l=f->I l b x->wpAny P md ops Q f l b x:=by
 intro f
 induction f with
 |zero=>
  intro l b x hsz hu hI
  refine⟨?_,hend l b x hsz (fun i hi=>oG hu i hi) hI⟩
  rcases hr:Region.ready md ops l with _|⟨j,r⟩
  · rfl
  · have hj:j∈Region.ready md ops l:=by{rw[hr];simp};obtain⟨h1,o,ho,-⟩:=mem_ready.1 hj;have hlt:j<ops.size:=(Array.getElem?_eq_some_iff.1 ho).1;rw[oG hu j hlt]at h1;cases h1
 |succ f ih=>
  intro l b x hsz hu hI
  obtain⟨i,hin,hun,hmin⟩:=DF (l:=l) (n:=ops.size) (by omega)
  refine⟨fun h0=>?_,fun j hj=>?_⟩
  · have ho:∃o,ops[i]?=some o:=⟨ops[i]'(by omega),Array.getElem?_eq_getElem (by omega)⟩
    obtain⟨o,ho⟩:=ho
    have:i∈Region.ready md ops l:=mem_ready.2 ⟨hun,o,ho,fun e he hbi=>by
     have h1:=hback i o ho e he hbi
     have h2:=hmin e.on h1
     have h3:e.on<l.size:=by omega
     simp[h3]at h2 ⊢
     exact h2⟩
    rw[h0]at this
    cases this
  · obtain⟨hjun,o,ho,hall⟩:=mem_ready.1 hj;have hlt:j<ops.size:=(Array.getElem?_eq_some_iff.1 ho).1;refine wpOp_mono (fun b' x' h'=>ih _ b' x' (by simpa using hsz) ?_ h') (hstep l b x j o hsz ho hlt hjun hall hI);have:=xG hjun ops.size hlt;omega
def Hy (l:List Oper)(sz s:Nat)(ds:List Nat):Bool:=
 decide (ds.length=l.length)&&ds.Nodup&&(List.range l.length).all fun i=>match l[i]? with
   |some o=>(if i=s then o.dst==none&&decide (sz<=ds.getD i 0)else o.dst==ds[i]?&&decide (ds.getD i 0<sz))&&o.guard.isNone&&o.after.all fun e=> !Region.binds .any e||decide (e.on<i)
   |none=>false
theorem rM {id:Nat}{a:Act}{w:World}{l:List Oper}(ds:List Nat)(m s:Nat)(A:Bool->World->Prop)(dI:List Value)(hm:P.follows .mixedOrders=true)(hB:Hy l a.tmps.size s ds=true)(hvs:dI.getD s undef=undef)(h0:A false w.drew)(hall:mZ P Q a ds m A (fun j y _=>y=dI.getD j undef) 0 l)(hend:∀b x,A (decide (m<l.length)) x->(∀j,j<l.length->b.eval (.tmp (ds.getD j 0))=dI.getD j undef)->b=ds.foldl (fun a' t=>a'.put (some t) (b.eval (.tmp t))) a->Q .normal b x):(Code.region id l.toArray true).wp P Q a w:=by
 simp only[Hy,au,decide_eq_true_eq,List.all_eq_true,List.mem_range]at hB
 obtain⟨⟨hdl,hnd⟩,hops⟩:=hB
 have hgd:∀i,i<l.length->ds[i]?=some (ds.getD i 0):=fun i hi=>by rw[ah,ai (by omega)];rfl
 have hop:∀i o,l.toArray[i]?=some o->((i=s->o.dst=none/\a.tmps.size<=ds.getD i 0)/\(i≠s->o.dst=some (ds.getD i 0)/\ds.getD i 0<a.tmps.size))/\o.guard=none/\(∀e∈o.after,Region.binds .any e=true->e.on<i)/\ds.getD i 0∈ds/\i<l.length:=by intro i o ho;have ho':l[i]?=some o:=by{simpa using ho};have hi:i<l.length:=(List.getElem?_eq_some_iff.1 ho').1;have h1:=hops i hi;rw[ho']at h1;simp only[au,Option.isNone_iff_eq_none,Array.all_eq_true',decide_eq_true_eq,Bool.or_eq_true,Bool.not_eq_true']at h1;obtain⟨⟨h2,h3⟩,h4⟩:=h1;refine⟨⟨fun e=>?_,fun e=>?_⟩,h3,fun e he hbi=>(h4 e he).elim (fun h=>by rw[hbi]at h;cases h) (fun h=>h),List.mem_of_getElem? (hgd i hi),hi⟩;{rw[az e]at h2;simpa using h2};rw[ax e,hgd i hi]at h2;simpa using h2
 have hinj:∀i j,i<l.length->j<l.length->ds.getD i 0=ds.getD j 0->i=j:=by intro i j hi hj e;rw[ah,ah,ai (by omega),ai (by omega)]at e;have e':ds[i]'(by omega)=ds[j]'(by omega):=e;rcases Nat.lt_trichotomy i j with h|h|h;{exact absurd e' (List.pairwise_iff_getElem.1 hnd i j (by omega) (by omega) h)};{exact h};exact absurd e'.symm (List.pairwise_iff_getElem.1 hnd j i (by omega) (by omega) h)
 let I:Array Bool->Act->World->Prop:=fun q b x=>A (q.getD m false&&decide (m<l.length)) x/\b.defers=a.defers/\b.tmps.size=a.tmps.size/\(∀t,t∉ds->b.eval (.tmp t)=a.eval (.tmp t))/\∀j,j<l.length->q.getD j false=true->b.eval (.tmp (ds.getD j 0))=dI.getD j undef
 have hsl:l.toArray.size=l.length:=by simp
 have hu:tH l.length (Array.replicate l.toArray.size false)=l.length:=by
  have:∀m,m<=l.toArray.size->tH m (Array.replicate l.toArray.size false)=m:=by
   intro m
   induction m with
   |zero=>intro _;rfl
   |succ m ih=>
    intro hm
    rw[gU,ih (by omega)]
    have:(Array.replicate l.toArray.size false).getD m true=false:=getD_in (by simp at hm ⊢;omega) (getD_replicate_false _ _)
    rw[az this]
  exact this _ (by omega)
 have H := wpAny_all (P:=P) (Q:=Q) (md:= .any) (ops:=l.toArray) I (fun i o ho=>(hop i o ho).2.2.1)
   (fun q b x i o hq ho hi hun hafter hI=>by
     obtain⟨hA,hdf,hsize,hfr,hF⟩:=hI
     obtain⟨⟨hds,hdn⟩,hg,hb,hmem,hil⟩:=hop i o ho
     have hqs:q.size=l.length:=by rw[hq,hsl]
     have Dl:=hall.at i o (by simpa using ho)
     rw[Nat.zero_add]at Dl
     have hwp:=Dl (q.getD m false&&decide (m<l.length)) b x hA (fun e=>by
       subst e
       have h3:i<q.size:=by omega
       simp[h3]at hun ⊢
       intro h4
       rw[hun]at h4
       cases h4) (fun hj=>by
       obtain⟨e,he,hbe⟩:=Array.any_eq_true'.1 hj
       simp only[au,beq_iff_eq]at hbe
       have h1:=hafter e he hbe.1
       have h2:=hb e he hbe.1
       rw[hbe.2]at h1 h2
       rw[h1]
       simpa using(show m<l.length by omega)) hfr hdf (fun j hj=>by
       obtain⟨e,he,hbe⟩:=Array.any_eq_true'.1 hj
       simp only[au,beq_iff_eq]at hbe
       have h1:=hafter e he hbe.1
       have h2:=hb e he hbe.1
       rw[hbe.2]at h1 h2
       exact hF j (by omega) h1)
     unfold wpOp
     simp only[ho]
     have hw:Region.wanted o (yielded l.toArray b.tmps)=true:=by simp[Region.wanted,hg]
     rw[az hw]
     refine .inl (Oper.wp_mono (fun b' x' h'=>?_) hwp)
     obtain⟨y,rfl,hA',hF',FY⟩:=h'
     have hA2:A ((q.setIfInBounds i true).getD m false&&decide (m<l.length)) x':=by
       by_cases e:i=m
       · subst e
         have h3:i<q.size:=by omega
         have h4:(q.setIfInBounds i true).getD i false=true:=by simp[h3]
         rw[h4]
         simpa[hil]using hA'
       · rw[getD_set_ne false e]
         simpa[e]using hA'
     by_cases es:i=s
     · obtain⟨hd,hge⟩:=hds es
       rw[hd]
       refine⟨hA2,hdf,hsize,hfr,fun j hj hq'=>?_⟩
       by_cases e:i=j
       · subst e
         subst es
         rw[hvs]
         unfold Act.eval
         have:b.tmps.size<=ds.getD i 0:=by rw[hsize];exact hge
         have h5:b.tmps[ds.getD i 0]?=none:=Array.getElem?_eq_none this
         show b.tmps.getD _ undef=undef
         rw[Array.getD_eq_getD_getElem?,h5]
         rfl
       · rw[getD_set_ne false e]at hq'
         exact hF j hj hq'
     · obtain⟨hd,hlt⟩:=hdn es
       rw[hd]
       have hlt':ds.getD i 0<b.tmps.size:=by rw[hsize];exact hlt
       refine⟨hA2,hdf,by simpa[Act.put]using hsize,fun t ht=>?_,fun j hj hq'=>?_⟩
       · rw[gY _ _ _ _ hlt',ax (fun e=>ht (by rw[←e];exact hmem))]
         exact hfr t ht
       · rw[gY _ _ _ _ hlt']
         by_cases e:i=j
         · subst e
           rw[az rfl]
           exact hF'
         · rw[ax (fun e2=>e (hinj i j hil hj e2))]
           rw[getD_set_ne false e]at hq'
           exact hF j hj hq')
   (fun q b x hq j6 hI=>by
     obtain⟨hA,hdf,hsize,hfr,hF⟩:=hI
     have hqs:q.size=l.length:=by rw[hq,hsl]
     have hF2:∀j,j<l.length->b.eval (.tmp (ds.getD j 0))=dI.getD j undef:=fun j hj=>hF j hj (by
       have:=j6 j (by omega)
       have h1:j<q.size:=by omega
       simp[h1]at this ⊢
       exact this)
     have hbf:b=ds.foldl (fun a' t=>a'.put (some t) (b.eval (.tmp t))) a:=by
       obtain⟨s1,s2,s3⟩:=jI (fun t=>b.eval (.tmp t)) ds a
       have ht:b.tmps=(ds.foldl (fun a' t=>a'.put (some t) (b.eval (.tmp t))) a).tmps:=by
         apply Array.ext_getElem?
         intro t
         rw[s3 t]
         by_cases e:t<a.tmps.size
         · have eb:b.tmps[t]?=some (b.eval (.tmp t)):=by
             have h1:t<b.tmps.size:=by omega
             simp[Act.eval,h1]
           by_cases e2:t∈ds
           · rw[az ⟨e2,e⟩,eb]
           · rw[ax (fun h=>e2 h.1),eb,hfr t e2]
             simp[Act.eval,e]
         · rw[ax (fun h=>e h.2),Array.getElem?_eq_none (by omega),Array.getElem?_eq_none (by omega)]
       have e3:∀c d:Act,c.tmps=d.tmps->c.defers=d.defers->c=d:=by
         rintro⟨c1,c2⟩ ⟨d1,d2⟩ h1 h2
         simp only at h1 h2
         rw[h1,h2]
       exact e3 _ _ ht (hdf.trans s2.symm)
     have hA3:A (decide (m<l.length)) x:=by
       by_cases e:m<l.length
       · have h1:=j6 m (by omega)
         have h2:m<q.size:=by omega
         have h3:q.getD m false=true:=by simp[h2]at h1 ⊢;exact h1
         rw[h3,Bool.true_and]at hA
         exact hA
       · simp[e]at hA ⊢
         exact hA
     exact hend b x hA3 hF2 hbf)
   l.length (Array.replicate l.toArray.size false) a w.drew (by simp) (by rw[hsl];exact hu) ⟨by rw[getD_replicate_false,Bool.false_and];exact h0,rfl,rfl,fun t _=>rfl,fun j hj h=>by rw[getD_replicate_false]at h;cases h⟩
 rw[←hsl]at H
 exact wp_region_any hm H
end
section
open Go.RowKit
variable {P : Program} {ops : Array Oper} {md : Region.Mode} {Q : Exit → Act → World → Prop} {n : Nat}
def QW (l:List Oper)(sz:Nat)(ss ds:List Nat):Bool:=
 decide (ds.length=l.length)&&ds.Nodup&&(List.range l.length).all fun i=>match l[i]? with
   |some o=>(if ss.contains i then o.dst==none&&decide (sz<=ds.getD i 0)else o.dst==ds[i]?&&decide (ds.getD i 0<sz))&&(match o.guard with|none=>true|some (j,_)=>decide (j<l.length)&& !ss.contains j)&&o.after.all fun e=> !Region.binds .any e||decide (e.on<i)
   |none=>false
def Ve (ds:List Nat)(b:Act)(f:Bool->Bool):Option (Nat×Bool)->Prop->Prop
 |none,p=>p
 |some (j,v),_=>b.eval (.tmp (ds.getD j 0))= .bool (f v)
def Ii (P:Program)(Q:Exit->Act->World->Prop)(a:Act)(ds:List Nat)(A:World->Prop)(R:World->World->Prop)(F:Nat->Value->World->Prop)(k:Nat)(o:Oper):Prop:=
 ∀ (b:Act) (x:World),A x->(∀t,t∉ds->b.eval (.tmp t)=a.eval (.tmp t))->(∀j,(o.after.any fun e=>Region.binds .any e&&e.on==j)=true->F j (b.eval (.tmp (ds.getD j 0))) x)->
   (Ve ds b id o.guard True/\o.wp P b x (fun b' x'=>∃y,b'=b.put o.dst y/\A x'/\F k y x'/\R x x') Q)\/(Ve ds b not o.guard False/\F k undef x/\R x x)
def oH (P:Program)(Q:Exit->Act->World->Prop)(a:Act)(ds:List Nat)(A:World->Prop)(R:World->World->Prop)(F:Nat->Value->World->Prop):Nat->List Oper->Prop
 |_,[]=>True
 |k,o::r=>Ii P Q a ds A R F k o/\oH P Q a ds A R F (k+1) r
theorem oH.at {a:Act}{ds:List Nat}{A:World->Prop}{R:World->World->Prop}{F:Nat->Value->World->Prop}:∀{r:List Oper}{k:Nat},oH P Q a ds A R F k r->∀i o,r[i]?=some o->Ii P Q a ds A R F (k+i) o
 |[],_,_,i,o,h=>by simp at h
 |q::r,k,h,0,o,e=>by cases e;exact h.1
 | q::r,k,h,i+1,o,e=>by
   have:=oH.at h.2 i o (by simpa using e)
   rwa [show k+1+i=k+(i+1)by omega]at this
theorem dR {id:Nat}{a:Act}{w:World}{l:List Oper}(ss ds:List Nat)(A:World->Prop)(R:World->World->Prop)(F:Nat->Value->World->Prop)(hm:P.follows .mixedOrders=true)(hB:QW l a.tmps.size ss ds=true)(hS:∀i∈ss,∀y x,F i y x->F i undef x)(h0:A w.drew)(hR:∀i y x x',R x x'->F i y x->F i y x')(hall:oH P Q a ds A R F 0 l)(hend:∀b x,A x->(∀j,j<l.length->F j (b.eval (.tmp (ds.getD j 0))) x)->b=ds.foldl (fun a' t=>a'.put (some t) (b.eval (.tmp t))) a->Q .normal b x):(Code.region id l.toArray true).wp P Q a w:=by
 simp only[QW,au,decide_eq_true_eq,List.all_eq_true,List.mem_range]at hB
 obtain⟨⟨hdl,hnd⟩,hops⟩:=hB
 have hgd:∀i,i<l.length->ds[i]?=some (ds.getD i 0):=fun i hi=>by rw[ah,ai (by omega)];rfl
 have hop:∀i o,l.toArray[i]?=some o->((ss.contains i=true->o.dst=none/\a.tmps.size<=ds.getD i 0)/\(ss.contains i=false->o.dst=some (ds.getD i 0)/\ds.getD i 0<a.tmps.size))/\(∀j v,o.guard=some (j,v)->j<l.length/\ss.contains j=false)/\(∀e∈o.after,Region.binds .any e=true->e.on<i)/\ds.getD i 0∈ds/\i<l.length:=by intro i o ho;have ho':l[i]?=some o:=by{simpa using ho};have hi:i<l.length:=(List.getElem?_eq_some_iff.1 ho').1;have h1:=hops i hi;rw[ho']at h1;simp only[au,Array.all_eq_true',decide_eq_true_eq,Bool.or_eq_true,Bool.not_eq_true']at h1;obtain⟨⟨h2,h3⟩,h4⟩:=h1;refine⟨⟨fun e=>?_,fun e=>?_⟩,fun j v e=>?_,fun e he hbi=>(h4 e he).elim (fun h=>by rw[hbi]at h;cases h) (fun h=>h),List.mem_of_getElem? (hgd i hi),hi⟩;{rw[az e]at h2;simpa using h2};{rw[ax (by rw[e];decide),hgd i hi]at h2;simpa using h2};rw[e]at h3;simpa using h3
 have hinj:∀i j,i<l.length->j<l.length->ds.getD i 0=ds.getD j 0->i=j:=by intro i j hi hj e;rw[ah,ah,ai (by omega),ai (by omega)]at e;have e':ds[i]'(by omega)=ds[j]'(by omega):=e;rcases Nat.lt_trichotomy i j with h|h|h;{exact absurd e' (List.pairwise_iff_getElem.1 hnd i j (by omega) (by omega) h)};{exact h};exact absurd e'.symm (List.pairwise_iff_getElem.1 hnd j i (by omega) (by omega) h)
 let I:Array Bool->Act->World->Prop:=fun q b x=>A x/\b.defers=a.defers/\b.tmps.size=a.tmps.size/\(∀t,t∉ds->b.eval (.tmp t)=a.eval (.tmp t))/\∀j,j<l.length->q.getD j false=true->F j (b.eval (.tmp (ds.getD j 0))) x
 have hsl:l.toArray.size=l.length:=by simp
 have hu:tH l.length (Array.replicate l.toArray.size false)=l.length:=by
  have:∀m,m<=l.toArray.size->tH m (Array.replicate l.toArray.size false)=m:=by
   intro m
   induction m with
   |zero=>intro _;rfl
   |succ m ih=>
    intro hm
    rw[gU,ih (by omega)]
    have:(Array.replicate l.toArray.size false).getD m true=false:=getD_in (by simp at hm ⊢;omega) (getD_replicate_false _ _)
    rw[az this]
  exact this _ (by omega)
 have H := wpAny_all (P:=P) (Q:=Q) (md:= .any) (ops:=l.toArray) I (fun i o ho=>(hop i o ho).2.2.1)
   (fun q b x i o hq ho hi hun hafter hI=>by
     obtain⟨hA,hdf,hsize,hfr,hF⟩:=hI
     obtain⟨⟨hds,hdn⟩,hg,hb,hmem,hil⟩:=hop i o ho
     have Dl:=hall.at i o (by simpa using ho)
     rw[Nat.zero_add]at Dl
     have hwp:=Dl b x hA hfr (fun j hj=>by
       obtain⟨e,he,hbe⟩:=Array.any_eq_true'.1 hj
       simp only[au,beq_iff_eq]at hbe
       have h1:=hafter e he hbe.1
       have h2:=hb e he hbe.1
       rw[hbe.2]at h1 h2
       exact hF j (by omega) h1)
     have hcl:∀y x',A x'->F i y x'->R x x'->I (q.setIfInBounds i true) (b.put o.dst y) x':=fun y x' hA' hF' FY=>by
       rcases es:ss.contains i with _|_
       · obtain⟨hd,hlt⟩:=hdn es
         rw[hd]
         have hlt':ds.getD i 0<b.tmps.size:=by rw[hsize];exact hlt
         refine⟨hA',hdf,by simpa[Act.put]using hsize,fun t ht=>?_,fun j hj hq'=>?_⟩
         · rw[gY _ _ _ _ hlt',ax (fun e=>ht (by rw[←e];exact hmem))]
           exact hfr t ht
         · rw[gY _ _ _ _ hlt']
           by_cases e:i=j
           · subst e
             rw[az rfl]
             exact hF'
           · rw[ax (fun e2=>e (hinj i j hil hj e2))]
             rw[getD_set_ne false e]at hq'
             exact hR j _ x x' FY (hF j hj hq')
       · obtain⟨hd,hge⟩:=hds es
         rw[hd]
         refine⟨hA',hdf,hsize,hfr,fun j hj hq'=>?_⟩
         by_cases e:i=j
         · subst e
           have h5:b.tmps[ds.getD i 0]?=none:=Array.getElem?_eq_none (by rw[hsize];exact hge)
           have h6:b.eval (.tmp (ds.getD i 0))=undef:=by
             show b.tmps.getD _ undef=undef
             rw[Array.getD_eq_getD_getElem?,h5]
             rfl
           show F i (b.eval (.tmp (ds.getD i 0))) x'
           rw[h6]
           exact hS i (by simpa using es) _ _ hF'
         · rw[getD_set_ne false e]at hq'
           exact hR j _ x x' FY (hF j hj hq')
     have hy:∀j v u,o.guard=some (j,v)->b.eval (.tmp (ds.getD j 0))= .bool u->Region.wanted o (yielded l.toArray b.tmps)=(u==v):=fun j v u hj hu=>by
       obtain⟨hjn,hjs⟩:=hg j v hj
       obtain⟨⟨-,hd2⟩,-⟩:=hop j (l.toArray[j]'(by omega)) (Array.getElem?_eq_getElem (by omega))
       obtain⟨hd2,hlt2⟩:=hd2 hjs
       have h4:b.tmps[ds.getD j 0]?=some (.bool u):=by
         rw[←hsize]at hlt2
         rw[←hu]
         generalize ds.getD j 0=t at hlt2 ⊢
         simp[Act.eval,hlt2]
       have h6:yielded l.toArray b.tmps j=some u:=by
         unfold yielded
         rw[Array.getElem?_eq_getElem (by omega)]
         simp only[Option.bind_some,hd2,h4]
       unfold Region.wanted
       rw[hj]
       simp only[h6]
       cases u<;>cases v<;>rfl
     unfold wpOp
     simp only[ho]
     rcases hwp with⟨hw1,hwp⟩|⟨hw1,hF',FY⟩
     · have hw:Region.wanted o (yielded l.toArray b.tmps)=true:=by
         rcases hgo:o.guard with _|⟨j,v⟩
         · simp[Region.wanted,hgo]
         · rw[hgo]at hw1
           rw[hy j v v hgo hw1]
           cases v<;>rfl
       rw[az hw]
       refine .inl (Oper.wp_mono (fun b' x' h'=>?_) hwp)
       obtain⟨y,rfl,hA',hF',FY⟩:=h'
       exact hcl y x' hA' hF' FY
     · have hw:¬Region.wanted o (yielded l.toArray b.tmps)=true:=by
         rcases hgo:o.guard with _|⟨j,v⟩
         · rw[hgo]at hw1
           exact hw1.elim
         · rw[hgo]at hw1
           rw[hy j v (!v) hgo hw1]
           cases v<;>decide
       rw[ax hw]
       exact hcl undef x hA hF' FY)
   (fun q b x hq j6 hI=>by
     obtain⟨hA,hdf,hsize,hfr,hF⟩:=hI
     have hqs:q.size=l.length:=by rw[hq,hsl]
     have hF2:∀j,j<l.length->F j (b.eval (.tmp (ds.getD j 0))) x:=fun j hj=>hF j hj (by
       have:=j6 j (by omega)
       have h1:j<q.size:=by omega
       simp[h1]at this ⊢
       exact this)
     have hbf:b=ds.foldl (fun a' t=>a'.put (some t) (b.eval (.tmp t))) a:=by
       obtain⟨s1,s2,s3⟩:=jI (fun t=>b.eval (.tmp t)) ds a
       have ht:b.tmps=(ds.foldl (fun a' t=>a'.put (some t) (b.eval (.tmp t))) a).tmps:=by
         apply Array.ext_getElem?
         intro t
         rw[s3 t]
         by_cases e:t<a.tmps.size
         · have eb:b.tmps[t]?=some (b.eval (.tmp t)):=by
             have h1:t<b.tmps.size:=by omega
             simp[Act.eval,h1]
           by_cases e2:t∈ds
           · rw[az ⟨e2,e⟩,eb]
           · rw[ax (fun h=>e2 h.1),eb,hfr t e2]
             simp[Act.eval,e]
         · rw[ax (fun h=>e h.2),Array.getElem?_eq_none (by omega),Array.getElem?_eq_none (by omega)]
       have e3:∀c d:Act,c.tmps=d.tmps->c.defers=d.defers->c=d:=by
         rintro⟨c1,c2⟩ ⟨d1,d2⟩ h1 h2
         simp only at h1 h2
         rw[h1,h2]
       exact e3 _ _ ht (hdf.trans s2.symm)
     exact hend b x hA hF2 hbf)
   l.length (Array.replicate l.toArray.size false) a w.drew (by simp) (by rw[hsl];exact hu) ⟨h0,rfl,rfl,fun t _=>rfl,fun j hj h=>by rw[getD_replicate_false]at h;cases h⟩
 rw[←hsl]at H
 exact wp_region_any hm H
def PF (ps:Nat->Value->World->Prop)(l:List (Option Value))(j:Nat)(y:Value)(x:World):Prop:=
 match l.getD j none with
 |some v=>y=v
 |none=>ps j y x
theorem PF.dE {R:World->World->Prop}{ps:Nat->Value->World->Prop}{l:List (Option Value)}(h:∀i y x x',R x x'->ps i y x->ps i y x')(i:Nat)(y:Value)(x x':World)(hr:R x x')(hf:PF ps l i y x):PF ps l i y x':=by unfold PF at hf ⊢;split at hf;{exact hf};exact h i y x x' hr hf
end
end Go.Proofs.YthkjdjmjdlimnaaGreat
