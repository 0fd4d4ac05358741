/-
  Own texts for a law: Low8 Low9 Al0 Al1 Mem7 Wlk0 Wlk2 Wlk3 Wlk4
-/
import Derived.Test.YthkjdjmjdlimnaaGreatKU09
import Derived.Test.YthkjdjmjdlimnaaGreatKU15
namespace Go.Proofs.YthkjdjmjdlimnaaGreat
open Go.RowKit Go.Shelf
set_option linter.all false
set_option maxRecDepth 100000
set_option maxHeartbeats 16000000
theorem Lw.Ta {fs:List Fn}{d:ByteArray}(h:Hg.valid fs d=true){k:Nat}(hk:k<fs.length):Md.ok fs d=true/\∃mo,Hg.jD fs (Mn.fn fs k)=some (Mn.pK fs k,mo):=by unfold Hg.valid at h;rw[au]at h;refine⟨h.1,?_⟩;have h2:=List.all_eq_true.1 h.2 k (List.mem_range.2 hk);unfold Hg.jF at h2;rw[az ⟨h.1,by omega,by omega⟩]at h2;simp only[aA]at h2;unfold Mn.pK Mn.fn;rcases e:Hg.jD fs (fs.getD k .z)with _|⟨H,mo⟩;{rw[e]at h2;cases h2};exact⟨mo,rfl⟩
theorem Lw.V4 {fs:List Fn}{f:Fn}{x:List Int×Int}(h:Hg.jD fs f=some x):aQ.isOk f.b=true:=by unfold Hg.jD at h;split at h;{assumption};cases h
def Lw.part (st:List Int)(R:List (Ln×Int))(i:Nat):List Ln:=(R.take i).map (Lw.OU st)++(R.drop i).map (·.1)
theorem Lw.zY (st:List Int)(R:List (Ln×Int))(i:Nat):(Lw.part st R i).length=R.length:=by unfold Lw.part;simp only[List.length_append,List.length_map,List.length_take,List.length_drop];omega
theorem Lw.vZ {st:List Int}{R:List (Ln×Int)}{i:Nat}(hi:i<R.length):Lw.part st R (i+1)=(Lw.part st R i).set i (Lw.OU st (R.getD i (.z,0))):=by unfold Lw.part;rw[List.take_add_one,ai hi,ah,ai hi,List.drop_eq_getElem_cons hi];simp only[Option.toList_some,Option.getD_some,List.map_append,List.map_cons,List.map_nil];rw[List.set_append_right _ _ (by simp only[List.length_map,List.length_take];omega)];simp[Nat.min_eq_left (Nat.le_of_lt hi)]
theorem Lw.DC {st:List Int}{R:List (Ln×Int)}{i:Nat}(hi:i<R.length):(Lw.part st R i).getD i .z=(R.getD i (.z,0)).1:=by unfold Lw.part;rw[ah,List.getElem?_append_right (by simp only[List.length_map,List.length_take];omega)];rw[ah,ai hi];simp[Nat.min_eq_left (Nat.le_of_lt hi),ai hi]
theorem Lw.CV {f:Fn}{i:Nat}(hi:i<f.l.toNat):(Lw.first f).take (i+1)=(Lw.first f).take i++[(⟨1,f.a+(i:Int),0,0,0,[]⟩,-1)]:=by rw[List.take_add_one];congr 1;unfold Lw.first;simp[hi]
theorem Lw.Fp (f:Fn):(Lw.first f).length=f.l.toNat:=by unfold Lw.first;simp
theorem RO {p:Prop}(h:Hid p):p:=h
theorem pO {W:World}{n₀ n₁:Nat}{e k:Nat}{v:Value}{n:Nat}{xs:List Value}(h:W.ownsRow n₁ e k v n xs)(hn:n₀<=n₁):W.ownsRow n₀ e k v n xs:=by refine⟨h.1,?_⟩;rcases h.2 with h'|⟨g',cap',cur,h',hb,r⟩;{exact .inl h'};exact .inr ⟨g',cap',cur,h',Nat.le_trans hn hb,r⟩
theorem MK.other {c:LX}{W0 W W':World}{v vg:Value}{out:List (Ln×Int)}{P:Nat->Prop}{row:Option Nat}(h:MK c W0 W v vg out P)(hW:W0.heap.size<=c.B)(hg:W.grownBy W' row)(hr:∀g,row=some g->c.B+1<=g/\v.ownBlock≠some g/\vg.ownBlock≠some g/\¬P g):MK c W0 W' v vg out P:=by obtain⟨vs,h1,h2,h3,h4⟩:=h.row;refine⟨dZ h.gJ hg (fun g e=>by have:=(hr g e).1;omega),h.box.dJ hg (fun e=>by have:=(hr _ e).1;omega),Nat.le_trans h.sz hg.size,⟨vs,dO h1 hg (fun g e e2=>(hr g e2).2.1 e),h2,h3.dJ hg (fun j hj g e e2=>(hr g e2).2.2.2 (h4 j hj g e).2),h4⟩,dO h.Bc hg (fun g e e2=>(hr g e2).2.2.1 e)⟩
theorem MK.tight {c:LX}{W0 W:World}{v vg:Value}{out:List (Ln×Int)}{P:Nat->Prop}(h:MK c W0 W v vg out P):MK c W0 W v vg out (fun g=>P g/\g<W.heap.size):=by obtain⟨vs,h1,h2,h3,h4⟩:=h.row;exact⟨h.gJ,h.box,h.sz,⟨vs,h1,h2,h3,fun j hj g e=>⟨(h4 j hj g e).1,(h4 j hj g e).2,(dx (h3 j hj).2.2.2.2.2 e).2⟩⟩,h.Bc⟩
structure PK (c:LX)(W0 W:World)(v vg sv:Value)(R:List (Ln×Int))(st:List Int)(i:Nat):Prop where
 gJ:Below W0.heap.size W0 W
 box:bq W c.B (c.dI v vg)
 sz:c.B+1<=W.heap.size
 row:∃vs:List Lv,W.ownsRow (c.B+1) 109 6 v R.length (ek vs)/\vs.length=R.length/\jo W (c.B+1) R.length vs (Lw.part st R i)
 Bc:OI W (c.B+1) vg (R.map (·.2))
 YH:OI W (c.B+1) sv st
theorem PK.of {c:LX}{W0 W:World}{v vg sv:Value}{R:List (Ln×Int)}{st:List Int}{P:Nat->Prop}(h:MK c W0 W v vg R P)(hs:OI W (c.B+1) sv st):PK c W0 W v vg sv R st 0:=by obtain⟨vs,h1,h2,h3,-⟩:=h.row;exact⟨h.gJ,h.box,h.sz,⟨vs,h1,h2,h3⟩,h.Bc,hs⟩
theorem PK.kept {c:LX}{W0 W W':World}{v vg sv:Value}{R:List (Ln×Int)}{st:List Int}{i:Nat}(h:PK c W0 W v vg sv R st i)(hB:Below W.heap.size W W'):PK c W0 W' v vg sv R st i:=by obtain⟨vs,h1,h2,h3⟩:=h.row;exact⟨h.gJ.trans (hB.mono h.gJ.size),h.box.kept hB,Nat.le_trans h.sz hB.size,⟨vs,aO h1 hB,h2,h3.kept hB⟩,h.Bc.kept hB,h.YH.kept hB⟩
theorem PK.skip {c:LX}{W0 W:World}{v vg sv:Value}{R:List (Ln×Int)}{st:List Int}{i:Nat}(h:PK c W0 W v vg sv R st i)(hi:i<R.length)(hn:(R.getD i (.z,0)).2<0):PK c W0 W v vg sv R st (i+1):=by have e:Lw.part st R (i+1)=Lw.part st R i:=by{rw[Lw.vZ hi,Lw.OU,ax (by omega),←Lw.DC (st:=st) hi];apply List.ext_getElem?;intro j;rw[List.getElem?_set];split;{rename_i e;subst e;have hl:i<(Lw.part st R i).length:=by{rw[Lw.zY];exact hi};rw[az hl,ah,ai hl];rfl};rfl};obtain⟨vs,h1,h2,h3⟩:=h.row;exact⟨h.gJ,h.box,h.sz,⟨vs,h1,h2,by rw[e];exact h3⟩,h.Bc,h.YH⟩
theorem PK.fill {c:LX}{W0 W:World}{g cv:Nat}{vg sv:Value}{R:List (Ln×Int)}{st:List Int}{i:Nat}(h:PK c W0 W (.slice (some ⟨g,0,none⟩) R.length cv) vg sv R st i)(hW:W0.heap.size<=c.B)(hi:i<R.length)(hn:0<=(R.getD i (.z,0)).2):PK c W0 (W.setCell ⟨g,i*6+4,none⟩ (.int .i64 (st.getD (R.getD i (.z,0)).2.toNat 0))) (.slice (some ⟨g,0,none⟩) R.length cv) vg sv R st (i+1):=by obtain⟨vs,h1,h2,h3⟩:=h.row;have hg:c.B+1<=g/\g<W.heap.size:=dx h1 rfl;have hst:=h1.stored (i*6+4) (.int .i64 (st.getD (R.getD i (.z,0)).2.toNat 0));have gs:=hst.2;have hint:2≠109:=by{decide};have hgs:∀{u:Value}{xs:List Int},OI W (c.B+1) u xs->OI (W.setCell ⟨g,i*6+4,none⟩ (.int .i64 (st.getD (R.getD i (.z,0)).2.toNat 0))) (c.B+1) u xs:=fun{u xs} hu=>dO hu gs (fun g' e e2=>eZ hu h1 hint e e2);refine⟨dZ h.gJ gs (fun g' e=>by cases e;omega),h.box.dJ gs (fun e=>by cases e;omega),Nat.le_trans h.sz gs.size,⟨vs.set i ((vs.getD i iA).1,(vs.getD i iA).2.1,(vs.getD i iA).2.2.1,(vs.getD i iA).2.2.2.1,st.getD (R.getD i (.z,0)).2.toNat 0,(vs.getD i iA).2.2.2.2.2),?_,by simp[h2],fun j hj=>?_⟩,hgs h.Bc,hgs h.YH⟩;{rw[rT vs i _ (by omega)];exact hst.1};obtain⟨t0,t1,t2,t3,t4,t5⟩:=h3 j hj;rw[Lw.vZ hi];by_cases e:j=i;{subst e;have e1:(vs.set j ((vs.getD j iA).1,(vs.getD j iA).2.1,(vs.getD j iA).2.2.1,(vs.getD j iA).2.2.2.1,st.getD (R.getD j (.z,0)).2.toNat 0,(vs.getD j iA).2.2.2.2.2)).getD j iA=((vs.getD j iA).1,(vs.getD j iA).2.1,(vs.getD j iA).2.2.1,(vs.getD j iA).2.2.2.1,st.getD (R.getD j (.z,0)).2.toNat 0,(vs.getD j iA).2.2.2.2.2):=by{rw[ah,List.getElem?_set_self (by omega)];rfl};have e2:((Lw.part st R j).set j (Lw.OU st (R.getD j (.z,0)))).getD j .z=Lw.OU st (R.getD j (.z,0)):=by{rw[ah,List.getElem?_set_self (by rw[Lw.zY];exact hi)];rfl};rw[e1,e2,Lw.OU,az hn];rw[Lw.DC hi]at t0 t1 t2 t3 t5;exact⟨t0,t1,t2,t3,rfl,hgs t5⟩};have e1:(vs.set i ((vs.getD i iA).1,(vs.getD i iA).2.1,(vs.getD i iA).2.2.1,(vs.getD i iA).2.2.2.1,st.getD (R.getD i (.z,0)).2.toNat 0,(vs.getD i iA).2.2.2.2.2)).getD j iA=vs.getD j iA:=by{rw[ah,List.getElem?_set_ne (by omega),←ah]};have e2:((Lw.part st R i).set i (Lw.OU st (R.getD i (.z,0)))).getD j .z=(Lw.part st R i).getD j .z:=by{rw[ah,List.getElem?_set_ne (by omega),←ah]};rw[e1,e2];exact⟨t0,t1,t2,t3,t4,hgs t5⟩
theorem lV (a:Option Addr) (len cap:Nat) (fs:List Fn) (d:ByteArray) (hv:Hg.valid fs d=true) (k:Nat) (hk:k<len) (w:World) (hs:FL w a len fs):Calls Tryz.prog 36 #[.agg #[.slice a len cap, .string d], .int .i64 k] w fun e w'=>∃v,e= .returned v/\ni w' w.heap.size v (Lw.func fs (Mn.fn fs k) (aQ.ends (Mn.fn fs k).b) (aQ.bE (Mn.fn fs k).b) (Mn.pK fs k))/\Below w.heap.size w w':=by
 have hl:=hs.1
 have V:=Mn.mI hv
 obtain⟨YI,mo,hres⟩:=Lw.Ta hv (k:=k) (by omega)
 have hA:=V.acc k (by omega)
 have lg:=Lw.V4 hres
 have FU:=Mn.DK V (k:=k) (by omega)
 have hall:St.df (Mn.fn fs k).b=true:=by have:=Md.bI V.all (j:=k) (by omega);simp only[Md.qQ,au]at this;exact this.2.2.2.2
 have hl4:len<=4:=by have:=V.len.2;omega
 obtain⟨F,hF⟩:∃F,Mn.fn fs k=F:=⟨_,rfl⟩
 obtain⟨H,hH⟩:∃H,Mn.pK fs k=H:=⟨_,rfl⟩
 obtain⟨E,hE⟩:∃E,aQ.ends F.b=E:=⟨_,rfl⟩
 obtain⟨O,hO⟩:∃O,aQ.bE F.b=O:=⟨_,rfl⟩
 rw[hF,hH]at hres
 rw[hF]at lg FU hall
 rw[hF,hH]at hA
 rw[hE,hO]at hA
 rw[hF,hH,hE,hO]
 have hkZ:(k:Int)<(len:Int):=by omega
 have hB1:=aB w (.cells #[.slice a len cap, .string d] 26)
 have hM1:dS (w.alloc (.cells #[.slice a len cap, .string d] 26)) w.heap.size 26 [.slice a len cap, .string d]:=heap_alloc_last w _
 obtain⟨W1,hW1⟩:∃X,w.alloc (.cells #[.slice a len cap, .string d] 26)=X:=⟨_,rfl⟩
 rw[hW1]at hB1 hM1
 have hs1:=hs.kept hB1
 have hcell:∃b off,a=some ⟨b,off,none⟩/\∃ba bl bc,W1.cell? ⟨b,off+k*4,none⟩=some (.int .i64 F.a)/\W1.cell? ⟨b,off+k*4+1,none⟩=some (.int .i64 F.l)/\W1.cell? ⟨b,off+k*4+2,none⟩=some (.int .i64 F.g)/\W1.cell? ⟨b,off+k*4+3,none⟩=some (.slice ba bl bc)/\SL W1 ba bl F.b:=by obtain⟨-,-,h0|⟨b,off,e,hb,hx⟩⟩:=hs1;{omega};obtain⟨x0,x1,x2,ba,bl,bc,x3,hsl⟩:=hx k hk;have e2:fs.getD k .z=F:=hF;rw[e2]at x0 x1 x2 hsl;exact⟨b,off,e,ba,bl,bc,x0,x1,x2,x3,hsl⟩
 obtain⟨fb,fo,rfl,ba,bl,bc,x0,x1,x2,x3,hsl⟩:=hcell
 have hbl:F.b.length=bl:=hsl.1
 subst hbl
 have m0:=hM1.cell (j:=0) rfl
 have hB2:=aB W1 (.cells #[.int .i64 F.a, .int .i64 F.l, .int .i64 F.g, .slice ba F.b.length bc] 93)
 have hF2:dS (W1.alloc (.cells #[.int .i64 F.a, .int .i64 F.l, .int .i64 F.g, .slice ba F.b.length bc] 93)) W1.heap.size 93 [.int .i64 F.a, .int .i64 F.l, .int .i64 F.g, .slice ba F.b.length bc]:=heap_alloc_last W1 _
 obtain⟨W2,hW2⟩:∃X,W1.alloc (.cells #[.int .i64 F.a, .int .i64 F.l, .int .i64 F.g, .slice ba F.b.length bc] 93)=X:=⟨_,rfl⟩
 rw[hW2]at hB2 hF2
 have hM2:=hM1.kept hB2
 have n0:=hM2.cell (j:=0) rfl
 have n1:=hM2.cell (j:=1) rfl
 have kQ:=hB1.trans (hB2.mono hB1.size)
 have Om:=mG (some ⟨fb,fo,none⟩) len cap fs d k hk YI W2 (hs1.kept hB2)
 have e2:fs.getD k .z=F:=hF
 rw[e2,hres]at Om
 go_enter Tryz.func36,Tryz.ntmps36
 go_wp2_with fail
 refine Om.mono ?_
 rintro e w3 ⟨v3,mo3,rfl,ho3,hB3⟩
 dsimp only
 obtain⟨ho3,-⟩:=ho3 H mo rfl
 obtain⟨ha,hc,rfl,-⟩:=ho3.slice
 have hHl:H.length=F.b.length:=hA.lH
 have hF3:=hF2.kept hB3
 have f3:=hF3.cell (j:=3) rfl
 have jc:=(hsl.kept hB2).kept hB3
 have fE:=qG ba F.b.length bc F.b (by omega) w3 jc
 rw[lg,hE,hO]at fE
 clear Om x0 x1 x2 x3 m0 n0 n1
 go_wp2_with fail
 refine fE.mono ?_
 rintro e w4 ⟨gE,cE,gO,cO,rfl,hEO,hB4⟩
 dsimp only
 obtain⟨hoE,YE⟩:=hEO trivial
 have Tz:=hF3.kept hB4
 have f0:=Tz.cell (j:=0) rfl
 have f1:=Tz.cell (j:=1) rfl
 have f2:=Tz.cell (j:=2) rfl
 have f3':=Tz.cell (j:=3) rfl
 have fQ:=aB w4 (.cells #[.slice none 0 0, .slice none 0 0, .int .i64 (F.a+F.l), .slice ha F.b.length hc, .slice (some ⟨gE,0,none⟩) F.b.length cE, .slice ba F.b.length bc, .int .i64 F.g] 106)
 have hbx:bq (w4.alloc (.cells #[.slice none 0 0, .slice none 0 0, .int .i64 (F.a+F.l), .slice ha F.b.length hc, .slice (some ⟨gE,0,none⟩) F.b.length cE, .slice ba F.b.length bc, .int .i64 F.g] 106)) w4.heap.size [.slice none 0 0, .slice none 0 0, .int .i64 (F.a+F.l), .slice ha F.b.length hc, .slice (some ⟨gE,0,none⟩) F.b.length cE, .slice ba F.b.length bc, .int .i64 F.g]:=bq.new w4 _ _
 have hz5:w4.heap.size+1<=(w4.alloc (.cells #[.slice none 0 0, .slice none 0 0, .int .i64 (F.a+F.l), .slice ha F.b.length hc, .slice (some ⟨gE,0,none⟩) F.b.length cE, .slice ba F.b.length bc, .int .i64 F.g] 106)).heap.size:=by simp
 obtain⟨W5,hW5⟩:∃X,w4.alloc (.cells #[.slice none 0 0, .slice none 0 0, .int .i64 (F.a+F.l), .slice ha F.b.length hc, .slice (some ⟨gE,0,none⟩) F.b.length cE, .slice ba F.b.length bc, .int .i64 F.g] 106)=X:=⟨_,rfl⟩
 rw[hW5]at fQ hbx hz5
 rw[hHl]at ho3
 have Df:=hB3.trans (hB4.mono hB3.size)
 have YJ:IL w4 ha F.b.length H:=((OI.il ho3).2).kept hB4
 have YK:IL w4 (some ⟨gE,0,none⟩) F.b.length E:=(OI.il hoE).2
 have YL:IL w4 (some ⟨gO,0,none⟩) F.b.length O:=(OI.il YE).2
 have YM:=jc.kept hB4
 have hs4:=((hs1.kept hB2).kept hB3).kept hB4
 have T:TX (⟨w4.heap.size,ha,hc,some ⟨gE,0,none⟩,cE,ba,bc,fs,F,E,O,H⟩:LX) w4:=⟨Nat.le_refl _,YJ,YK,YM,hA,FU,hall,V⟩
 have K5:MK (⟨w4.heap.size,ha,hc,some ⟨gE,0,none⟩,cE,ba,bc,fs,F,E,O,H⟩:LX) w4 W5 (.slice none 0 0) (.slice none 0 0) [] (fun _=>False):=⟨fQ,hbx,hz5,⟨[],World.ownsRow_nil _ _ _ _,rfl,fun j hj=>by simp at hj,fun j hj=>by simp at hj⟩,OI.nil _ _⟩
 have En:=hM2.kept Df
 have hBw:=kQ.trans (Df.mono kQ.size)
 have g0:=(Tz.kept fQ).cell (j:=0) rfl
 obtain⟨ln,hln⟩:=Int.eq_ofNat_of_zero_le FU.2.2.1
 have YN:F.l.toNat=ln:=by omega
 have HC:=ae (ak T (ak K5 (ak Tz (ak En (ak hBw (ak hs4 (ak YL (ak YN hln))))))))
 have hF5:-1<=F.a/\F.a<=3:=by omega
 have hl5:-1<=F.l/\F.l<=3:=by omega
 have ahs:=FU.2.2.2.2.2
 have Qe:=FU.2.2.2.2.1
 clear fE f3 hbx hz5 fQ YJ YK YL YM hs4 T K5 En hBw Df Tz hF3 jc hF2 hM2 hM1 ho3 hoE YE hB3 hB4 hB2 kQ hB1 hs1 hs hsl hall lg hres YI hv V hA FU e2 hF hH hE hO hln YN hEO
 go_wp2
 go_loopw [13] (fun vi wr=>∃(i:Nat)(v vg:Value),vi= .int .i64 (F.a+(i:Int))/\i<=ln/\MK (⟨w4.heap.size,ha,hc,some ⟨gE,0,none⟩,cE,ba,bc,fs,F,E,O,H⟩:LX) w4 wr v vg ((Lw.first F).take i) (fun _=>False)) (fun vi _=>(F.a+F.l-intOf vi).toNat)
 case atStart=>exact⟨0,_,_,by simp,Nat.zero_le _,HC.out.2.1⟩
 case round=>
  obtain⟨i,v,vg,rfl,hi,K⟩:=hrel
  have hll:=HC.out.2.2.2.2.2.2.2.2
  have q2:wr.cell? ⟨w4.heap.size,2,none⟩=some (.int .i64 (F.a+F.l)):=(K.box.2 2 _ rfl).1
  have hlB:w4.heap.size<wr.heap.size:=K.sz
  by_cases hlt:i<ln
  · have fI:F.a+(i:Int)<F.a+F.l:=by{omega};have hfl:((Lw.first F).take i).length<=1000:=by{rw[List.length_take];omega};have hadd:=aV (⟨w4.heap.size,ha,hc,some ⟨gE,0,none⟩,cE,ba,bc,fs,F,E,O,H⟩:LX) w4 wr v vg ((Lw.first F).take i) (fun _=>False) (Nat.le_refl _) K ⟨1,F.a+(i:Int),0,0,0,[]⟩ none 0 0 (OI.nil _ _) (fun g e=>by cases e) (-1) hfl;have HFM:=ae (Lw.CV (f:=F) (i:=i) (by rw[HC.out.2.2.2.2.2.2.2.1];exact hlt));clear K hfl hll;go_wp2_with fail;refine hadd.mono ?_;rintro e X1 ⟨v1,j5,rfl,K1,-⟩;dsimp only;rw[←HFM.out]at K1;clear hadd q2;go_wp2;go_roundw;(case rel=>exact⟨i+1,v1,j5,by simp;omega,hlt,K1⟩);case measure=>simp[intOf];omega
  · have hie:i=ln:=by omega
    have fI:¬F.a+(i:Int)<F.a+F.l:=by omega
    have K2:MK (⟨w4.heap.size,ha,hc,some ⟨gE,0,none⟩,cE,ba,bc,fs,F,E,O,H⟩:LX) w4 wr v vg (Lw.gW fs F E O H 0).1 (fun _=>False):=by have e:(Lw.first F).take i=Lw.first F:=List.take_of_length_le (by rw[Lw.Fp,HC.out.2.2.2.2.2.2.2.1];omega);rw[e]at K;exact K
    have Rp:=HC.out.2.2.1.kept K2.gJ
    have r3:=Rp.cell (j:=3) rfl
    have tN:=aB wr (.cells #[] 2)
    have HK:=ae (K2.kept tN)
    have HO:Hid (OI (wr.alloc (.cells #[] 2)) (w4.heap.size+1) (.slice (some ⟨wr.heap.size,0,none⟩) 0 0) []):=OI.mono (OI.empty wr) hlB
    have iP:Hid (∀g,(Value.slice (some ⟨wr.heap.size,0,none⟩) 0 0).ownBlock=some g->v.ownBlock≠some g/\vg.ownBlock≠some g/\¬False):=fun g e=>by simp only[Value.ownBlock,af]at e;subst e;obtain⟨vs,h1,-⟩:=K2.row;exact⟨fun e=>by have:=(dx h1 e).2;omega,fun e=>by have:=(dx K2.Bc e).2;omega,fun h=>h⟩
    have r3':=(Rp.kept tN).cell (j:=3) rfl
    clear K K2 tN Rp hie hll
    go_wp2
    clear q2 r3 r3'
    go_loopw [14,15] (fun vs vi wx=>∃(i:Nat)(v vg sv:Value)(P:Nat->Prop),vs=sv/\vi= .int .i64 (i:Int)/\i<=F.b.length/\MK (⟨w4.heap.size,ha,hc,some ⟨gE,0,none⟩,cE,ba,bc,fs,F,E,O,H⟩:LX) w4 wx v vg (Lw.gW fs F E O H i).1 P/\OI wx (w4.heap.size+1) sv (Lw.gW fs F E O H i).2/\(∀g,sv.ownBlock=some g->v.ownBlock≠some g/\vg.ownBlock≠some g/\¬P g)/\(∀g,P g->g<wx.heap.size)) (fun _ vi _=>F.b.length-(intOf vi).toNat)
    case atStart=>exact⟨0,v,vg,_,_,rfl,rfl,Nat.zero_le _,HK.out,HO.out,iP.out,fun g h=>h.elim⟩
    case round=>
     obtain⟨i2,v2,wh,sv,P,hse,rfl,hi2,K,hsv,hap,hPb⟩:=hrel
     have acU:=hse.symm
     clear hse
     subst acU
     clear HK HO iP
     obtain⟨j0,hj,hy0,hy1,hy2⟩:=info_parts dD
     have Rp:=HC.out.2.2.1.kept K.gJ
     have r3:=Rp.cell (j:=3) rfl
     have aht:w4.heap.size<wr.heap.size:=K.sz
     have hul:=Lw.sI fs F E O H i2
     have acV:=HC.out.2.2.2.2.2.2.2.1
     by_cases hlt:i2<F.b.length
     · have fI:(i2:Int)<(F.b.length:Int):=by{omega};obtain⟨vs,hrow,-⟩:=K.row;obtain⟨va,vc,rfl⟩:=bQ hrow;have q0:wr.cell? ⟨w4.heap.size,0,none⟩=some (.slice va (Lw.gW fs F E O H i2).1.length vc):=(K.box.2 0 _ rfl).1;have TA:wr.ownsRow (w4.heap.size+1) 2 1 sv i2 ((Lw.gW fs F E O H i2).2.map iv):=by{unfold OI at hsv;rwa [hul.2]at hsv};obtain⟨sa,sc,rfl⟩:=bQ TA;obtain⟨un,hun⟩:∃un,(Lw.gW fs F E O H i2).1.length=un:=⟨_,rfl⟩;have tN:=aB wr (.cells #[.int .i64 (un:Int)] 2);have UK:=ae (aO TA tN);have HKA:=ae (K.kept tN);have acW:un<=900:=by{omega};have Ol:=ae (ak hun hul.2);have iP:=ae hap;have HPB:=ae hPb;rw[hun]at q0;have cHH:∃b o,ha=some ⟨b,o,none⟩/\b<w4.heap.size/\w4.cell? ⟨b,o+i2,none⟩=some (.int .i64 (H.getD i2 0)):=by{obtain⟨hl,-,h3|⟨b,o,e,hb,hh⟩⟩:=HC.out.1.hH;{have:F.b.length=0:=h3;omega};exact⟨b,o,e,hb,hh i2 hlt⟩};obtain⟨hb',ho',rfl,lH,cHH⟩:=cHH;have HHC:Hid (∀X:World,Below w4.heap.size w4 X->X.cell? ⟨hb',ho'+i2,none⟩=some (.int .i64 (H.getD i2 0))):=fun X hX=>(hX.cell (p:=⟨hb',ho'+i2,none⟩) lH).trans cHH;obtain⟨u,hu⟩:∃u,H.getD i2 0=u:=⟨_,rfl⟩;have HU:=ae hu;rw[hu]at HHC;have Qf:=K.sz;have acX:=tN.size;clear K hsv TA hap hPb hrow Rp hun hul cHH hu tN acV;go_wp2_with(at_builtin;refine wpList_append_own_at _ rfl _ _ 27 rfl (w4.heap.size+1) 2 j0 (.int .i64 0) 1 8 Tryz.underlying27 hj hy0 hy1 hy2 rfl (by decide) (.slice sa i2 sc) i2 _ rfl UK.out ⟨wr.heap.size,0,none⟩ 1 1 [.int .i64 (un:Int)] rfl rfl (cell_one_new _ _ _) (by simp[Value.oneCell']) (by simp only[maxLen];omega) (by omega) (by simp;omega) ?_;intro sv' wB hown2 hgrow2 _ yK;obtain⟨g2,cap2,rfl⟩:=ownsRow_succ hown2;have KB:=HKA.out.other (Nat.le_refl _) hgrow2 (fun g e=>⟨(dx UK.out e).1,(iP.out g e).1,(iP.out g e).2.1,(iP.out g e).2.2⟩);have cB:=HHC.out wB KB.gJ;have kP:=ae (ak hown2 (ak hgrow2 (ak yK KB)));have m0:=(HC.out.2.2.2.1.kept KB.gJ).cell (j:=0) rfl;have m1:=(HC.out.2.2.2.1.kept KB.gJ).cell (j:=1) rfl;clear hown2 hgrow2 yK KB;refine RO ?_);unfold Hid;obtain⟨o1,o2,o3,KB⟩:=kP.out;have Ql:Hid (∀g,(Value.slice (some ⟨g2,0,none⟩) (i2+1) cap2).ownBlock=some g->Value.ownBlock (.slice va un vc)≠some g/\wh.ownBlock≠some g/\¬P g/\g<wB.heap.size):=fun g e=>by{have hlt2:=(dx o1 e).2;rcases o3 with e'|e';{rw[e']at e;have:=iP.out g e;rw[Ol.out.1]at this;exact⟨this.1,this.2.1,this.2.2,hlt2⟩};rw[e']at e;simp only[af]at e;obtain⟨vs',hr',-⟩:=HKA.out.row;rw[Ol.out.1]at hr';have hgg:=(dx hr' (g:=g));have hgo:=fun e2=>(dx HKA.out.Bc (g:=g) e2).2;refine⟨fun e2=>by have:=(hgg e2).2;omega,fun e2=>by have:=hgo e2;omega,fun h=>by have:=HPB.out g h;simp only[World.size_alloc]at e;omega,hlt2⟩};rw[Ol.out.1]at KB;have YG:Hid (OI wB (w4.heap.size+1) (.slice (some ⟨g2,0,none⟩) (i2+1) cap2) ((Lw.gW fs F E O H i2).2++[(un:Int)])):=by{show World.ownsRow _ _ _ _ _ _ _;rw[List.length_append,Ol.out.2,List.length_singleton,List.map_append];exact o1};have HKB:=ae KB;have HSZ:Hid (wr.heap.size<=wB.heap.size):=Nat.le_trans acX o2.size;clear o1 o2 o3 KB kP UK HKA iP;by_cases hu0:0<=u;{have hcon:=xI HC.out.1 HKB.out (some ⟨fb,fo,none⟩) len cap d (some ⟨gO,0,none⟩) cO HC.out.2.2.2.2.2.1 HC.out.2.2.2.2.2.2.1 i2 hlt (by show 0<=H.getD i2 0;rw[HU.out];exact hu0) (by rw[Ol.out.1];exact acW);go_wp2_with fail;refine hcon.mono ?_;rintro e X1 ⟨v3,Yw,rfl,K3,F3⟩;dsimp only;have HK3:=ae (ak K3.tight F3);clear hcon K3 F3 m0 m1 cB;go_wp2;go_roundw;(case rel=>obtain⟨K3,F3⟩:=HK3.out;refine⟨i2+1,v3,Yw,_,(fun g=>(P g\/wB.heap.size<=g)/\g<X1.heap.size),rfl,by simp,hlt,?_,?_,fun g e=>?_,fun g h=>h.2⟩;{show MK _ _ _ _ _ ((Lw.gW fs F E O H i2).1++(if 0<=H.getD i2 0 then Lw.step fs F E O H i2 else[])) _;rw[az (by rw[HU.out];exact hu0)];exact K3};{show OI _ _ _ ((Lw.gW fs F E O H i2).2++[((Lw.gW fs F E O H i2).1.length:Int)]);rw[Ol.out.1];exact F3.rows YG.out (fun g e=>⟨by have:=(dx YG.out e).1;show g≠w4.heap.size;omega,(Ql.out g e).1,(Ql.out g e).2.1⟩)};have h2:=Ql.out g e;refine⟨?_,?_,fun h=>?_⟩;{rcases F3.v1 with e'|⟨g',e',hg'⟩;{rw[e'];exact h2.1};rw[e'];simp only[ne_eq,af];omega};{rcases F3.g1 with e'|⟨g',e',hg'⟩;{rw[e'];exact h2.2.1};rw[e'];simp only[ne_eq,af];omega};rcases h.1 with h'|h';{exact h2.2.2.1 h'};omega);case measure=>simp[intOf];omega};clear m0 m1;go_wp2;go_roundw;(case rel=>refine⟨i2+1, .slice va un vc,wh,_,P,rfl,by simp,hlt,?_,?_,fun g e=>?_,fun g h=>?_⟩;{show MK _ _ _ _ _ ((Lw.gW fs F E O H i2).1++(if 0<=H.getD i2 0 then Lw.step fs F E O H i2 else[])) _;rw[ax (by rw[HU.out];exact hu0),List.append_nil];exact HKB.out};{show OI _ _ _ ((Lw.gW fs F E O H i2).2++[((Lw.gW fs F E O H i2).1.length:Int)]);rw[Ol.out.1];exact YG.out};{have h2:=Ql.out g e;exact⟨h2.1,h2.2.1,h2.2.2.1⟩};have:=HPB.out g h;have:=HSZ.out;omega);case measure=>simp[intOf];omega
     · have TB:i2=F.b.length:=by omega
       have fI:¬(i2:Int)<(F.b.length:Int):=by omega
       have r2:=Rp.cell (j:=2) rfl
       have q2:wr.cell? ⟨w4.heap.size,2,none⟩=some (.int .i64 (F.a+F.l)):=(K.box.2 2 _ rfl).1
       have hKE:MK (⟨w4.heap.size,ha,hc,some ⟨gE,0,none⟩,cE,ba,bc,fs,F,E,O,H⟩:LX) w4 wr v2 wh (Lw.gW fs F E O H F.b.length).1 P:=by rw[←TB];exact K
       have TC:OI wr (w4.heap.size+1) sv (Lw.pU fs F E O H):=by unfold Lw.pU;rw[←TB];exact hsv
       have acZ:=Lw.sI fs F E O H F.b.length
       have hRG:=ae (Lw.Hl HC.out.1.acc)
       have HRW:Hid (Lw.raw fs F E O H=(Lw.gW fs F E O H F.b.length).1++Lw.last F):=rfl
       have YO:Hid ((Lw.pU fs F E O H).length=F.b.length):=acZ.2
       have Qm:Hid (∀(XX:World)(vx Qn:Value),MK (⟨w4.heap.size,ha,hc,some ⟨gE,0,none⟩,cE,ba,bc,fs,F,E,O,H⟩:LX) w4 XX vx Qn (Lw.raw fs F E O H) P->FX (⟨w4.heap.size,ha,hc,some ⟨gE,0,none⟩,cE,ba,bc,fs,F,E,O,H⟩:LX) v2 wh vx Qn wr XX->OI XX (w4.heap.size+1) sv (Lw.pU fs F E O H)):=fun XX vx Qn hK hX=>hX.rows TC (fun g e=>⟨by have:=(dx TC e).1;show g≠w4.heap.size;omega,(hap g e).1,(hap g e).2.1⟩)
       obtain⟨R,hR⟩:∃R,Lw.raw fs F E O H=R:=⟨_,rfl⟩
       obtain⟨st,hst⟩:∃st,Lw.pU fs F E O H=st:=⟨_,rfl⟩
       have HFN:Hid (Lw.func fs F E O H=if R.length<=300 then R.map (Lw.OU st)else[]):=by show _=_;unfold Lw.func;rw[hR,hst]
       have hRl:R.length<=1000:=by rw[←hR,HRW.out,List.length_append];(have:(Lw.last F).length<=2:=by unfold Lw.last;split<;>simp);omega
       rw[hR]at hRG HRW Qm
       rw[hst]at YO Qm
       clear K hsv Rp TC hul TB hR hst hap
       have HPK:Hid (∀(XX:World)(vx Qn:Value),MK (⟨w4.heap.size,ha,hc,some ⟨gE,0,none⟩,cE,ba,bc,fs,F,E,O,H⟩:LX) w4 XX vx Qn R P->FX (⟨w4.heap.size,ha,hc,some ⟨gE,0,none⟩,cE,ba,bc,fs,F,E,O,H⟩:LX) v2 wh vx Qn wr XX->PK (⟨w4.heap.size,ha,hc,some ⟨gE,0,none⟩,cE,ba,bc,fs,F,E,O,H⟩:LX) w4 XX vx Qn sv R st 0):=fun XX vx Qn hK hX=>PK.of hK (Qm.out XX vx Qn hK hX)
       clear Qm
       rcases Qe with hg|hg
       case' inl=>
        rw[hg]at r2
        replace HRW:Hid (R=(Lw.gW fs F E O H F.b.length).1++[(⟨1,F.a+F.l+20,0,0,0,[]⟩,-1)]++[(⟨10,0,F.a+F.l+20,0,0,[]⟩,-1)]):=by show _=_;rw[HRW.out];unfold Lw.last;rw[az hg,List.append_assoc];rfl
        have Bf:=aV (⟨w4.heap.size,ha,hc,some ⟨gE,0,none⟩,cE,ba,bc,fs,F,E,O,H⟩:LX) w4 wr v2 wh (Lw.gW fs F E O H F.b.length).1 P (Nat.le_refl _) hKE ⟨1,F.a+F.l+20,0,0,0,[]⟩ none 0 0 (OI.nil _ _) (fun g e=>by cases e) (-1) (by omega)
        clear hKE
        go_wp2_with fail
        refine Bf.mono ?_
        rintro e X1 ⟨v3,Yw,rfl,K3,F3⟩
        dsimp only
        have Rq:=aV (⟨w4.heap.size,ha,hc,some ⟨gE,0,none⟩,cE,ba,bc,fs,F,E,O,H⟩:LX) w4 X1 v3 Yw _ P (Nat.le_refl _) K3 ⟨10,0,F.a+F.l+20,0,0,[]⟩ none 0 0 (OI.nil _ _) (fun g e=>by cases e) (-1) (by rw[List.length_append,List.length_singleton];omega)
        clear Bf r2 q2 r3
        go_wp2_with fail
        refine Rq.mono ?_
        rintro e XF ⟨vF,gF,rfl,K4,F4⟩
        dsimp only
        rw[←HRW.out]at K4
        have YP:=ae (HPK.out XF vF gF K4 (F3.trans F4))
        clear Rq K3 F3 K4 F4 HPK
       case' inr=>
        rw[hg]at r2
        replace HRW:Hid (R=(Lw.gW fs F E O H F.b.length).1++[(⟨10,0,F.a+F.l,0,0,[]⟩,-1)]):=by show _=_;rw[HRW.out];unfold Lw.last;rw[ax (by omega)];rfl
        have Bf:=aV (⟨w4.heap.size,ha,hc,some ⟨gE,0,none⟩,cE,ba,bc,fs,F,E,O,H⟩:LX) w4 wr v2 wh (Lw.gW fs F E O H F.b.length).1 P (Nat.le_refl _) hKE ⟨10,0,F.a+F.l,0,0,[]⟩ none 0 0 (OI.nil _ _) (fun g e=>by cases e) (-1) (by omega)
        clear hKE
        go_wp2_with fail
        refine Bf.mono ?_
        rintro e XF ⟨vF,gF,rfl,K4,F4⟩
        dsimp only
        rw[←HRW.out]at K4
        have YP:=ae (HPK.out XF vF gF K4 F4)
        clear Bf r2 q2 r3 K4 F4 HPK
       all_goals have hR1:1<=R.length:=by{rw[HRW.out];simp};obtain⟨vs0,Rt,-⟩:=YP.out.row;obtain⟨gv,cv,rfl⟩:∃gv cv,vF= .slice (some ⟨gv,0,none⟩) R.length cv:=by{rcases Rt.2 with⟨-,h0⟩|⟨g',cap',cur,h',-⟩;{omega};exact⟨g',cap',h'⟩};have Qo:=YP.out.Bc;have FN:=YP.out.YH;unfold OI at Qo FN;rw[List.length_map]at Qo;rw[YO.out]at FN;obtain⟨ga,gc,rfl⟩:=bQ Qo;obtain⟨sa,sc,rfl⟩:=bQ FN;clear Rt Qo FN;have hRZ:(R.length:Int)<=1000:=by{omega};go_wp2;go_loopw [17] (fun vi wx=>∃i:Nat,vi= .int .i64 (i:Int)/\i<=R.length/\PK (⟨w4.heap.size,ha,hc,some ⟨gE,0,none⟩,cE,ba,bc,fs,F,E,O,H⟩:LX) w4 wx (.slice (some ⟨gv,0,none⟩) R.length cv) (.slice ga R.length gc) (.slice sa F.b.length sc) R st i) (fun vi _=>R.length-(intOf vi).toNat);(case atStart=>exact⟨0,rfl,Nat.zero_le _,YP.out⟩);case round=>obtain⟨i3,rfl,hi3,hP⟩:=hrel;have q0:wr.cell? ⟨w4.heap.size,0,none⟩=some (.slice (some ⟨gv,0,none⟩) R.length cv):=(hP.box.2 0 _ rfl).1;have q1:wr.cell? ⟨w4.heap.size,1,none⟩=some (.slice ga R.length gc):=(hP.box.2 1 _ rfl).1;have YQ:w4.heap.size<wr.heap.size:=hP.sz;by_cases hlt3:i3<R.length;{have YR:(i3:Int)<(R.length:Int):=by{omega};have hmem:R.getD i3 (.z,0)∈R:=by{rw[ah,ai hlt3];exact List.getElem_mem hlt3};have Ru:=hRG.out _ hmem;have cG:∃b o,ga=some ⟨b,o,none⟩/\b<wr.heap.size/\wr.cell? ⟨b,o+i3,none⟩=some (.int .i64 (R.getD i3 (.z,0)).2):=by{have hil:=(OI.il hP.Bc).2;obtain⟨hl,-,h3|⟨b,o,e,hb,hh⟩⟩:=hil;{omega};refine⟨b,o,e,hb,?_⟩;rw[hh i3 hlt3,ah,ah,List.getElem?_map,ai hlt3];rfl};obtain⟨gb,go,rfl,lG,cG⟩:=cG;obtain⟨tg,YS⟩:∃tg,(R.getD i3 (.z,0)).2=tg:=⟨_,rfl⟩;by_cases ht0:0<=tg;{have cT:∃b o,sa=some ⟨b,o,none⟩/\b<wr.heap.size/\wr.cell? ⟨b,o+tg.toNat,none⟩=some (.int .i64 (st.getD tg.toNat 0)):=by{have hil:=(OI.il hP.YH).2;obtain⟨hl,-,h3|⟨b,o,e,hb,hh⟩⟩:=hil;{omega};exact⟨b,o,e,hb,hh tg.toNat (by omega)⟩};obtain⟨sb,so,rfl,lS,cT⟩:=cT;have YT:=ae (fun(X:World) hX=>PK.fill (hP.kept (W':=X) hX) (Nat.le_refl _) hlt3 (by rw[YS];exact ht0));rw[YS]at YT cG Ru;obtain⟨tn,rfl⟩:=Int.eq_ofNat_of_zero_le ht0;rw[aA]at cT YT;obtain⟨y,hy⟩:∃y,st.getD tn 0=y:=⟨_,rfl⟩;rw[hy]at cT YT;have ahv:(tn:Int)<(F.b.length:Int):=by{omega};obtain⟨vs1,qK,ac1,-⟩:=hP.row;have hgv:=(dx qK rfl).2;have g4:=(mW vs1 i3 (by omega)).2.2.2.2.1;have c4:=(qK.cellAt (i3*6+4) (by omega)).trans g4;have f4:=qK.frozenAt (i3*6+4);obtain⟨z4,hz4⟩:∃z,(vs1.getD i3 iA).2.2.2.2.1=z:=⟨_,rfl⟩;rw[hz4]at c4;have b0:∀p:bP wr,p.to.cell? ⟨w4.heap.size,0,none⟩=some (.slice (some ⟨gv,0,none⟩) R.length cv):=fun p=>(p.h.cell (p:=⟨w4.heap.size,0,none⟩) YQ).trans q0;have b1:∀p:bP wr,p.to.cell? ⟨w4.heap.size,1,none⟩=some (.slice (some ⟨gb,go,none⟩) R.length gc):=fun p=>(p.h.cell (p:=⟨w4.heap.size,1,none⟩) YQ).trans q1;have b2:∀p:bP wr,p.to.cell? ⟨gb,go+i3,none⟩=some (.int .i64 (tn:Int)):=fun p=>(p.h.cell (p:=⟨gb,go+i3,none⟩) lG).trans cG;have b3:∀p:bP wr,p.to.cell? ⟨sb,so+tn,none⟩=some (.int .i64 y):=fun p=>(p.h.cell (p:=⟨sb,so+tn,none⟩) lS).trans cT;have HC4:Hid (∀p:bP wr,p.to.cell? ⟨gv,i3*6+4,none⟩=some (.int .i64 z4)/\p.to.frozen? ⟨gv,i3*6+4,none⟩=false):=fun p=>⟨(p.h.cell (p:=⟨gv,i3*6+4,none⟩) hgv).trans c4,(p.h.frozen (p:=⟨gv,i3*6+4,none⟩) hgv).trans f4⟩;have hne:=bP.any wr;clear hP qK ac1 c4 f4 g4 hz4 hy YS hmem cT;go_wp2;refine aY 17 (by kernel_rfl) (by kernel_rfl) ?_;simp only[List.take_succ_cons,List.take_zero,List.drop_succ_cons,List.drop_zero];(repeat(go_big_quiet_step (fail)));refine wpQuiet_nil ?_;rintro _ ⟨pw,rfl⟩;have hc4:=(HC4.out pw).1;have hf4:=(HC4.out pw).2;have HFin:=ae (YT.out _ pw.h);clear b0 b1 b2 b3 hne HC4 YT q0 q1 cG;obtain⟨X3,hX3⟩:∃X3,pw.to=X3:=⟨_,rfl⟩;rw[hX3]at hc4 hf4 HFin ⊢;clear hX3;go_wp2;go_roundw;(case rel=>exact⟨i3+1,by simp,hlt3,HFin.out⟩);case measure=>simp[intOf];omega};have HFin:=ae (hP.skip hlt3 (by omega));rw[YS]at cG;clear hP YS hmem Ru;go_wp2;go_roundw;(case rel=>exact⟨i3+1,by simp,hlt3,HFin.out⟩);case measure=>simp[intOf];omega};have TD:i3=R.length:=by{omega};have YR:¬(i3:Int)<(R.length:Int):=by{omega};have hBf:=HC.out.2.2.2.2.1.trans (hP.gJ.mono HC.out.2.2.2.2.1.size);have hw4:=HC.out.2.2.2.2.1.size;by_cases TE:R.length<=300;{have YU:¬(300:Int)<(R.length:Int):=by{omega};have HF:Hid (ni wr w.heap.size (.slice (some ⟨gv,0,none⟩) R.length cv) (Lw.func fs F E O H)):=by{obtain⟨vs,h1,h2,h3⟩:=hP.row;have e:Lw.part st R i3=R.map (Lw.OU st):=by{unfold Lw.part;rw[TD,List.take_length,List.drop_length];simp};rw[e]at h3;have eL:(Lw.func fs F E O H).length=R.length:=by{rw[HFN.out,az TE,List.length_map]};refine⟨gv,cv,vs,by rw[eL],?_,?_⟩;{rw[eL];exact pO h1 (by show w.heap.size<=w4.heap.size+1;omega)};rw[eL,HFN.out,az TE];exact h3.mono (by show w.heap.size<=w4.heap.size+1;omega)};clear hP TD;go_wp2;go_ret;exact⟨_,rfl,HF.out,hBf⟩};have YU:(300:Int)<(R.length:Int):=by{omega};have tN:=aB wr (.cells #[] 109);have hBg:=hBf.trans (tN.mono hBf.size);have HF:Hid (ni (wr.alloc (.cells #[] 109)) w.heap.size (.slice (some ⟨wr.heap.size,0,none⟩) 0 0) (Lw.func fs F E O H)):=by{show ni _ _ _ _;rw[HFN.out,ax TE];exact⟨wr.heap.size,0,[],rfl,⟨rfl, .inr ⟨wr.heap.size,0,#[],rfl,by omega,World.alloc_heap_new wr _,Nat.le_refl _,by simp[maxLen],rfl,rfl⟩⟩,fun j hj=>by simp at hj⟩};clear hP TD tN;go_wp2;go_ret;exact⟨_,rfl,HF.out,hBg⟩
theorem ni.mono {W:World}{n₀ n₁:Nat}{v:Value}{fs:List Ln}(h:ni W n₁ v fs)(hn:n₀<=n₁):ni W n₀ v fs:=by obtain⟨g,cap,vs,e,h1,h2⟩:=h;exact⟨g,cap,vs,e,pO h1 hn,h2.mono hn⟩
theorem ni.none (W:World)(n₀:Nat)(hn:n₀<=W.heap.size):ni (W.alloc (.cells #[] 109)) n₀ (.slice (some ⟨W.heap.size,0,none⟩) 0 0) []:=
 ⟨W.heap.size,0,[],rfl,⟨rfl, .inr ⟨W.heap.size,0,#[],rfl,hn,World.alloc_heap_new W _,Nat.le_refl _,by simp[maxLen],rfl,rfl⟩⟩,fun j hj=>by simp at hj⟩
theorem xu (a:Option Addr)(len cap:Nat)(fs:List Fn)(d:ByteArray)(hd:d.size<=maxLen)(k:Int)(w:World)(hs:FL w a len fs):Calls Tryz.prog 75 #[.agg #[.slice a len cap, .string d], .int .i64 k] w fun e w'=>∃v,e= .returned v/\ni w' w.heap.size v (Lw.iQ fs d k)/\Below w.heap.size w w':=by have hl:=hs.1;have hB1:=aB w (.cells #[.slice a len cap, .string d] 26);have hM1:dS (w.alloc (.cells #[.slice a len cap, .string d] 26)) w.heap.size 26 [.slice a len cap, .string d]:=heap_alloc_last w _;obtain⟨W1,hW1⟩:∃X,w.alloc (.cells #[.slice a len cap, .string d] 26)=X:=⟨_,rfl⟩;rw[hW1]at hB1 hM1;have hs1:=hs.kept hB1;have hcon:=tJ a len cap fs d hd W1 hs1;have c0:=hM1.cell (j:=0) rfl;have c1:=hM1.cell (j:=1) rfl;have hm:=hs.2.1;unfold maxLen at hm;clear hs;have bad:∀(W2:World),Below w.heap.size w W2->Lw.iQ fs d k=[]->ni (W2.alloc (.cells #[] 109)) w.heap.size (.slice (some ⟨W2.heap.size,0,none⟩) 0 0) (Lw.iQ fs d k)/\Below w.heap.size w (W2.alloc (.cells #[] 109)):=fun W2 hB e=>by{rw[e];exact⟨ni.none W2 _ hB.size,hB.trans ((aB W2 _).mono hB.size)⟩};rcases hv:Hg.valid fs d with _|_;{have HE:Hid (Lw.iQ fs d k=[]):=by{show _=_;unfold Lw.iQ;rw[ax (by rw[hv];simp)]};rw[hv]at hcon;go_enter Tryz.func75,Tryz.ntmps75;go_wp2_with fail;refine hcon.mono ?_;rintro e w2 ⟨rfl,hB2⟩;dsimp only;have HF:=ae (bad w2 (hB1.trans (hB2.mono hB1.size)) HE.out);clear hcon c0 c1 bad hs1;go_wp2;go_ret;exact⟨_,rfl,HF.out.1,HF.out.2⟩};rw[hv]at hcon;by_cases hk0:k<0;{have HE:Hid (Lw.iQ fs d k=[]):=by{show _=_;unfold Lw.iQ;rw[ax (by omega)]};go_enter Tryz.func75,Tryz.ntmps75;go_wp2_with fail;refine hcon.mono ?_;rintro e w2 ⟨rfl,hB2⟩;dsimp only;have HF:=ae (bad w2 (hB1.trans (hB2.mono hB1.size)) HE.out);clear hcon c0 c1 bad hs1;go_wp2;go_ret;exact⟨_,rfl,HF.out.1,HF.out.2⟩};by_cases hk1:(len:Int)<=k;{have HE:Hid (Lw.iQ fs d k=[]):=by{show _=_;unfold Lw.iQ;rw[ax (by omega)]};go_enter Tryz.func75,Tryz.ntmps75;go_wp2_with fail;refine hcon.mono ?_;rintro e w2 ⟨rfl,hB2⟩;dsimp only;have HF:=ae (bad w2 (hB1.trans (hB2.mono hB1.size)) HE.out);have d0:=(hM1.kept hB2).cell (j:=0) rfl;clear hcon c0 c1 bad hs1 hl;go_wp2;go_ret;exact⟨_,rfl,HF.out.1,HF.out.2⟩};obtain⟨kn,rfl⟩:=Int.eq_ofNat_of_zero_le (show 0<=k by omega);have HE:Hid (Lw.iQ fs d (kn:Int)=Lw.func fs (Mn.fn fs kn) (aQ.ends (Mn.fn fs kn).b) (aQ.bE (Mn.fn fs kn).b) (Mn.pK fs kn)):=by{show _=_;unfold Lw.iQ;rw[az ⟨hv,by omega,by omega⟩,aA]};go_enter Tryz.func75,Tryz.ntmps75;go_wp2_with fail;refine hcon.mono ?_;rintro e w2 ⟨rfl,hB2⟩;dsimp only;have hB3:=hB1.trans (hB2.mono hB1.size);have fE:=lV a len cap fs d hv kn (by omega) w2 (hs1.kept hB2);rw[←HE.out]at fE;have d0:=(hM1.kept hB2).cell (j:=0) rfl;have d1:=(hM1.kept hB2).cell (j:=1) rfl;clear hcon c0 c1 bad hs1 hl;go_wp2_with fail;refine fE.mono ?_;rintro e w4 ⟨v,rfl,ho,hB4⟩;dsimp only;have HF:=ae (ak (ho.mono hB3.size) (hB3.trans (hB4.mono hB3.size)));obtain⟨g,cap',rfl,-⟩:=ho.LL;clear fE ho hB4 d0 d1;go_wp2;go_ret;exact⟨_,rfl,HF.out.1,HF.out.2⟩
namespace Lw
def Rb (fs:List Fn)(k:Nat):List Ln:=func fs (Mn.fn fs k) (aQ.ends (Mn.fn fs k).b) (aQ.bE (Mn.fn fs k).b) (Mn.pK fs k)
def vT (fs:List Fn)(k:Nat):List (List Ln):=(List.range k).map (Rb fs)
def vG (fs:List Fn):Bool:=(List.range fs.length).all fun k=>decide ((Rb fs k).length≠0)
def eT (fs:List Fn)(d:ByteArray):List (List Ln)×Bool:=if Hg.valid fs d=true/\vG fs=true then(vT fs fs.length,true)else([],false)
theorem Ct (fs:List Fn)(k:Nat):vT fs (k+1)=vT fs k++[Rb fs k]:=by simp[vT,List.range_succ]
theorem Gj {fs:List Fn}{k:Nat}(hk:k<fs.length)(h:(Rb fs k).length=0):vG fs=false:=by rcases e:vG fs with _|_;{rfl};unfold vG at e;have:=List.all_eq_true.1 e k (List.mem_range.2 hk);rw[decide_eq_true_eq]at this;exact absurd h this
theorem EQ {fs:List Fn}(h:∀k,k<fs.length->(Rb fs k).length≠0):vG fs=true:=by unfold vG;rw[List.all_eq_true];intro k hk;rw[decide_eq_true_eq];exact h k (List.mem_range.1 hk)
end Lw
theorem AP:(Tryz.prog.info? 67).map (fun i=>(i.zero,i.size,i.bytes))=some (some (.slice none 0 0),1,24):=by kernel_rfl
def RR (W:World)(n₀ g n cc:Nat)(ws:List Value)(iD:List (List Ln)):Prop:=
 W.ownsRow n₀ 67 1 (.slice (some ⟨g,0,none⟩) n cc) n ws/\ws.length=n/\iD.length=n/\∀j,j<n->ni W n₀ (ws.getD j undef) (iD.getD j [])
theorem ni.Ic {W W':World}{n₀:Nat}{v:Value}{fs:List Ln}(h:ni W n₀ v fs)(hB:Below W.heap.size W W'):ni W' n₀ v fs:=by obtain⟨g,cap,vs,e,h1,h2⟩:=h;exact⟨g,cap,vs,e,aO h1 hB,h2.kept hB⟩
theorem ni.Vv {W W':World}{n₀:Nat}{v:Value}{fs:List Ln}{n₂ k m:Nat}{u:Value}{xs:List Value}(h:ni W n₀ v fs)(hu:W.ownsRow n₂ 67 k u m xs)(hg:W.grownBy W' u.ownBlock):ni W' n₀ v fs:=by obtain⟨g,cap,vs,e,h1,h2⟩:=h;have hint:109≠67:=by{decide};have YV:2≠67:=by{decide};exact⟨g,cap,vs,e,dO h1 hg (fun g e=>eZ h1 hu hint e),h2.dJ hg (fun j hj g e=>eZ (h2 j hj).2.2.2.2.2 hu YV e)⟩
theorem RR.kept {W W':World}{n₀ g n cc:Nat}{ws:List Value}{iD:List (List Ln)}(h:RR W n₀ g n cc ws iD)(hB:Below W.heap.size W W'):RR W' n₀ g n cc ws iD:=
 ⟨aO h.1 hB,h.2.1,h.2.2.1,fun j hj=>(h.2.2.2 j hj).Ic hB⟩
theorem RR.zero (W:World)(n₀:Nat)(hn:n₀<=W.heap.size):RR (W.alloc (.cells #[] 67)) n₀ W.heap.size 0 0 [] []:=
 ⟨⟨rfl, .inr ⟨W.heap.size,0,#[],rfl,hn,World.alloc_heap_new W _,Nat.le_refl _,by simp[maxLen],rfl,rfl⟩⟩,rfl,rfl,fun j hj=>by omega⟩
theorem RR.mono {W:World}{n₀ n₁ g n cc:Nat}{ws:List Value}{iD:List (List Ln)}(h:RR W n₁ g n cc ws iD)(hn:n₀<=n₁):RR W n₀ g n cc ws iD:=
 ⟨pO h.1 hn,h.2.1,h.2.2.1,fun j hj=>(h.2.2.2 j hj).mono hn⟩
theorem RR.more {W W1 W2:World}{n₀ g n cc g' cc':Nat}{ws:List Value}{iD:List (List Ln)}(h:RR W n₀ g n cc ws iD)(hB:Below W.heap.size W W1)(v:Value)(l:List Ln)(hv:ni W n₀ v l)(hrow:W2.ownsRow n₀ 67 1 (.slice (some ⟨g',0,none⟩) (n+1) cc') (n+1) (ws++[v]))(hg:W1.grownBy W2 (Value.slice (some ⟨g,0,none⟩) n cc).ownBlock):RR W2 n₀ g' (n+1) cc' (ws++[v]) (iD++[l]):=by obtain⟨r1,r2,r3,r4⟩:=h;have r1':=aO r1 hB;refine⟨hrow,by simp[r2],by simp[r3],fun j hj=>?_⟩;by_cases hjn:j<n;{have e1:(ws++[v]).getD j undef=ws.getD j undef:=by{rw[ah,List.getElem?_append_left (by omega),←ah]};have e2:(iD++[l]).getD j []=iD.getD j []:=by{rw[ah,List.getElem?_append_left (by omega),←ah]};rw[e1,e2];exact((r4 j hjn).Ic hB).Vv r1' hg};obtain rfl:j=n:=by{omega};have e1:(ws++[v]).getD j undef=v:=by{rw[ah,List.getElem?_append_right (by omega),r2];simp};have e2:(iD++[l]).getD j []=l:=by{rw[ah,List.getElem?_append_right (by omega),r3];simp};rw[e1,e2];exact(hv.Ic hB).Vv r1' hg
theorem Gu (W W':World)(p:Value)(ty:TypeId)(H:Nat)(hH:W.heap.size=H)(hc:∀i,W'.cell? ⟨H,i,none⟩=(W.alloc (.cells #[p] ty)).cell? ⟨H,i,none⟩):∀j y,[p][j]?=some y->W'.cell? ((⟨H,0,none⟩:Addr).add j)=some y:=by subst hH;intro j y hy;(have hadd:(⟨W.heap.size,0,none⟩:Addr).add j=⟨W.heap.size,j,none⟩:=by unfold Addr.add;split<;>simp_all);rw[hadd,hc,World.cell?_alloc_at _ _ _ _ rfl];simpa using hy
theorem qO (a:Option Addr)(len cap:Nat)(fs:List Fn)(d:ByteArray)(hd:d.size<=maxLen)(w:World)(hs:FL w a len fs):Calls Tryz.prog 9 #[.agg #[.slice a len cap, .string d]] w fun e w'=>∃g n cc ws,e= .returned (.tuple #[.slice (some ⟨g,0,none⟩) n cc, .bool (Lw.eT fs d).2])/\RR w' w.heap.size g n cc ws (Lw.eT fs d).1/\Below w.heap.size w w':=by obtain⟨i0,hi,hz0,hz1,hz2⟩:=info_parts AP;have hl:=hs.1;have hB1:=aB w (.cells #[.slice a len cap, .string d] 26);have bM:=bq.new w [.slice a len cap, .string d] 26;have eM:w.alloc (.cells [Value.slice a len cap, .string d].toArray 26)=w.alloc (.cells #[.slice a len cap, .string d] 26):=rfl;rw[eM]at bM;generalize hW1:w.alloc (.cells #[.slice a len cap, .string d] 26)=W1 at hB1 bM;have YW:=aB W1 (.cells #[] 67);have hr0:=RR.zero W1 W1.heap.size (Nat.le_refl _);have hB2:=hB1.trans (YW.mono hB1.size);have UL:=bM.kept YW;generalize hW2:W1.alloc (.cells #[] 67)=W2 at YW hr0 hB2 UL;have hcon:=tJ a len cap fs d hd W2 (hs.kept hB2);have m0:=(UL.2 0 _ rfl).1;have m1:=(UL.2 1 _ rfl).1;have hszW:w.heap.size<W1.heap.size:=by{rw[←hW1];simp};rcases hv:Hg.valid fs d with _|_;{have e0:Lw.eT fs d=([],false):=by{unfold Lw.eT;rw[ax (by rw[hv];simp)]};rw[hv]at hcon;rw[e0];clear hs hv e0 bM UL YW;go_enter Tryz.func9,Tryz.ntmps9;go_wp2_with fail;refine hcon.mono ?_;rintro e w2 ⟨rfl,hB3⟩;dsimp only;have HF:=ae (ak ((hr0.kept hB3).mono (Nat.le_of_lt hszW)) (hB2.trans (hB3.mono hB2.size)));clear hcon m0 m1 hr0 hB3 hB2;go_wp2;go_ret2;exact⟨_,_,_,_,rfl,HF.out.1,HF.out.2⟩};rw[hv]at hcon;have hl4:len<=4:=by{have:=(Mn.mI hv).len.2;omega};have hlow:=fun(W:World) (hB:Below w.heap.size w W) (k:Nat) (hk:k<len)=>lV a len cap fs d hv k hk W (hs.kept hB);have HV:=ae hv;have HS:=ae hlow;clear hs hv bM YW hlow;go_enter Tryz.func9,Tryz.ntmps9;go_wp2_with fail;refine hcon.mono ?_;rintro e w2 ⟨rfl,hB3⟩;dsimp only;have hr3:=hr0.kept hB3;have bM3:=UL.kept hB3;have FV:=hB2.trans (hB3.mono hB2.size);clear hcon m0 m1 hr0 hB3 hB2 UL;go_wp2;go_loopw [4,5] (fun u i wr=>∃(j g cc:Nat)(ws:List Value),i= .int .i64 (j:Int)/\j<=len/\u= .slice (some ⟨g,0,none⟩) j cc/\RR wr W1.heap.size g j cc ws (Lw.vT fs j)/\Below w.heap.size w wr/\bq wr w.heap.size [.slice a len cap, .string d]/\∀k,k<j->(Lw.Rb fs k).length≠0) (fun _ i _=>len-(intOf i).toNat);(case atStart=>exact⟨0,_,0,[],rfl,Nat.zero_le _,rfl,hr3,FV,bM3,fun k hk=>by omega⟩);case round=>obtain⟨j,g,cc,ws,rfl,hjn,rfl,hR,hBw,Bg,hne⟩:=hrel;clear hr3 FV bM3;have bMj:=Bg;have m0:=(bMj.2 0 _ rfl).1;have m1:=(bMj.2 1 _ rfl).1;by_cases hlt:j<len;{have Dg:(j:Int)<(len:Int):=by{omega};have hcj:=HS.out wr hBw j hlt;have HR:=ae (ak hR (ak hBw (ak Bg hne)));clear hR hBw Bg hne bMj;go_wp2_with fail;refine hcj.mono ?_;rintro e w4 ⟨v4,rfl,Eo,hB4⟩;dsimp only;obtain⟨hR,hBw,Bg,hne⟩:=HR.out;have UM:=hR.kept hB4;have yL:=hBw.trans (hB4.mono hBw.size);have Bh:=Bg.kept hB4;have Qf:W1.heap.size<=wr.heap.size:=Nat.le_trans (dx hR.1 rfl).1 (Nat.le_of_lt (dx hR.1 rfl).2);have Ep:=Eo.mono Qf;obtain⟨gl,cl,rfl,-,-,-⟩:=Eo.LL;obtain⟨ln,hln⟩:∃n,(Lw.Rb fs j).length=n:=⟨_,rfl⟩;have TF:(Lw.func fs (Mn.fn fs j) (aQ.ends (Mn.fn fs j).b) (aQ.bE (Mn.fn fs j).b) (Mn.pK fs j)).length=ln:=hln;rw[TF]at Ep ⊢;have YX:ni w4 W1.heap.size (.slice (some ⟨gl,0,none⟩) ln cl) (Lw.Rb fs j):=Ep;rcases Nat.eq_zero_or_pos ln with h0|hpos;{subst h0;have hno:=Lw.Gj (by rw[hl];exact hlt) hln;have HE:Hid (Lw.eT fs d=([],false)):=by{show _=_;unfold Lw.eT;rw[ax (by rw[hno];simp)]};have HF:=ae (ak (RR.zero w4 w.heap.size yL.size) (yL.trans ((aB w4 (.cells #[] 67)).mono yL.size)));clear HR hR hBw Bg hne UM yL Bh Eo Ep YX hcj hB4 m0 m1 hln TF;go_wp2;(try simp only[Exit.inBlock,Exit.then]);go_ret2;rw[HE.out];exact⟨_,_,_,_,rfl,HF.out.1,HF.out.2⟩};have hz:((ln:Int)==0)=false:=by{simp;omega};have hBa:=aB w4 (.cells #[.slice (some ⟨gl,0,none⟩) ln cl] 67);have HRW:=ae (aO UM.1 hBa);have HK:=ae (ak UM (ak yL (ak Bh (ak hne (ak YX (ak hln hBa))))));have nU:W1.heap.size<=w4.heap.size:=Nat.le_trans Qf hB4.size;clear HR hR hBw Bg hne UM yL Bh Eo Ep YX hcj hB4 m0 m1 hln TF hBa;go_wp2_with(at_builtin;refine wpList_append_own_at _ rfl _ _ 33 rfl W1.heap.size 67 i0 (.slice none 0 0) 1 24 Tryz.underlying33 hi hz0 hz1 hz2 rfl (by decide) (.slice (some ⟨g,0,none⟩) j cc) j ws rfl HRW.out ⟨w4.heap.size,0,none⟩ 1 1 [.slice (some ⟨gl,0,none⟩) ln cl] rfl rfl (Gu w4 _ _ 67 _ rfl (fun i=>rfl)) (by simp[Value.oneCell']) (by simp only[maxLen];omega) (by omega) (by simp;omega) ?_;intro v2 wB hown2 hgrow2 _ yK;obtain⟨g2,cap2,rfl⟩:=ownsRow_succ hown2;have lX:=ae (ak hown2 hgrow2);clear hown2 hgrow2 yK);go_roundw;(case rel=>obtain⟨UM,yL,Bh,hne,YX,hln,hBa⟩:=HK.out;have hM:=UM.more hBa _ _ YX lX.out.1 lX.out.2;rw[←Lw.Ct]at hM;refine⟨j+1,g2,cap2,_,by congr 1<;>omega,by omega,rfl,hM,dZ (yL.trans (hBa.mono yL.size)) lX.out.2 (fun b e=>by have:=(dx HRW.out e).1;omega),?_,fun k hk=>?_⟩;{exact(Bh.kept hBa).dJ lX.out.2 (fun e=>by have:=(dx HRW.out e).1;omega)};by_cases e:k=j;{subst e;omega};exact hne k (by omega));case measure=>simp[intOf];omega};obtain rfl:j=len:=by{omega};have Dg:¬((j:Int)<(j:Int)):=by{omega};have ny:=Lw.EQ (fs:=fs) (fun k hk=>hne k (by omega));have HE:Hid (Lw.eT fs d=(Lw.vT fs j,true)):=by{show _=_;unfold Lw.eT;rw[az ⟨HV.out,ny⟩,hl]};have HF:=ae (ak (hR.mono (Nat.le_of_lt hszW)) hBw);clear hR hBw Bg hne bMj ny;go_wp2;go_ret2;rw[HE.out];exact⟨_,_,_,rfl,⟨_,HF.out.1⟩,HF.out.2⟩
theorem dY (a:Option Addr)(len cap:Nat)(xs:List Int)(w:World)(hs:IL w a len xs):Calls Tryz.prog 18 #[.slice a len cap] w fun e w'=>e= .returned (.bool (Mm.ok xs))/\w'=w:=by obtain⟨hl,hm,hrow⟩:=hs;have HL:=ae hl;unfold maxLen at hm;clear hl;go_enter Tryz.func18,Tryz.ntmps18;go_wp2;go_loop [3] (fun i=>∃k:Nat,i= .int .i64 k/\k<=len/\∀j,j<k->0<=xs.getD j 0/\xs.getD j 0<=255) (fun i=>len-(intOf i).toNat);(case atStart=>exact⟨0,rfl,Nat.zero_le _,by simp⟩);case round=>obtain⟨k,rfl,hk,hall⟩:=hrel;have HA:=ae hall;clear hall;by_cases hlt:k<len;{rcases hrow with h0|⟨b,off,rfl,hb,hx⟩;{omega};have hx0:=hx k hlt;have fI:(k:Int)<(len:Int):=by{omega};obtain⟨p,hp⟩:∃p,xs.getD k 0=p:=⟨_,rfl⟩;rw[hp]at hx0;have HP:=ae hp;clear hx hp;rcases hin:Wd.dH p 0 255 with _|_;{go_wp2_with(go_at_call 47;refine(aN _ _ _ _).mono ?_;rintro e w' ⟨rfl,aW⟩;subst w';rw[hin]);go_ret;refine⟨cK ?_,rfl⟩;symm;rw[Bool.eq_false_iff];intro h;have h2:=Mm.j3 h k;rw[HP.out,←Wd.bA,hin]at h2;cases h2};go_wp2_with(go_at_call 47;refine(aN _ _ _ _).mono ?_;rintro e w' ⟨rfl,aW⟩;subst w';rw[hin]);go_round;(case rel=>refine⟨k+1,by simp,by omega,fun j hj=>?_⟩;by_cases e:j=k;{subst e;rw[HP.out];exact Wd.bA.1 hin};exact HA.out j (by omega));case measure=>simp[intOf];omega};have fI:¬(k:Int)<(len:Int):=by{omega};have hke:k=len:=by{omega};have hall:∀x∈xs,0<=x/\x<=255:=by{refine Mm.Ci fun j=>?_;by_cases hj:j<len;{exact HA.out j (by omega)};rw[ah,List.getElem?_eq_none (by rw[HL.out];omega)];exact⟨by simp,by simp⟩};have kP:=ae hall;clear hrow hall;by_cases h64:len=64;{have hb:((len:Int)==64)=true:=by{simp[h64]};clear hke;go_wp2;go_ret;refine⟨cK ?_,rfl⟩;rw[(Mm.aU (xs:=xs)).2 ⟨HL.out.trans h64,kP.out⟩]};have hb:((len:Int)==64)=false:=by{simp;omega};clear hke;go_wp2;go_ret;refine⟨cK ?_,rfl⟩;have:Mm.ok xs=false:=by{rw[Bool.eq_false_iff];intro h;exact h64 (HL.out.symm.trans (Mm.iC h))};rw[this]
theorem oP (a o:Int)(w:World):Calls Tryz.prog 90 #[.int .i64 a, .int .i64 o] w fun e w'=>e= .returned (.bool (Mm.there a o))/\w'=w:=by rcases hok:Wd.ok a;{have hth:Mm.there a o=false:=by{simp[Mm.there,hok]};rw[hth];go_enter Tryz.func90,Tryz.ntmps90;go_wp2_with(go_at_call 56;refine(aG _ _).mono ?_;rintro e w' ⟨rfl,aW⟩;subst w';rw[hok]);go_ret;exact⟨rfl,rfl⟩};have h0:=Wd.aU.1 hok;have ha0:=h0.1;have ha1:=h0.2;clear h0;rcases hin:Wd.dH o 0 255;{have hth:Mm.there a o=false:=by{simp[Mm.there,hin]};rw[hth];go_enter Tryz.func90,Tryz.ntmps90;go_wp2_with(first|(go_at_call 56;refine(aG _ _).mono ?_;rintro e w' ⟨rfl,aW⟩;subst w';rw[hok])|(go_at_call 47;refine(aN _ _ _ _).mono ?_;rintro e w' ⟨rfl,aW⟩;subst w';rw[hin]));go_ret;exact⟨rfl,rfl⟩};have h1:=Wd.bA.1 hin;have ho0:=h1.1;have ho1:=h1.2;clear h1;have hth:Mm.there a o=decide (a+o+4<=64):=by{rw[Mm.there,hok,hin,Bool.true_and,Bool.true_and];exact decide_eq_decide.2 (by omega)};rw[hth];go_enter Tryz.func90,Tryz.ntmps90;go_wp2_with(first|(go_at_call 56;refine(aG _ _).mono ?_;rintro e w' ⟨rfl,aW⟩;subst w';rw[hok])|(go_at_call 47;refine(aN _ _ _ _).mono ?_;rintro e w' ⟨rfl,aW⟩;subst w';rw[hin]));go_ret;exact⟨rfl,rfl⟩
theorem zK (a:Option Addr)(cap:Nat)(xs:List Int)(k:Nat)(hk:k+4<=64)(w:World)(hs:IL w a 64 xs)(hb:∀j,0<=xs.getD j 0/\xs.getD j 0<=255):Calls Tryz.prog 91 #[.slice a 64 cap, .int .i64 k] w fun e w'=>e= .returned (.int .i64 (Mm.jq xs k 4))/\Below w.heap.size w w':=by obtain⟨hl,hm,hrow⟩:=hs;rcases hrow with h0|⟨b,off,rfl,hbl,hx⟩;{omega};have c0:=hx k (by omega);have c1:=hx (k+1) (by omega);have c2:=hx (k+2) (by omega);have c3:=hx (k+3) (by omega);have HN:Hid (Mm.jq xs k 4=xs.getD k 0+xs.getD (k+1) 0*256+xs.getD (k+2) 0*65536+xs.getD (k+3) 0*16777216):=by{show _=_;simp only[Mm.jq,Nat.add_zero,show(256:Int) ^ 0=1 from rfl,show(256:Int) ^ 1=256 from rfl,show(256:Int) ^ 2=65536 from rfl,show(256:Int) ^ 3=16777216 from rfl];omega};have b0:=hb k;have b1:=hb (k+1);have b2:=hb (k+2);have b3:=hb (k+3);obtain⟨p0,h0⟩:∃p,xs.getD k 0=p:=⟨_,rfl⟩;obtain⟨p1,h1⟩:∃p,xs.getD (k+1) 0=p:=⟨_,rfl⟩;obtain⟨p2,h2⟩:∃p,xs.getD (k+2) 0=p:=⟨_,rfl⟩;obtain⟨p3,h3⟩:∃p,xs.getD (k+3) 0=p:=⟨_,rfl⟩;rw[h0]at c0 b0;rw[h1]at c1 b1;rw[h2]at c2 b2;rw[h3]at c3 b3;rw[h0,h1,h2,h3]at HN;obtain⟨b00,b01⟩:=b0;obtain⟨b10,b11⟩:=b1;obtain⟨b20,YY⟩:=b2;obtain⟨b30,b31⟩:=b3;clear h0 h1 h2 h3 hx hb hm hl;have k0:(k:Int)<64:=by{omega};go_enter Tryz.func91,Tryz.ntmps91;go_wp2;go_quiet (fail);go_wp2;go_ret;exact⟨by rw[HN.out];rfl,below_drewN _ _⟩
theorem wH (n₀:Nat)(g cap:Nat)(xs:List Int)(hl:xs.length=64)(k:Nat)(hk:k+4<=64)(v:Int)(h0:0<=v)(h1:v<=4294967295)(w:World)(hs:w.ownsRow n₀ 2 1 (.slice (some ⟨g,0,none⟩) 64 cap) 64 (xs.map iv)):Calls Tryz.prog 92 #[.slice (some ⟨g,0,none⟩) 64 cap, .int .i64 k, .int .i64 v] w fun e w'=>e= .returned (.tuple #[])/\w'.ownsRow n₀ 2 1 (.slice (some ⟨g,0,none⟩) 64 cap) 64 ((Mm.iq xs k v 4).map iv)/\w.grownBy w' (some g):=by have HL:=ae hl;clear hl;go_enter Tryz.func92,Tryz.ntmps92;go_wp2;go_loopw [6] (fun i wr=>∃(j:Nat),i= .int .i64 j/\j<=4/\wr.ownsRow n₀ 2 1 (.slice (some ⟨g,0,none⟩) 64 cap) 64 ((Mm.iq xs k v j).map iv)/\w.grownBy wr (some g)) (fun i _=>4-(intOf i).toNat);(case atStart=>exact⟨0,rfl,by omega,hs,World.grownBy.refl _ _⟩);case round=>obtain⟨j,rfl,hj,hown,hg⟩:=hrel;clear hs;by_cases hlt:j<4;{have fI:(j:Int)<4:=by{omega};have hkj:k+j<64:=by{omega};have hc:=hown.cellAt (k+j) (by omega);rw[gK (by rw[Mm.jN,HL.out];exact hkj)]at hc;have hf:=hown.frozenAt (k+j);have hset:=hown.stored (k+j) (iv (v / 256 ^ j%256));rw[←List.map_set,←Mm.iq]at hset;obtain⟨q,hq⟩:∃q,(Mm.iq xs k v j).getD (k+j) 0=q:=⟨_,rfl⟩;rw[hq]at hc;have HS:=ae (ak hset.1 (eu hg hset.2));clear hq hset hown hg;unfold iv at hc;obtain rfl|rfl|rfl|rfl:j=0\/j=1\/j=2\/j=3:=by{omega};{rw[Nat.add_zero]at hc hf;go_wp2;have e:=HS.out;rw[Nat.add_zero,show v / 256 ^ 0%256=v%256 by simp]at e;rw[Wd.Ez];exact⟨⟨1,rfl,by omega,e.1,e.2⟩,by simp[intOf]⟩};{go_wp2;have e:=HS.out;rw[show(256:Int) ^ 1=256 from rfl]at e;rw[Wd.Ez];exact⟨⟨2,rfl,by omega,e.1,e.2⟩,by simp[intOf]⟩};{go_wp2;have e:=HS.out;rw[show(256:Int) ^ 2=65536 from rfl]at e;rw[Wd.Ez];exact⟨⟨3,rfl,by omega,e.1,e.2⟩,by simp[intOf]⟩};go_wp2;have e:=HS.out;rw[show(256:Int) ^ 3=16777216 from rfl]at e;rw[Wd.Ez];exact⟨⟨4,rfl,by omega,e.1,e.2⟩,by simp[intOf]⟩};obtain rfl:j=4:=by{omega};have HO:=ae (ak hown hg);clear hown hg;go_wp2;refine bodyPost_end (results_none rfl _ _ _) rfl ⟨rfl,HO.out.1,HO.out.2⟩
structure WC where
 B:Nat
 M:Nat
 Mc:Nat
 fb:Nat
 fo:Nat
 Fc:Nat
 hb:Nat
 ho:Nat
 Hc:Nat
 eb:Nat
 eo:Nat
 Ec:Nat
 ob:Nat
 oo:Nat
 Oc:Nat
 fs:List Fn
 d:ByteArray
def WC.dI (c:WC)(aL code:Int):List Value:=
 [.slice (some ⟨c.fb,c.fo,none⟩) c.fs.length c.Fc, .string c.d, .slice (some ⟨c.hb,c.ho,none⟩) c.fs.length c.Hc, .slice (some ⟨c.eb,c.eo,none⟩) c.fs.length c.Ec, .slice (some ⟨c.ob,c.oo,none⟩) c.fs.length c.Oc, .slice (some ⟨c.M,0,none⟩) 64 c.Mc, .int .i64 aL, .int .i64 code]
structure qN (c:WC)(W0 W:World):Prop where
 os:W.os=W0.os
 tape:W.tape=W0.tape
 out:W.output=W0.output
 size:W0.heap.size<=W.heap.size
 blk:∀i,i<W0.heap.size->i≠c.B->i≠c.M->W.heap[i]?=W0.heap[i]?
theorem qN.refl (c:WC)(W:World):qN c W W:=⟨rfl,rfl,rfl,Nat.le_refl _,fun _ _ _ _=>rfl⟩
theorem qN.trans {c:WC}{W0 W1 W2:World}(h:qN c W0 W1)(k:qN c W1 W2):qN c W0 W2:=
 ⟨k.os.trans h.os,k.tape.trans h.tape,k.out.trans h.out,Nat.le_trans h.size k.size,fun i hi h1 h2=>(k.blk i (aj hi h.size) h1 h2).trans (h.blk i hi h1 h2)⟩
theorem qN.below {c:WC}{W W':World}(h:Below W.heap.size W W'):qN c W W':=⟨h.os,h.tape,h.output,h.size,fun i hi _ _=>h.block i hi⟩
theorem qN.grown {c:WC}{W W':World}{row:Option Nat}(h:W.grownBy W' row)(hr:row=none\/row=some c.B\/row=some c.M\/∃r,row=some r/\W.heap.size<=r):qN c W W':=
 ⟨h.os,h.tape,h.output,h.size,fun i hi h1 h2=>h.block i hi (by
   rcases hr with rfl|rfl|rfl|⟨r,rfl,hr⟩
   · simp
   · simpa using h1
   · simpa using h2
   · simp only[ne_eq,af];omega)⟩
def TL (W:World)(b off:Nat)(n:Nat)(f:Nat->List Int):Prop:=∀k,k<n->∃a m c,W.cell? ⟨b,off+k,none⟩=some (.slice a m c)/\IL W a m (f k)
structure Tab (c:WC)(W0:World):Prop where
 fl:∀W,qN c W0 W->FL W (some ⟨c.fb,c.fo,none⟩) c.fs.length c.fs
 th:∀W,qN c W0 W->TL W c.hb c.ho c.fs.length (Mn.pK c.fs)
 te:∀W,qN c W0 W->TL W c.eb c.eo c.fs.length (fun k=>aQ.ends (Mn.fn c.fs k).b)
 tn:∀W,qN c W0 W->TL W c.ob c.oo c.fs.length (fun k=>aQ.bE (Mn.fn c.fs k).b)
 val:Mn.E8 c.fs
 ne:c.B≠c.M
 fbn:c.fb<W0.heap.size/\c.fb≠c.B/\c.fb≠c.M
structure WK (c:WC)(W0 W:World)(mem:List Int)(aL code:Int):Prop where
 eG:qN c W0 W
 box:bq W c.B (c.dI aL code)
 row:W.ownsRow 0 2 1 (.slice (some ⟨c.M,0,none⟩) 64 c.Mc) 64 (mem.map iv)
theorem WK.kept {c:WC}{W0 W W':World}{mem:List Int}{aL code:Int}(h:WK c W0 W mem aL code)(hB:Below W.heap.size W W'):WK c W0 W' mem aL code:=
 ⟨h.eG.trans (qN.below hB),h.box.kept hB,h.row.kept (row:=none) ⟨hB.os,hB.tape,hB.output,hB.size,fun k hk _=>hB.block k hk⟩ (.inr (by simp[Value.ownBlock]))⟩
theorem CP (b:Bool)(w:World):Calls Tryz.prog 89 #[.bool b] w fun e w'=>e= .returned (.int .i64 (if b=true then 1 else 0))/\w'=w:=by cases b;all_goals go_enter Tryz.func89,Tryz.ntmps89;go_wp2;go_ret;exact⟨rfl,rfl⟩
structure CC where
 w:World
 k:Nat
 d:Nat
 fb:Nat
 gl:Nat
 cl:Nat
 bb:Nat
 bo:Nat
 bl:Nat
 bc:Nat
 R:Mn.Rs
structure CQ (c:WC)(W0:World)(q:CC):Prop where
 ib:Tab c W0
 lt:q.k<c.fs.length
 dp:q.d<12
 eG:qN c W0 q.w
 cel:q.w.cell? ⟨c.fb,c.fo+q.k*4+3,none⟩=some (.slice (some ⟨q.bb,q.bo,none⟩) q.bl q.bc)
 dH:c.B<q.w.heap.size
 yR:c.M<q.w.heap.size
 len:(Mn.fn c.fs q.k).b.length=q.bl
 b80:q.bl<=80
structure CI (c:WC)(W0:World)(q:CC)(at':Nat)(pile loc mem:List Int)(n gp cp:Nat)(wr:World):Prop where
 nb:n<=3000
 wk:WK c W0 wr mem n 0
 fx:bq wr q.fb [.int .i64 (Mn.fn c.fs q.k).a, .int .i64 (Mn.fn c.fs q.k).l, .int .i64 (Mn.fn c.fs q.k).g, .slice (some ⟨q.bb,q.bo,none⟩) q.bl q.bc]
 lr:wr.ownsRow (q.fb+1) 2 1 (.slice (some ⟨q.gl,0,none⟩) loc.length q.cl) loc.length (loc.map iv)
 pr:wr.ownsRow (q.gl+1) 2 1 (.slice (some ⟨gp,0,none⟩) pile.length cp) pile.length (pile.map iv)
 n4:q.w.heap.size<=q.fb
 eG:qN c q.w wr
 good:Mn.Good c.fs (Mn.fn c.fs q.k) (Mn.pK c.fs q.k) at' pile loc mem
 run:Mn.run c.fs (n+1) n q.d q.k at' pile loc mem=q.R
theorem CI.next {c:WC}{W0:World}{q:CC}{at':Nat}{pile loc mem:List Int}{m gp cp:Nat}{wr:World}(Q:CQ c W0 q)(h:CI c W0 q at' pile loc mem (m+1) gp cp wr){a2:Nat}{p2 l2 m2:List Int}(hs:Mn.bg c.fs q.k at' pile loc mem= .next a2 p2 l2 m2):Mn.Good c.fs (Mn.fn c.fs q.k) (Mn.pK c.fs q.k) a2 p2 l2 m2/\Mn.run c.fs (m+1) m q.d q.k a2 p2 l2 m2=q.R:=by have F:Mn.uD c.fs (Mn.fn c.fs q.k) (Mn.pK c.fs q.k) at' loc mem (Mn.bg c.fs q.k at' pile loc mem):=Mn.fP (Md.bI Q.ib.val.all Q.lt) Q.ib.val.all (Q.ib.val.acc q.k Q.lt) h.good;rw[hs]at F;exact⟨F,by rw[←h.run,Mn.dG hs]⟩
theorem CI.fin {c:WC}{W0:World}{q:CC}{at':Nat}{pile loc mem:List Int}{m gp cp:Nat}{wr:World}(Q:CQ c W0 q)(h:CI c W0 q at' pile loc mem (m+1) gp cp wr){p2:List Int}(hs:Mn.bg c.fs q.k at' pile loc mem= .fin p2):(p2.length:Int)=(Mn.fn c.fs q.k).g/\q.R= .done (Mn.gives (Mn.fn c.fs q.k) p2) mem m:=by have F:Mn.uD c.fs (Mn.fn c.fs q.k) (Mn.pK c.fs q.k) at' loc mem (Mn.bg c.fs q.k at' pile loc mem):=Mn.fP (Md.bI Q.ib.val.all Q.lt) Q.ib.val.all (Q.ib.val.acc q.k Q.lt) h.good;rw[hs]at F;exact⟨F.1,by rw[←h.run,Mn.kC hs]⟩
theorem CI.halt {c:WC}{W0:World}{q:CC}{at':Nat}{pile loc mem:List Int}{m gp cp:Nat}{wr:World}(h:CI c W0 q at' pile loc mem (m+1) gp cp wr){e:Int}(hs:Mn.bg c.fs q.k at' pile loc mem= .halt e):q.R= .stop e mem m:=by rw[←h.run,Mn.run_halt hs]
structure CO (c:WC)(q:CC)(pile loc:List Int)(gp cp:Nat)(wr:World):Prop where
 fx:bq wr q.fb [.int .i64 (Mn.fn c.fs q.k).a, .int .i64 (Mn.fn c.fs q.k).l, .int .i64 (Mn.fn c.fs q.k).g, .slice (some ⟨q.bb,q.bo,none⟩) q.bl q.bc]
 lr:wr.ownsRow (q.fb+1) 2 1 (.slice (some ⟨q.gl,0,none⟩) loc.length q.cl) loc.length (loc.map iv)
 pr:wr.ownsRow (q.gl+1) 2 1 (.slice (some ⟨gp,0,none⟩) pile.length cp) pile.length (pile.map iv)
theorem CI.own {c:WC}{W0:World}{q:CC}{at':Nat}{pile loc mem:List Int}{n gp cp:Nat}{wr:World}(h:CI c W0 q at' pile loc mem n gp cp wr):CO c q pile loc gp cp wr:=⟨h.fx,h.lr,h.pr⟩
theorem CO.dJ {c:WC}{q:CC}{pile loc:List Int}{gp cp:Nat}{W W':World}{row:Option Nat}(h:CO c q pile loc gp cp W)(hg:W.grownBy W' row)(h1:row≠some q.fb)(h2:row≠some q.gl)(h3:row≠some gp):CO c q pile loc gp cp W':=
 ⟨h.fx.dJ hg h1,h.lr.kept hg (.inr (by simpa[Value.ownBlock]using Ne.symm h2)),h.pr.kept hg (.inr (by simpa[Value.ownBlock]using Ne.symm h3))⟩
theorem CO.kept {c:WC}{q:CC}{pile loc:List Int}{gp cp:Nat}{W W':World}(h:CO c q pile loc gp cp W)(hB:Below W.heap.size W W'):CO c q pile loc gp cp W':=
 h.dJ (row:=none) ⟨hB.os,hB.tape,hB.output,hB.size,fun k hk _=>hB.block k hk⟩ (by simp) (by simp) (by simp)
theorem CO.ord {c:WC}{q:CC}{pile loc:List Int}{gp cp:Nat}{W:World}(h:CO c q pile loc gp cp W):q.fb<q.gl/\q.gl<gp/\gp<W.heap.size:=by have h1:=h.lr.lt q.gl rfl;have h2:=h.pr.lt gp rfl;omega
theorem CO.app {c:WC}{q:CC}{pile loc tT:List Int}{gp cp g' cp' N:Nat}{W W':World}(h:CO c q pile loc gp cp W)(hg:W.grownBy W' (some gp))(hown:W'.ownsRow (q.gl+1) 2 1 (.slice (some ⟨g',0,none⟩) N cp') N (tT.map iv))(hN:tT.length=N):CO c q tT loc g' cp' W':=by obtain⟨o1,o2,o3⟩:=h.ord;refine⟨h.fx.dJ hg (by simp only[ne_eq,af];omega),h.lr.kept hg (.inr (by simp only[Value.ownBlock,ne_eq,af];omega)),by rw[hN];exact hown⟩
theorem CO.cut {c:WC}{q:CC}{pile loc:List Int}{gp cp:Nat}{W:World}(h:CO c q pile loc gp cp W)(n:Nat)(hn:n<=pile.length):CO c q (pile.take n) loc gp cp W:=by refine⟨h.fx,h.lr,?_⟩;have:=Aj h.pr n hn;rw[Nat.mul_one,←List.map_take]at this;rw[List.length_take,Nat.min_eq_left hn];exact this
theorem qN.grow {c:WC}{W0 W W':World}{r:Nat}(h:qN c W0 W)(hg:W.grownBy W' (some r))(hr:W0.heap.size<=r\/r=c.B\/r=c.M):qN c W0 W':=
 ⟨hg.os.trans h.os,hg.tape.trans h.tape,hg.output.trans h.out,Nat.le_trans h.size hg.size,fun i hi h1 h2=>(hg.block i (aj hi h.size) (by
   simp only[ne_eq,af]
   rcases hr with hr|rfl|rfl
   · omega
   · exact h1
   · exact h2)).trans (h.blk i hi h1 h2)⟩
theorem WK.dJ {c:WC}{W0 W W':World}{mem:List Int}{aL code:Int}{r:Nat}(h:WK c W0 W mem aL code)(hg:W.grownBy W' (some r))(hr:W0.heap.size<=r)(h1:r≠c.B)(h2:r≠c.M):WK c W0 W' mem aL code:=
 ⟨h.eG.grow hg (.inl hr),h.box.dJ hg (by simpa using h1),h.row.kept hg (.inr (by simpa[Value.ownBlock]using Ne.symm h2))⟩
structure CM (c:WC)(W0:World)(q:CC)(pile loc mem:List Int)(n gp cp:Nat)(wr:World):Prop where
 wk:WK c W0 wr mem n 0
 co:CO c q pile loc gp cp wr
 n4:q.w.heap.size<=q.fb
 eG:qN c q.w wr
theorem CM.kept {c:WC}{W0:World}{q:CC}{pile loc mem:List Int}{n gp cp:Nat}{W W':World}(h:CM c W0 q pile loc mem n gp cp W)(hB:Below W.heap.size W W'):CM c W0 q pile loc mem n gp cp W':=
 ⟨h.wk.kept hB,h.co.kept hB,h.n4,h.eG.trans (qN.below hB)⟩
theorem CM.cut {c:WC}{W0:World}{q:CC}{pile loc mem:List Int}{n gp cp:Nat}{W:World}(h:CM c W0 q pile loc mem n gp cp W)(k:Nat)(hk:k<=pile.length):CM c W0 q (pile.take k) loc mem n gp cp W:=⟨h.wk,h.co.cut k hk,h.n4,h.eG⟩
theorem CM.app {c:WC}{W0:World}{q:CC}{pile loc mem tT:List Int}{n gp cp g' cp' N:Nat}{W W':World}(Q:CQ c W0 q)(h:CM c W0 q pile loc mem n gp cp W)(hg:W.grownBy W' (some gp))(hown:W'.ownsRow (q.gl+1) 2 1 (.slice (some ⟨g',0,none⟩) N cp') N (tT.map iv))(hN:tT.length=N):CM c W0 q tT loc mem n g' cp' W':=by obtain⟨o1,o2,o3⟩:=h.co.ord;have h4:=h.n4;have s0:=Q.eG.size;have iB:=Q.dH;have iM:=Q.yR;exact⟨h.wk.dJ hg (by omega) (by omega) (by omega),h.co.app hg hown hN,h.n4,h.eG.grow hg (.inl (by omega))⟩
theorem CI.cm {c:WC}{W0:World}{q:CC}{at':Nat}{pile loc mem:List Int}{n gp cp:Nat}{wr:World}(h:CI c W0 q at' pile loc mem n gp cp wr):CM c W0 q pile loc mem n gp cp wr:=⟨h.wk,h.own,h.n4,h.eG⟩
theorem WK.set {c:WC}{W0 W:World}{mem:List Int}{aL code:Int}(T:Tab c W0)(h:WK c W0 W mem aL code)(x:Int):WK c W0 (W.setCell ⟨c.B,6,none⟩ (.int .i64 x)) mem x code/\WK c W0 (W.setCell ⟨c.B,7,none⟩ (.int .i64 x)) mem aL x:=by
 have hr:∀o v,(W.setCell ⟨c.B,o,none⟩ v).ownsRow 0 2 1 (.slice (some ⟨c.M,0,none⟩) 64 c.Mc) 64 (mem.map iv):=fun o v=>
  h.row.kept (row:=some c.B) (aC W ⟨c.B,o,none⟩ v) (.inr (by simpa[Value.ownBlock]using Ne.symm T.ne))
 have ha:∀o v,qN c W0 (W.setCell ⟨c.B,o,none⟩ v):=fun o v=>h.eG.trans (qN.grown (aC W ⟨c.B,o,none⟩ v) (.inr (.inl rfl)))
 exact⟨⟨ha _ _,h.box.set 6 _,hr _ _⟩,⟨ha _ _,h.box.set 7 _,hr _ _⟩⟩
theorem CM.aL {c:WC}{W0:World}{q:CC}{pile loc mem:List Int}{n gp cp:Nat}{W:World}(Q:CQ c W0 q)(h:CM c W0 q pile loc mem n gp cp W)(m:Nat):CM c W0 q pile loc mem m gp cp (W.setCell ⟨c.B,6,none⟩ (.int .i64 (m:Int))):=by obtain⟨o1,o2,o3⟩:=h.co.ord;have h4:=h.n4;have iB:=Q.dH;have hg:=aC W ⟨c.B,6,none⟩ (.int .i64 (m:Int));exact⟨(h.wk.set Q.ib (m:Int)).1,h.co.dJ hg (by simp only[ne_eq,af];omega) (by simp only[ne_eq,af];omega) (by simp only[ne_eq,af];omega),h.n4,h.eG.grow hg (.inr (.inl rfl))⟩
namespace Mn
open Hg
variable {fs : List Fn} {k aS : Nat} {pile loc mem : List Int} {a : Int}
end Mn
theorem CI.take {c:WC}{W0:World}{q:CC}{at':Nat}{pile loc mem:List Int}{n gp cp:Nat}{wr:World}(Q:CQ c W0 q)(h:CI c W0 q at' pile loc mem n gp cp wr):Hg.Typed c.fs (Mn.fn c.fs q.k) (aQ.ends (Mn.fn c.fs q.k).b) (aQ.bE (Mn.fn c.fs q.k).b) (Mn.pK c.fs q.k) at':=
 (Q.ib.val.acc q.k Q.lt).typ at' h.good.lt (by have:=h.good.here;omega)
theorem DV {W:World}{b g c j n:Nat}{xs:List Int}(h:W.ownsRow b 2 1 (.slice (some ⟨g,0,none⟩) n c) n (xs.map iv))(hl:xs.length=n)(hj:j<n):W.cell? ⟨g,j,none⟩=some (.int .i64 (xs.getD j 0)):=by rw[h.cellAt j (by omega),gK (by omega)];rfl
end Go.Proofs.YthkjdjmjdlimnaaGreat
