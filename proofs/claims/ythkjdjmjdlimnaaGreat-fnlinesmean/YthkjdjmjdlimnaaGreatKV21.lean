/- Own text. -/
import Derived.Test.YthkjdjmjdlimnaaGreatKV14
import Derived.Test.YthkjdjmjdlimnaaGreatKV20
namespace Go.Proofs.YthkjdjmjdlimnaaGreat
open Go.RowKit Go.Shelf
set_option linter.all false
set_option maxRecDepth 100000
set_option maxHeartbeats 16000000
variable {P:Nat->Prop}{W W' W0 W1 W2:World}{aH:Int}{args loc mem pile xs ys:List Int}{at' cap cv e g i j k m n n₀ n₁ off:Nat}{d:ByteArray}{f:Fn}{fs:List Fn}{kV:List (List Ln)}{row:Option Nat}{t:TypeId}{u v vg:Value}
theorem Lw.CJ(h:Hg.valid fs d=true)(hk:k<fs.length):Md.ok fs d=true/\∃mo,Hg.kg fs (Mn.fn fs k)=some (Mn.jO fs k,mo):=by unfold Hg.valid at h;rw[au]at h;refine⟨h.1,?_⟩;have h2:=List.all_eq_true.1 h.2 k (List.mem_range.2 hk);unfold Hg.jG at h2;rw[az ⟨h.1,by omega,by omega⟩]at h2;simp only[aA]at h2;unfold Mn.jO Mn.fn;rcases e:Hg.kg fs (fs.getD k .z)with _|⟨H,mo⟩;{rw[e]at h2;cases h2};exact⟨mo,rfl⟩
theorem Lw.afB{x:List Int×Int}(h:Hg.kg fs f=some x):aM.isOk f.b=true:=by unfold Hg.kg at h;split at h;{assumption};cases h
def Lw.part (st:List Int)(R:List (Ln×Int))(i:Nat):List Ln:=(R.take i).map (Lw.p9 st)++(R.drop i).map (·.1)
theorem Lw.GZ (st:List Int)(R:List (Ln×Int))(i:Nat):(Lw.part st R i).length=R.length:=by unfold Lw.part;simp only[jw,iw,oQ,Za];omega
theorem Lw.BM{st:List Int}{R:List (Ln×Int)}(hi:i<R.length):Lw.part st R (i+1)=(Lw.part st R i).set i (Lw.p9 st (R.getD i (.z,0))):=by unfold Lw.part;rw[O3,ai hi,ah,ai hi,List.drop_eq_getElem_cons hi];simp only[Option.toList_some,Option.getD_some,oU,List.map_cons,List.map_nil];rw[List.set_append_right _ _ (by simp only[iw,oQ];omega)];simp[Nat.min_eq_left (Nat.le_of_lt hi)]
theorem Lw.ML{st:List Int}{R:List (Ln×Int)}(hi:i<R.length):(Lw.part st R i).getD i .z=(R.getD i (.z,0)).1:=by unfold Lw.part;rw[ah,qU (by simp only[iw,oQ];omega)];rw[ah,ai hi];simp[Nat.min_eq_left (Nat.le_of_lt hi),ai hi]
theorem Lw.KF(hi:i<f.l.toNat):(Lw.first f).take (i+1)=(Lw.first f).take i++[(⟨1,f.a+(i:Int),0,0,0,[]⟩,-1)]:=by rw[O3];congr 1;unfold Lw.first;simp[hi]
theorem Lw.NM (f:Fn):(Lw.first f).length=f.l.toNat:=by unfold Lw.first;simp
theorem aa8 {p:Prop}(h:Hid p):p:=h
theorem uj{xs:List Value}(h:W.ownsRow n₁ e k v n xs)(hn:n₀<=n₁):W.ownsRow n₀ e k v n xs:=by refine⟨h.1,?_⟩;rcases h.2 with h'|⟨g',cap',cur,h',hb,r⟩;{exact .inl h'};exact .inr ⟨g',cap',cur,h',fE hn hb,r⟩
theorem MK.other{c:LX}{out:List (Ln×Int)}(h:MK c W0 W v vg out P)(hW:W0.heap.size<=c.B)(hg:W.grownBy W' row)(hr:∀g,row=some g->c.B+1<=g/\v.ownBlock≠some g/\vg.ownBlock≠some g/\¬P g):MK c W0 W' v vg out P:=by obtain⟨vs,h1,h2,h3,h4⟩:=h.row;refine⟨eZ h.fM hg (fun g e=>by have:=(hr g e).1;omega),h.box.dU hg (fun e=>by have:=(hr _ e).1;omega),fE h.sz hg.size,⟨vs,ek h1 hg (fun g e e2=>(hr g e2).2.1 e),h2,h3.dU hg (fun j hj g e e2=>(hr g e2).2.2.2 (h4 j hj g e).2),h4⟩,ek h.JF hg (fun g e e2=>(hr g e2).2.2.1 e)⟩
theorem MK.tight{c:LX}{out:List (Ln×Int)}(h:MK c W0 W v vg out P):MK c W0 W v vg out (fun g=>P g/\g<W.heap.size):=by obtain⟨vs,h1,h2,h3,h4⟩:=h.row;exact⟨h.fM,h.box,h.sz,⟨vs,h1,h2,h3,fun j hj g e=>⟨(h4 j hj g e).1,(h4 j hj g e).2,(dJ (h3 j hj).2.2.2.2.2 e).2⟩⟩,h.JF⟩
structure PK (c:LX)(W0 W:World)(v vg sv:Value)(R:List (Ln×Int))(st:List Int)(i:Nat):Prop where
 fM:Below W0.heap.size W0 W
 box:aV W c.B (c.dS v vg)
 sz:c.B+1<=W.heap.size
 row:∃vs:List Lv,W.ownsRow (c.B+1) 109 6 v R.length (fF vs)/\vs.length=R.length/\kQ W (c.B+1) R.length vs (Lw.part st R i)
 JF:OI W (c.B+1) vg (R.map (·.2))
 sts:OI W (c.B+1) sv st
theorem PK.of{c:LX}{sv:Value}{R:List (Ln×Int)}{st:List Int}(h:MK c W0 W v vg R P)(hs:OI W (c.B+1) sv st):PK c W0 W v vg sv R st 0:=by obtain⟨vs,h1,h2,h3,-⟩:=h.row;exact⟨h.fM,h.box,h.sz,⟨vs,h1,h2,h3⟩,h.JF,hs⟩
theorem PK.kept {c:LX}{W0 W W':World}{v vg sv:Value}{R:List (Ln×Int)}{st:List Int}{i:Nat}(h:PK c W0 W v vg sv R st i)(hB:Below W.heap.size W W'):PK c W0 W' v vg sv R st i:=by obtain⟨vs,h1,h2,h3⟩:=h.row;exact⟨h.fM.trans (hB.mono h.fM.size),h.box.kept hB,fE h.sz hB.size,⟨vs,aN h1 hB,h2,h3.kept hB⟩,h.JF.kept hB,h.sts.kept hB⟩
theorem PK.skip{c:LX}{sv:Value}{R:List (Ln×Int)}{st:List Int}(h:PK c W0 W v vg sv R st i)(hi:i<R.length)(hn:(R.getD i (.z,0)).2<0):PK c W0 W v vg sv R st (i+1):=by have e:Lw.part st R (i+1)=Lw.part st R i:=by{rw[Lw.BM hi,Lw.p9,ax (by omega),←Lw.ML (st:=st) hi];apply List.ext_getElem?;intro j;rw[List.getElem?_set];split;{rename_i e;subst e;have hl:i<(Lw.part st R i).length:=by{rw[Lw.GZ];exact hi};rw[az hl,ah,ai hl];rfl};rfl};obtain⟨vs,h1,h2,h3⟩:=h.row;exact⟨h.fM,h.box,h.sz,⟨vs,h1,h2,by rw[e];exact h3⟩,h.JF,h.sts⟩
theorem PK.fill{c:LX}{sv:Value}{R:List (Ln×Int)}{st:List Int}(h:PK c W0 W (.slice (some ⟨g,0,none⟩) R.length cv) vg sv R st i)(hW:W0.heap.size<=c.B)(hi:i<R.length)(hn:0<=(R.getD i (.z,0)).2):PK c W0 (W.setCell ⟨g,i*6+4,none⟩ (.int .i64 (st.getD (R.getD i (.z,0)).2.toNat 0))) (.slice (some ⟨g,0,none⟩) R.length cv) vg sv R st (i+1):=by obtain⟨vs,h1,h2,h3⟩:=h.row;have hg:c.B+1<=g/\g<W.heap.size:=dJ h1 rfl;have hst:=h1.stored (i*6+4) (.int .i64 (st.getD (R.getD i (.z,0)).2.toNat 0));have gs:=hst.2;have hint:2≠109:=by{decide};have hgs:∀{u:Value}{xs:List Int},OI W (c.B+1) u xs->OI (W.setCell ⟨g,i*6+4,none⟩ (.int .i64 (st.getD (R.getD i (.z,0)).2.toNat 0))) (c.B+1) u xs:=fun{u xs} hu=>ek hu gs (fun g' e e2=>gJ hu h1 hint e e2);refine⟨eZ h.fM gs (fun g' e=>by cases e;omega),h.box.dU gs (fun e=>by cases e;omega),fE h.sz gs.size,⟨vs.set i ((vs.getD i jk).1,(vs.getD i jk).2.1,(vs.getD i jk).2.2.1,(vs.getD i jk).2.2.2.1,st.getD (R.getD i (.z,0)).2.toNat 0,(vs.getD i jk).2.2.2.2.2),?_,by simp[h2],fun j hj=>?_⟩,hgs h.JF,hgs h.sts⟩;{rw[vV vs i _ (by omega)];exact hst.1};obtain⟨t0,t1,t2,t3,t4,t5⟩:=h3 j hj;rw[Lw.BM hi];by_cases e:j=i;{subst e;have e1:(vs.set j ((vs.getD j jk).1,(vs.getD j jk).2.1,(vs.getD j jk).2.2.1,(vs.getD j jk).2.2.2.1,st.getD (R.getD j (.z,0)).2.toNat 0,(vs.getD j jk).2.2.2.2.2)).getD j jk=((vs.getD j jk).1,(vs.getD j jk).2.1,(vs.getD j jk).2.2.1,(vs.getD j jk).2.2.2.1,st.getD (R.getD j (.z,0)).2.toNat 0,(vs.getD j jk).2.2.2.2.2):=by{rw[ah,VL (by omega)];rfl};have e2:((Lw.part st R j).set j (Lw.p9 st (R.getD j (.z,0)))).getD j .z=Lw.p9 st (R.getD j (.z,0)):=by{rw[ah,VL (by rw[Lw.GZ];exact hi)];rfl};rw[e1,e2,Lw.p9,az hn];rw[Lw.ML hi]at t0 t1 t2 t3 t5;exact⟨t0,t1,t2,t3,rfl,hgs t5⟩};have e1:(vs.set i ((vs.getD i jk).1,(vs.getD i jk).2.1,(vs.getD i jk).2.2.1,(vs.getD i jk).2.2.2.1,st.getD (R.getD i (.z,0)).2.toNat 0,(vs.getD i jk).2.2.2.2.2)).getD j jk=vs.getD j jk:=by{rw[ah,Qk (by omega),←ah]};have e2:((Lw.part st R i).set i (Lw.p9 st (R.getD i (.z,0)))).getD j .z=(Lw.part st R i).getD j .z:=by{rw[ah,Qk (by omega),←ah]};rw[e1,e2];exact⟨t0,t1,t2,t3,t4,hgs t5⟩
theorem uW (a:Option Addr) (len cap:Nat) (fs:List Fn) (d:ByteArray) (hv:Hg.valid fs d=true) (k:Nat) (hk:k<len) (w:World) (hs:FL w a len fs):Calls Tryz.prog 36 #[.agg #[.slice a len cap, .string d], .int .i64 k] w fun e w'=>∃v,e= .returned v/\sS w' w.heap.size v (Lw.func fs (Mn.fn fs k) (aM.ends (Mn.fn fs k).b) (aM.bq (Mn.fn fs k).b) (Mn.jO fs k))/\Below w.heap.size w w':=by
 have hl:=hs.1
 have V:=Mn.lN hv
 obtain⟨ahu,mo,hres⟩:=Lw.CJ hv (k:=k) (by omega)
 have hA:=V.acc k (by omega)
 have mr:=Lw.afB hres
 have OD:=Mn.iT V (k:=k) (by omega)
 have hall:St.cu (Mn.fn fs k).b=true:=by have:=Md.aZ V.all (j:=k) (by omega);simp only[Md.ru,au]at this;exact this.2.2.2.2
 have hl4:len<=4:=by have:=V.len.2;omega
 obtain⟨F,hF⟩:=aF (Mn.fn fs k)
 obtain⟨H,hH⟩:=aF (Mn.jO fs k)
 obtain⟨E,hE⟩:=aF (aM.ends F.b)
 obtain⟨O,hO⟩:=aF (aM.bq F.b)
 rw[hF,hH]at hres
 rw[hF]at mr OD hall
 rw[hF,hH]at hA
 rw[hE,hO]at hA
 rw[hF,hH,hE,hO]
 have RH:(k:Int)<(len:Int):=by omega
 have hB1:=aB w (.cells #[.slice a len cap, .string d] 26)
 have hM1:dC (w.alloc (.cells #[.slice a len cap, .string d] 26)) w.heap.size 26 [.slice a len cap, .string d]:=heap_alloc_last w _
 obtain⟨W1,hW1⟩:∃X,w.alloc (.cells #[.slice a len cap, .string d] 26)=X:=⟨_,rfl⟩
 rw[hW1]at hB1 hM1
 have hs1:=hs.kept hB1
 have hcell:∃b off,a=some ⟨b,off,none⟩/\∃ba bl bc,W1.cell? ⟨b,off+k*4,none⟩=some (.int .i64 F.a)/\W1.cell? ⟨b,off+k*4+1,none⟩=some (.int .i64 F.l)/\W1.cell? ⟨b,off+k*4+2,none⟩=some (.int .i64 F.g)/\W1.cell? ⟨b,off+k*4+3,none⟩=some (.slice ba bl bc)/\SL W1 ba bl F.b:=by obtain⟨-,-,h0|⟨b,off,e,hb,hx⟩⟩:=hs1;{omega};obtain⟨x0,x1,x2,ba,bl,bc,x3,hsl⟩:=hx k hk;have e2:fs.getD k .z=F:=hF;rw[e2]at x0 x1 x2 hsl;exact⟨b,off,e,ba,bl,bc,x0,x1,x2,x3,hsl⟩
 obtain⟨fb,fo,rfl,ba,bl,bc,x0,x1,x2,x3,hsl⟩:=hcell
 have hbl:F.b.length=bl:=hsl.1
 subst hbl
 have m0:=hM1.cell (j:=0) rfl
 have hB2:=aB W1 (.cells #[.int .i64 F.a, .int .i64 F.l, .int .i64 F.g, .slice ba F.b.length bc] 93)
 have hF2:dC (W1.alloc (.cells #[.int .i64 F.a, .int .i64 F.l, .int .i64 F.g, .slice ba F.b.length bc] 93)) W1.heap.size 93 [.int .i64 F.a, .int .i64 F.l, .int .i64 F.g, .slice ba F.b.length bc]:=heap_alloc_last W1 _
 obtain⟨W2,hW2⟩:∃X,W1.alloc (.cells #[.int .i64 F.a, .int .i64 F.l, .int .i64 F.g, .slice ba F.b.length bc] 93)=X:=⟨_,rfl⟩
 rw[hW2]at hB2 hF2
 have hM2:=hM1.kept hB2
 have n0:=hM2.cell (j:=0) rfl
 have n1:=hM2.cell (j:=1) rfl
 have nz:=hB1.trans (hB2.mono hB1.size)
 have Ci:=mg (some ⟨fb,fo,none⟩) len cap fs d k hk ahu W2 (hs1.kept hB2)
 have e2:fs.getD k .z=F:=hF
 rw[e2,hres]at Ci
 go_enter Tryz.func36,Tryz.ntmps36
 go_wp2_with fail
 refine Ci.mono ?_
 rintro e w3⟨v3,mo3,rfl,ho3,hB3⟩
 dsimp only
 obtain⟨ho3,-⟩:=ho3 H mo rfl
 obtain⟨ha,hc,rfl,-⟩:=ho3.slice
 have hHl:H.length=F.b.length:=hA.lH
 have hF3:=hF2.kept hB3
 have f3:=hF3.cell (j:=3) rfl
 have jU:=(hsl.kept hB2).kept hB3
 have gT:=o8 ba F.b.length bc F.b (by omega) w3 jU
 rw[mr,hE,hO]at gT
 clear Ci x0 x1 x2 x3 m0 n0 n1
 go_wp2_with fail
 refine gT.mono ?_
 rintro e w4⟨gE,cE,gO,cO,rfl,hEO,hB4⟩
 dsimp only
 obtain⟨hoE,Zy⟩:=hEO trivial
 have Jz:=hF3.kept hB4
 have f0:=Jz.cell (j:=0) rfl
 have f1:=Jz.cell (j:=1) rfl
 have f2:=Jz.cell (j:=2) rfl
 have f3':=Jz.cell (j:=3) rfl
 have dX:=aB w4 (.cells #[.slice none 0 0, .slice none 0 0, .int .i64 (F.a+F.l), .slice ha F.b.length hc, .slice (some ⟨gE,0,none⟩) F.b.length cE, .slice ba F.b.length bc, .int .i64 F.g] 106)
 have hbx:aV (w4.alloc (.cells #[.slice none 0 0, .slice none 0 0, .int .i64 (F.a+F.l), .slice ha F.b.length hc, .slice (some ⟨gE,0,none⟩) F.b.length cE, .slice ba F.b.length bc, .int .i64 F.g] 106)) w4.heap.size [.slice none 0 0, .slice none 0 0, .int .i64 (F.a+F.l), .slice ha F.b.length hc, .slice (some ⟨gE,0,none⟩) F.b.length cE, .slice ba F.b.length bc, .int .i64 F.g]:=aV.new w4 _ _
 have hz5:w4.heap.size+1<=(w4.alloc (.cells #[.slice none 0 0, .slice none 0 0, .int .i64 (F.a+F.l), .slice ha F.b.length hc, .slice (some ⟨gE,0,none⟩) F.b.length cE, .slice ba F.b.length bc, .int .i64 F.g] 106)).heap.size:=by simp
 obtain⟨W5,hW5⟩:∃X,w4.alloc (.cells #[.slice none 0 0, .slice none 0 0, .int .i64 (F.a+F.l), .slice ha F.b.length hc, .slice (some ⟨gE,0,none⟩) F.b.length cE, .slice ba F.b.length bc, .int .i64 F.g] 106)=X:=⟨_,rfl⟩
 rw[hW5]at dX hbx hz5
 rw[hHl]at ho3
 have Lm:=hB3.trans (hB4.mono hB3.size)
 have ahv:IL w4 ha F.b.length H:=((OI.il ho3).2).kept hB4
 have ahw:IL w4 (some ⟨gE,0,none⟩) F.b.length E:=(OI.il hoE).2
 have ahx:IL w4 (some ⟨gO,0,none⟩) F.b.length O:=(OI.il Zy).2
 have ahy:=jU.kept hB4
 have hs4:=((hs1.kept hB2).kept hB3).kept hB4
 have T:TX (⟨w4.heap.size,ha,hc,some ⟨gE,0,none⟩,cE,ba,bc,fs,F,E,O,H⟩:LX) w4:=⟨bG _,ahv,ahw,ahy,hA,OD,hall,V⟩
 have K5:MK (⟨w4.heap.size,ha,hc,some ⟨gE,0,none⟩,cE,ba,bc,fs,F,E,O,H⟩:LX) w4 W5 (.slice none 0 0) (.slice none 0 0) [] (fun _=>False):=⟨dX,hbx,hz5,⟨[],World.ownsRow_nil _ _ _ _,rfl,fun j hj=>by simp at hj,fun j hj=>by simp at hj⟩,OI.nil _ _⟩
 have mF:=hM2.kept Lm
 have hBw:=nz.trans (Lm.mono nz.size)
 have g0:=(Jz.kept dX).cell (j:=0) rfl
 obtain⟨ln,hln⟩:=BQ OD.2.2.1
 have ahz:F.l.toNat=ln:=by omega
 have HC:=ae (ak T (ak K5 (ak Jz (ak mF (ak hBw (ak hs4 (ak ahx (ak ahz hln))))))))
 have hF5:-1<=F.a/\F.a<=3:=by omega
 have hl5:-1<=F.l/\F.l<=3:=by omega
 have aqN:=OD.2.2.2.2.2
 have Lj:=OD.2.2.2.2.1
 clear gT f3 hbx hz5 dX ahv ahw ahx ahy hs4 T K5 mF hBw Lm Jz hF3 jU hF2 hM2 hM1 ho3 hoE Zy hB3 hB4 hB2 nz hB1 hs1 hs hsl hall mr hres ahu hv V hA OD e2 hF hH hE hO hln ahz hEO
 go_wp2
 go_loopw [13] (fun vi wr=>∃(i:Nat)(v vg:Value),vi= .int .i64 (F.a+(i:Int))/\i<=ln/\MK (⟨w4.heap.size,ha,hc,some ⟨gE,0,none⟩,cE,ba,bc,fs,F,E,O,H⟩:LX) w4 wr v vg ((Lw.first F).take i) (fun _=>False)) (fun vi _=>(F.a+F.l-intOf vi).toNat)
 case atStart=>exact⟨0,_,_,by simp,jP _,HC.out.2.1⟩
 case round=>
  obtain⟨i,v,vg,rfl,hi,K⟩:=hrel
  have hll:=HC.out.2.2.2.2.2.2.2.2
  have q2:wr.cell? ⟨w4.heap.size,2,none⟩=some (.int .i64 (F.a+F.l)):=(K.box.2 2 _ rfl).1
  have hlB:w4.heap.size<wr.heap.size:=K.sz
  by_cases hlt:i<ln
  · have gu:F.a+(i:Int)<F.a+F.l:=by{omega};have hfl:((Lw.first F).take i).length<=1000:=by{rw[oQ];omega};have hadd:=aU (⟨w4.heap.size,ha,hc,some ⟨gE,0,none⟩,cE,ba,bc,fs,F,E,O,H⟩:LX) w4 wr v vg ((Lw.first F).take i) (fun _=>False) (bG _) K ⟨1,F.a+(i:Int),0,0,0,[]⟩ none 0 0 (OI.nil _ _) (fun g e=>by cases e) (-1) hfl;have HFM:=ae (Lw.KF (f:=F) (i:=i) (by rw[HC.out.2.2.2.2.2.2.2.1];exact hlt));clear K hfl hll;go_wp2_with fail;refine hadd.mono ?_;rintro e X1⟨v1,mE,rfl,K1,-⟩;dsimp only;rw[←HFM.out]at K1;clear hadd q2;go_wp2;go_roundw;(case rel=>exact⟨i+1,v1,mE,by simp;omega,hlt,K1⟩);case measure=>simp[intOf];omega
  · have hie:i=ln:=by omega
    have gu:¬F.a+(i:Int)<F.a+F.l:=by omega
    have K2:MK (⟨w4.heap.size,ha,hc,some ⟨gE,0,none⟩,cE,ba,bc,fs,F,E,O,H⟩:LX) w4 wr v vg (Lw.dN fs F E O H 0).1 (fun _=>False):=by have e:(Lw.first F).take i=Lw.first F:=List.take_of_length_le (by rw[Lw.NM,HC.out.2.2.2.2.2.2.2.1];omega);rw[e]at K;exact K
    have Zz:=HC.out.2.2.1.kept K2.fM
    have r3:=Zz.cell (j:=3) rfl
    have vk:=aB wr (.cells #[] 2)
    have HK:=ae (K2.kept vk)
    have HO:Hid (OI (wr.alloc (.cells #[] 2)) (w4.heap.size+1) (.slice (some ⟨wr.heap.size,0,none⟩) 0 0) []):=OI.mono (OI.empty wr) hlB
    have jE:Hid (∀g,(Value.slice (some ⟨wr.heap.size,0,none⟩) 0 0).ownBlock=some g->v.ownBlock≠some g/\vg.ownBlock≠some g/\¬False):=fun g e=>by simp only[Value.ownBlock,af]at e;subst e;obtain⟨vs,h1,-⟩:=K2.row;exact⟨fun e=>by have:=(dJ h1 e).2;omega,fun e=>by have:=(dJ K2.JF e).2;omega,fun h=>h⟩
    have r3':=(Zz.kept vk).cell (j:=3) rfl
    clear K K2 vk Zz hie hll
    go_wp2
    clear q2 r3 r3'
    go_loopw [14,15] (fun vs vi wx=>∃(i:Nat)(v vg sv:Value)(P:Nat->Prop),vs=sv/\vi= .int .i64 (i:Int)/\i<=F.b.length/\MK (⟨w4.heap.size,ha,hc,some ⟨gE,0,none⟩,cE,ba,bc,fs,F,E,O,H⟩:LX) w4 wx v vg (Lw.dN fs F E O H i).1 P/\OI wx (w4.heap.size+1) sv (Lw.dN fs F E O H i).2/\(∀g,sv.ownBlock=some g->v.ownBlock≠some g/\vg.ownBlock≠some g/\¬P g)/\(∀g,P g->g<wx.heap.size)) (fun _ vi _=>F.b.length-(intOf vi).toNat)
    case atStart=>exact⟨0,v,vg,_,_,rfl,rfl,jP _,HK.out,HO.out,jE.out,fun g h=>h.elim⟩
    case round=>
     obtain⟨i2,v2,Cg,sv,P,hse,rfl,hi2,K,hsv,hap,hPb⟩:=hrel
     have alF:=hse.symm
     clear hse
     subst alF
     clear HK HO jE
     obtain⟨j0,hj,hy0,hy1,hy2⟩:=lW bQ
     have Zz:=HC.out.2.2.1.kept K.fM
     have r3:=Zz.cell (j:=3) rfl
     have aqO:w4.heap.size<wr.heap.size:=K.sz
     have hul:=Lw.nN fs F E O H i2
     have alG:=HC.out.2.2.2.2.2.2.2.1
     by_cases hlt:i2<F.b.length
     · have gu:(i2:Int)<(F.b.length:Int):=by{omega};obtain⟨vs,hrow,-⟩:=K.row;obtain⟨va,vc,rfl⟩:=bK hrow;have q0:wr.cell? ⟨w4.heap.size,0,none⟩=some (.slice va (Lw.dN fs F E O H i2).1.length vc):=(K.box.2 0 _ rfl).1;have ab5:wr.ownsRow (w4.heap.size+1) 2 1 sv i2 ((Lw.dN fs F E O H i2).2.map iv):=by{unfold OI at hsv;rwa [hul.2]at hsv};obtain⟨sa,sc,rfl⟩:=bK ab5;obtain⟨un,hun⟩:=aF ((Lw.dN fs F E O H i2).1.length);have vk:=aB wr (.cells #[.int .i64 (un:Int)] 2);have HSV:=ae (aN ab5 vk);have HKA:=ae (K.kept vk);have alH:un<=900:=by{omega};have Tg:=ae (ak hun hul.2);have jE:=ae hap;have HPB:=ae hPb;rw[hun]at q0;have cHH:∃b o,ha=some ⟨b,o,none⟩/\b<w4.heap.size/\w4.cell? ⟨b,o+i2,none⟩=some (.int .i64 (H.getD i2 0)):=by{obtain⟨hl,-,h3|⟨b,o,e,hb,hh⟩⟩:=HC.out.1.hH;{have:F.b.length=0:=h3;omega};exact⟨b,o,e,hb,hh i2 hlt⟩};obtain⟨hb',ho',rfl,lH,cHH⟩:=cHH;have HHC:Hid (∀X:World,Below w4.heap.size w4 X->X.cell? ⟨hb',ho'+i2,none⟩=some (.int .i64 (H.getD i2 0))):=fun X hX=>(hX.cell (p:=⟨hb',ho'+i2,none⟩) lH).trans cHH;obtain⟨u,hu⟩:=aF (H.getD i2 0);have HU:=ae hu;rw[hu]at HHC;have Yn:=K.sz;have alI:=vk.size;clear K hsv ab5 hap hPb hrow Zz hun hul cHH hu vk alG;go_wp2_with(at_builtin;refine wpList_append_own_at _ rfl _ _ 27 rfl (w4.heap.size+1) 2 j0 (.int .i64 0) 1 8 Tryz.underlying27 hj hy0 hy1 hy2 rfl (by decide) (.slice sa i2 sc) i2 _ rfl HSV.out ⟨wr.heap.size,0,none⟩ 1 1 [.int .i64 (un:Int)] rfl rfl (cell_one_new _ _ _) (by simp[Value.oneCell']) (by simp only[maxLen];omega) (by omega) (by simp;omega) ?_;intro sv' wB hown2 hgrow2 _ Gz;obtain⟨g2,cap2,rfl⟩:=qx hown2;have KB:=HKA.out.other (bG _) hgrow2 (fun g e=>⟨(dJ HSV.out e).1,(jE.out g e).1,(jE.out g e).2.1,(jE.out g e).2.2⟩);have cB:=HHC.out wB KB.fM;have pI:=ae (ak hown2 (ak hgrow2 (ak Gz KB)));have m0:=(HC.out.2.2.2.1.kept KB.fM).cell (j:=0) rfl;have m1:=(HC.out.2.2.2.1.kept KB.fM).cell (j:=1) rfl;clear hown2 hgrow2 Gz KB;refine aa8 ?_);unfold Hid;obtain⟨o1,o2,o3,KB⟩:=pI.out;have Yu:Hid (∀g,(Value.slice (some ⟨g2,0,none⟩) (i2+1) cap2).ownBlock=some g->Value.ownBlock (.slice va un vc)≠some g/\Cg.ownBlock≠some g/\¬P g/\g<wB.heap.size):=fun g e=>by{have hlt2:=(dJ o1 e).2;rcases o3 with e'|e';{rw[e']at e;have:=jE.out g e;rw[Tg.out.1]at this;exact⟨this.1,this.2.1,this.2.2,hlt2⟩};rw[e']at e;simp only[af]at e;obtain⟨vs',hr',-⟩:=HKA.out.row;rw[Tg.out.1]at hr';have hgg:=(dJ hr' (g:=g));have hgo:=fun e2=>(dJ HKA.out.JF (g:=g) e2).2;refine⟨fun e2=>by have:=(hgg e2).2;omega,fun e2=>by have:=hgo e2;omega,fun h=>by have:=HPB.out g h;simp only[JY]at e;omega,hlt2⟩};rw[Tg.out.1]at KB;have Yj:Hid (OI wB (w4.heap.size+1) (.slice (some ⟨g2,0,none⟩) (i2+1) cap2) ((Lw.dN fs F E O H i2).2++[(un:Int)])):=by{show World.ownsRow _ _ _ _ _ _ _;rw[jw,Tg.out.2,Bb,oU];exact o1};have HKB:=ae KB;have HSZ:Hid (wr.heap.size<=wB.heap.size):=fE alI o2.size;clear o1 o2 o3 KB pI HSV HKA jE;by_cases hu0:0<=u;{have hcon:=Di HC.out.1 HKB.out (some ⟨fb,fo,none⟩) len cap d (some ⟨gO,0,none⟩) cO HC.out.2.2.2.2.2.1 HC.out.2.2.2.2.2.2.1 i2 hlt (by show 0<=H.getD i2 0;rw[HU.out];exact hu0) (by rw[Tg.out.1];exact alH);go_wp2_with fail;refine hcon.mono ?_;rintro e X1⟨v3,vg3,rfl,K3,F3⟩;dsimp only;have HK3:=ae (ak K3.tight F3);clear hcon K3 F3 m0 m1 cB;go_wp2;go_roundw;(case rel=>obtain⟨K3,F3⟩:=HK3.out;refine⟨i2+1,v3,vg3,_,(fun g=>(P g\/wB.heap.size<=g)/\g<X1.heap.size),rfl,by simp,hlt,?_,?_,fun g e=>?_,fun g h=>h.2⟩;{show MK _ _ _ _ _ ((Lw.dN fs F E O H i2).1++(if 0<=H.getD i2 0 then Lw.step fs F E O H i2 else[])) _;rw[az (by rw[HU.out];exact hu0)];exact K3};{show OI _ _ _ ((Lw.dN fs F E O H i2).2++[((Lw.dN fs F E O H i2).1.length:Int)]);rw[Tg.out.1];exact F3.rows Yj.out (fun g e=>⟨by have:=(dJ Yj.out e).1;show g≠w4.heap.size;omega,(Yu.out g e).1,(Yu.out g e).2.1⟩)};have h2:=Yu.out g e;refine⟨?_,?_,fun h=>?_⟩;{rcases F3.v1 with e'|⟨g',e',hg'⟩;{rw[e'];exact h2.1};rw[e'];simp only[ne_eq,af];omega};{rcases F3.g1 with e'|⟨g',e',hg'⟩;{rw[e'];exact h2.2.1};rw[e'];simp only[ne_eq,af];omega};rcases h.1 with h'|h';{exact h2.2.2.1 h'};omega);case measure=>simp[intOf];omega};clear m0 m1;go_wp2;go_roundw;(case rel=>refine⟨i2+1, .slice va un vc,Cg,_,P,rfl,by simp,hlt,?_,?_,fun g e=>?_,fun g h=>?_⟩;{show MK _ _ _ _ _ ((Lw.dN fs F E O H i2).1++(if 0<=H.getD i2 0 then Lw.step fs F E O H i2 else[])) _;rw[ax (by rw[HU.out];exact hu0),List.append_nil];exact HKB.out};{show OI _ _ _ ((Lw.dN fs F E O H i2).2++[((Lw.dN fs F E O H i2).1.length:Int)]);rw[Tg.out.1];exact Yj.out};{have h2:=Yu.out g e;exact⟨h2.1,h2.2.1,h2.2.2.1⟩};have:=HPB.out g h;have:=HSZ.out;omega);case measure=>simp[intOf];omega
     · have ab6:i2=F.b.length:=by omega
       have gu:¬(i2:Int)<(F.b.length:Int):=by omega
       have r2:=Zz.cell (j:=2) rfl
       have q2:wr.cell? ⟨w4.heap.size,2,none⟩=some (.int .i64 (F.a+F.l)):=(K.box.2 2 _ rfl).1
       have hKE:MK (⟨w4.heap.size,ha,hc,some ⟨gE,0,none⟩,cE,ba,bc,fs,F,E,O,H⟩:LX) w4 wr v2 Cg (Lw.dN fs F E O H F.b.length).1 P:=by rw[←ab6];exact K
       have ab7:OI wr (w4.heap.size+1) sv (Lw.dE fs F E O H):=by unfold Lw.dE;rw[←ab6];exact hsv
       have alK:=Lw.nN fs F E O H F.b.length
       have hRG:=ae (Lw.Ih HC.out.1.acc)
       have HRW:Hid (Lw.raw fs F E O H=(Lw.dN fs F E O H F.b.length).1++Lw.last F):=rfl
       have ahA:Hid ((Lw.dE fs F E O H).length=F.b.length):=alK.2
       have Yv:Hid (∀(XX:World)(vx Yw:Value),MK (⟨w4.heap.size,ha,hc,some ⟨gE,0,none⟩,cE,ba,bc,fs,F,E,O,H⟩:LX) w4 XX vx Yw (Lw.raw fs F E O H) P->FX (⟨w4.heap.size,ha,hc,some ⟨gE,0,none⟩,cE,ba,bc,fs,F,E,O,H⟩:LX) v2 Cg vx Yw wr XX->OI XX (w4.heap.size+1) sv (Lw.dE fs F E O H)):=fun XX vx Yw hK hX=>hX.rows ab7 (fun g e=>⟨by have:=(dJ ab7 e).1;show g≠w4.heap.size;omega,(hap g e).1,(hap g e).2.1⟩)
       obtain⟨R,hR⟩:=aF (Lw.raw fs F E O H)
       obtain⟨st,hst⟩:=aF (Lw.dE fs F E O H)
       have HFN:Hid (Lw.func fs F E O H=if R.length<=300 then R.map (Lw.p9 st)else[]):=by show _=_;unfold Lw.func;rw[hR,hst]
       have hRl:R.length<=1000:=by rw[←hR,HRW.out,jw];(have:(Lw.last F).length<=2:=by unfold Lw.last;split<;>simp);omega
       rw[hR]at hRG HRW Yv
       rw[hst]at ahA Yv
       clear K hsv Zz ab7 hul ab6 hR hst hap
       have HPK:Hid (∀(XX:World)(vx Yw:Value),MK (⟨w4.heap.size,ha,hc,some ⟨gE,0,none⟩,cE,ba,bc,fs,F,E,O,H⟩:LX) w4 XX vx Yw R P->FX (⟨w4.heap.size,ha,hc,some ⟨gE,0,none⟩,cE,ba,bc,fs,F,E,O,H⟩:LX) v2 Cg vx Yw wr XX->PK (⟨w4.heap.size,ha,hc,some ⟨gE,0,none⟩,cE,ba,bc,fs,F,E,O,H⟩:LX) w4 XX vx Yw sv R st 0):=fun XX vx Yw hK hX=>PK.of hK (Yv.out XX vx Yw hK hX)
       clear Yv
       rcases Lj with hg|hg
       case' inl=>
        rw[hg]at r2
        replace HRW:Hid (R=(Lw.dN fs F E O H F.b.length).1++[(⟨1,F.a+F.l+20,0,0,0,[]⟩,-1)]++[(⟨10,0,F.a+F.l+20,0,0,[]⟩,-1)]):=by show _=_;rw[HRW.out];unfold Lw.last;rw[az hg,oI];rfl
        have JH:=aU (⟨w4.heap.size,ha,hc,some ⟨gE,0,none⟩,cE,ba,bc,fs,F,E,O,H⟩:LX) w4 wr v2 Cg (Lw.dN fs F E O H F.b.length).1 P (bG _) hKE ⟨1,F.a+F.l+20,0,0,0,[]⟩ none 0 0 (OI.nil _ _) (fun g e=>by cases e) (-1) (by omega)
        clear hKE
        go_wp2_with fail
        refine JH.mono ?_
        rintro e X1⟨v3,vg3,rfl,K3,F3⟩
        dsimp only
        have ZA:=aU (⟨w4.heap.size,ha,hc,some ⟨gE,0,none⟩,cE,ba,bc,fs,F,E,O,H⟩:LX) w4 X1 v3 vg3 _ P (bG _) K3 ⟨10,0,F.a+F.l+20,0,0,[]⟩ none 0 0 (OI.nil _ _) (fun g e=>by cases e) (-1) (by rw[jw,Bb];omega)
        clear JH r2 q2 r3
        go_wp2_with fail
        refine ZA.mono ?_
        rintro e XF⟨vF,gF,rfl,K4,F4⟩
        dsimp only
        rw[←HRW.out]at K4
        have HP0:=ae (HPK.out XF vF gF K4 (F3.trans F4))
        clear ZA K3 F3 K4 F4 HPK
       case' inr=>
        rw[hg]at r2
        replace HRW:Hid (R=(Lw.dN fs F E O H F.b.length).1++[(⟨10,0,F.a+F.l,0,0,[]⟩,-1)]):=by show _=_;rw[HRW.out];unfold Lw.last;rw[ax (by omega)];rfl
        have JH:=aU (⟨w4.heap.size,ha,hc,some ⟨gE,0,none⟩,cE,ba,bc,fs,F,E,O,H⟩:LX) w4 wr v2 Cg (Lw.dN fs F E O H F.b.length).1 P (bG _) hKE ⟨10,0,F.a+F.l,0,0,[]⟩ none 0 0 (OI.nil _ _) (fun g e=>by cases e) (-1) (by omega)
        clear hKE
        go_wp2_with fail
        refine JH.mono ?_
        rintro e XF⟨vF,gF,rfl,K4,F4⟩
        dsimp only
        rw[←HRW.out]at K4
        have HP0:=ae (HPK.out XF vF gF K4 F4)
        clear JH r2 q2 r3 K4 F4 HPK
       all_goals have hR1:1<=R.length:=by{rw[HRW.out];simp};obtain⟨vs0,ZB,-⟩:=HP0.out.row;obtain⟨gv,cv,rfl⟩:∃gv cv,vF= .slice (some ⟨gv,0,none⟩) R.length cv:=by{rcases ZB.2 with⟨-,h0⟩|⟨g',cap',cur,h',-⟩;{omega};exact⟨g',cap',h'⟩};have Yx:=HP0.out.JF;have Oy:=HP0.out.sts;unfold OI at Yx Oy;rw[iw]at Yx;rw[ahA.out]at Oy;obtain⟨ga,gc,rfl⟩:=bK Yx;obtain⟨sa,sc,rfl⟩:=bK Oy;clear ZB Yx Oy;have hRZ:(R.length:Int)<=1000:=by{omega};go_wp2;go_loopw [17] (fun vi wx=>∃i:Nat,vi= .int .i64 (i:Int)/\i<=R.length/\PK (⟨w4.heap.size,ha,hc,some ⟨gE,0,none⟩,cE,ba,bc,fs,F,E,O,H⟩:LX) w4 wx (.slice (some ⟨gv,0,none⟩) R.length cv) (.slice ga R.length gc) (.slice sa F.b.length sc) R st i) (fun vi _=>R.length-(intOf vi).toNat);(case atStart=>exact⟨0,rfl,jP _,HP0.out⟩);case round=>obtain⟨i3,rfl,hi3,hP⟩:=hrel;have q0:wr.cell? ⟨w4.heap.size,0,none⟩=some (.slice (some ⟨gv,0,none⟩) R.length cv):=(hP.box.2 0 _ rfl).1;have q1:wr.cell? ⟨w4.heap.size,1,none⟩=some (.slice ga R.length gc):=(hP.box.2 1 _ rfl).1;have ahC:w4.heap.size<wr.heap.size:=hP.sz;by_cases hlt3:i3<R.length;{have ahD:(i3:Int)<(R.length:Int):=by{omega};have hmem:R.getD i3 (.z,0)∈R:=by{rw[ah,ai hlt3];exact u7 hlt3};have MN:=hRG.out _ hmem;have cG:∃b o,ga=some ⟨b,o,none⟩/\b<wr.heap.size/\wr.cell? ⟨b,o+i3,none⟩=some (.int .i64 (R.getD i3 (.z,0)).2):=by{have hil:=(OI.il hP.JF).2;obtain⟨hl,-,h3|⟨b,o,e,hb,hh⟩⟩:=hil;{omega};refine⟨b,o,e,hb,?_⟩;rw[hh i3 hlt3,ah,ah,J2,ai hlt3];rfl};obtain⟨gb,go,rfl,lG,cG⟩:=cG;obtain⟨tg,htg⟩:=aF ((R.getD i3 (.z,0)).2);by_cases ht0:0<=tg;{have cT:∃b o,sa=some ⟨b,o,none⟩/\b<wr.heap.size/\wr.cell? ⟨b,o+tg.toNat,none⟩=some (.int .i64 (st.getD tg.toNat 0)):=by{have hil:=(OI.il hP.sts).2;obtain⟨hl,-,h3|⟨b,o,e,hb,hh⟩⟩:=hil;{omega};exact⟨b,o,e,hb,hh tg.toNat (by omega)⟩};obtain⟨sb,so,rfl,lS,cT⟩:=cT;have HFL:=ae (fun(X:World) hX=>PK.fill (hP.kept (W':=X) hX) (bG _) hlt3 (by rw[htg];exact ht0));rw[htg]at HFL cG MN;obtain⟨tn,rfl⟩:=BQ ht0;rw[aA]at cT HFL;obtain⟨y,hy⟩:=aF (st.getD tn 0);rw[hy]at cT HFL;have aqQ:(tn:Int)<(F.b.length:Int):=by{omega};obtain⟨vs1,uP,alM,-⟩:=hP.row;have hgv:=(dJ uP rfl).2;have g4:=(p8 vs1 i3 (by omega)).2.2.2.2.1;have c4:=(uP.cellAt (i3*6+4) (by omega)).trans g4;have f4:=uP.frozenAt (i3*6+4);obtain⟨z4,hz4⟩:∃z,(vs1.getD i3 jk).2.2.2.2.1=z:=⟨_,rfl⟩;rw[hz4]at c4;have b0:∀p:bI wr,p.to.cell? ⟨w4.heap.size,0,none⟩=some (.slice (some ⟨gv,0,none⟩) R.length cv):=fun p=>(p.h.cell (p:=⟨w4.heap.size,0,none⟩) ahC).trans q0;have b1:∀p:bI wr,p.to.cell? ⟨w4.heap.size,1,none⟩=some (.slice (some ⟨gb,go,none⟩) R.length gc):=fun p=>(p.h.cell (p:=⟨w4.heap.size,1,none⟩) ahC).trans q1;have b2:∀p:bI wr,p.to.cell? ⟨gb,go+i3,none⟩=some (.int .i64 (tn:Int)):=fun p=>(p.h.cell (p:=⟨gb,go+i3,none⟩) lG).trans cG;have b3:∀p:bI wr,p.to.cell? ⟨sb,so+tn,none⟩=some (.int .i64 y):=fun p=>(p.h.cell (p:=⟨sb,so+tn,none⟩) lS).trans cT;have HC4:Hid (∀p:bI wr,p.to.cell? ⟨gv,i3*6+4,none⟩=some (.int .i64 z4)/\p.to.frozen? ⟨gv,i3*6+4,none⟩=false):=fun p=>⟨(p.h.cell (p:=⟨gv,i3*6+4,none⟩) hgv).trans c4,(p.h.frozen (p:=⟨gv,i3*6+4,none⟩) hgv).trans f4⟩;have hne:=bI.any wr;clear hP uP alM c4 f4 g4 hz4 hy htg hmem cT;go_wp2;refine aS 17 (by kernel_rfl) (by kernel_rfl) ?_;simp only[lL,jR,nD,nE];(repeat(go_big_quiet_step (fail)));refine ni ?_;rintro _⟨pw,rfl⟩;have hc4:=(HC4.out pw).1;have hf4:=(HC4.out pw).2;have HFin:=ae (HFL.out _ pw.h);clear b0 b1 b2 b3 hne HC4 HFL q0 q1 cG;obtain⟨X3,VW⟩:=aF (pw.to);rw[VW]at hc4 hf4 HFin ⊢;clear VW;go_wp2;go_roundw;(case rel=>exact⟨i3+1,by simp,hlt3,HFin.out⟩);case measure=>simp[intOf];omega};have HFin:=ae (hP.skip hlt3 (by omega));rw[htg]at cG;clear hP htg hmem MN;go_wp2;go_roundw;(case rel=>exact⟨i3+1,by simp,hlt3,HFin.out⟩);case measure=>simp[intOf];omega};have ab9:i3=R.length:=by{omega};have ahD:¬(i3:Int)<(R.length:Int):=by{omega};have hBf:=HC.out.2.2.2.2.1.trans (hP.fM.mono HC.out.2.2.2.2.1.size);have hw4:=HC.out.2.2.2.2.1.size;by_cases aca:R.length<=300;{have ahG:¬(300:Int)<(R.length:Int):=by{omega};have HF:Hid (sS wr w.heap.size (.slice (some ⟨gv,0,none⟩) R.length cv) (Lw.func fs F E O H)):=by{obtain⟨vs,h1,h2,h3⟩:=hP.row;have e:Lw.part st R i3=R.map (Lw.p9 st):=by{unfold Lw.part;rw[ab9,List.take_length,List.drop_length];simp};rw[e]at h3;have eL:(Lw.func fs F E O H).length=R.length:=by{rw[HFN.out,az aca,iw]};refine⟨gv,cv,vs,by rw[eL],?_,?_⟩;{rw[eL];exact uj h1 (by show w.heap.size<=w4.heap.size+1;omega)};rw[eL,HFN.out,az aca];exact h3.mono (by show w.heap.size<=w4.heap.size+1;omega)};clear hP ab9;go_wp2;go_ret;exact⟨_,rfl,HF.out,hBf⟩};have ahG:(300:Int)<(R.length:Int):=by{omega};have vk:=aB wr (.cells #[] 109);have hBg:=hBf.trans (vk.mono hBf.size);have HF:Hid (sS (wr.alloc (.cells #[] 109)) w.heap.size (.slice (some ⟨wr.heap.size,0,none⟩) 0 0) (Lw.func fs F E O H)):=by{show sS _ _ _ _;rw[HFN.out,ax aca];exact⟨wr.heap.size,0,[],rfl,⟨rfl, .inr ⟨wr.heap.size,0,#[],rfl,by omega,QD wr _,bG _,by simp[maxLen],rfl,rfl⟩⟩,fun j hj=>by simp at hj⟩};clear hP ab9 vk;go_wp2;go_ret;exact⟨_,rfl,HF.out,hBg⟩
theorem sS.mono {W:World}{n₀ n₁:Nat}{v:Value}{fs:List Ln}(h:sS W n₁ v fs)(hn:n₀<=n₁):sS W n₀ v fs:=by obtain⟨g,cap,vs,e,h1,h2⟩:=h;exact⟨g,cap,vs,e,uj h1 hn,h2.mono hn⟩
theorem sS.none (W:World)(n₀:Nat)(hn:n₀<=W.heap.size):sS (W.alloc (.cells #[] 109)) n₀ (.slice (some ⟨W.heap.size,0,none⟩) 0 0) []:=
 ⟨W.heap.size,0,[],rfl,⟨rfl, .inr ⟨W.heap.size,0,#[],rfl,hn,QD W _,bG _,by simp[maxLen],rfl,rfl⟩⟩,fun j hj=>by simp at hj⟩
def lst (vs:List Lv)(j:Nat):Value:=(vs.getD j jk).2.2.2.2.2
def MC (W:World)(n₀:Nat)(v:Value)(fs:List Ln)(vs:List Lv):Prop:=
 W.ownsRow n₀ 109 6 v fs.length (fF vs)/\vs.length=fs.length/\kQ W n₀ fs.length vs fs/\∀i j,i<j->j<fs.length->∀g,(lst vs i).ownBlock=some g->(lst vs j).ownBlock≠some g
theorem MC.kept {W W':World}{n₀:Nat}{v:Value}{fs:List Ln}{vs:List Lv}(h:MC W n₀ v fs vs)(hB:Below W.heap.size W W'):MC W' n₀ v fs vs:=⟨aN h.1 hB,h.2.1,h.2.2.1.kept hB,h.2.2.2⟩
theorem PU{α:Type}{l:List α}{x d:α}(h:k<l.length):(l.set k x).getD k d=x:=by rw[ah,VL h];rfl
theorem abg{α:Type}{l:List α}{x d:α}(h:j≠k):(l.set k x).getD j d=l.getD j d:=by rw[ah,Qk (by omega),←ah]
theorem MC.list{fs:List Ln}{vs:List Lv}(h:MC W n₀ v fs vs)(hk:k<fs.length)(hg:W.grownBy W' (lst vs k).ownBlock)(hos:OI W' n₀ (lst vs k) ys):MC W' n₀ v (fs.set k ⟨(fs.getD k .z).k,(fs.getD k .z).d,(fs.getD k .z).a,(fs.getD k .z).b,(fs.getD k .z).n,ys⟩) vs:=by obtain⟨hrow,hl,ht,hp⟩:=h;have hint:109≠2:=by{decide};refine⟨?_,by simp[hl],?_,?_⟩;{rw[uY];exact ek hrow hg (fun b e=>gJ hrow (ht k hk).2.2.2.2.2 hint e)};{intro j hj;rw[uY]at hj;obtain⟨t0,t1,t2,t3,t4,t5⟩:=ht j hj;by_cases e:j=k;{subst e;rw[PU hj];exact⟨t0,t1,t2,t3,t4,hos⟩};rw[abg e];refine⟨t0,t1,t2,t3,t4,ek t5 hg (fun b e1 e2=>?_)⟩;rcases Nat.lt_or_ge j k with hlt|hge;{exact hp j k hlt hk b e1 e2};exact hp k j (by omega) hj b e2 e1};intro i j hij hj b;rw[uY]at hj;exact hp i j hij hj b
theorem IE{xs:List Value}(h:W.ownsRow n₀ e k v n xs)(hb:∀g,n₀<=g->g<W.heap.size->W'.heap[g]?=W.heap[g]?):W'.ownsRow n₀ e k v n xs:=by refine⟨h.1,?_⟩;rcases h.2 with h'|⟨g',cap',cur,h',h1,h2,r⟩;{exact .inl h'};exact .inr ⟨g',cap',cur,h',h1,(hb g' h1 (Array.getElem?_eq_some_iff.1 h2).1).trans h2,r⟩
theorem MC.same{fs:List Ln}{vs:List Lv}(h:MC W n₀ v fs vs)(hb:∀g,n₀<=g->g<W.heap.size->W'.heap[g]?=W.heap[g]?):MC W' n₀ v fs vs:=
 ⟨IE h.1 hb,h.2.1,fun j hj=>by
   obtain⟨t0,t1,t2,t3,t4,t5⟩:=h.2.2.1 j hj
   exact⟨t0,t1,t2,t3,t4,IE t5 hb⟩,h.2.2.2⟩
theorem MC.mono {W:World}{n₀ n₁:Nat}{v:Value}{fs:List Ln}{vs:List Lv}(h:MC W n₁ v fs vs)(hn:n₀<=n₁):MC W n₀ v fs vs:=by refine⟨?_,h.2.1,h.2.2.1.mono hn,h.2.2.2⟩;refine⟨h.1.1,?_⟩;rcases h.1.2 with h'|⟨g',cap',cur,h',hb,r⟩;{exact .inl h'};exact .inr ⟨g',cap',cur,h',fE hn hb,r⟩
theorem MC.ll{fs:List Ln}{vs:List Lv}(h:MC W n₀ (.slice (some ⟨g,0,none⟩) n cap) fs vs)(hn:fs.length=n):LL W (some ⟨g,0,none⟩) n fs:=by have h1:=h.1;have h3:=h.2.2.1;rw[hn]at h1 h3;exact Bu h1 hn h3
namespace Lw
def O4 (fs:List Fn)(k:Nat):List Ln:=func fs (Mn.fn fs k) (aM.ends (Mn.fn fs k).b) (aM.bq (Mn.fn fs k).b) (Mn.jO fs k)
def qp (fs:List Fn)(k:Nat):List (List Ln):=(List.range k).map (O4 fs)
def uD (fs:List Fn):Bool:=(List.range fs.length).all fun k=>decide ((O4 fs k).length≠0)
def aW (fs:List Fn)(d:ByteArray):List (List Ln)×Bool:=if Hg.valid fs d=true/\uD fs=true then(qp fs fs.length,true)else([],false)
theorem Nk (fs:List Fn)(k:Nat):(qp fs k).length=k:=by simp[qp]
theorem Kl (fs:List Fn)(k:Nat):qp fs (k+1)=qp fs k++[O4 fs k]:=by simp[qp,List.range_succ]
theorem NN(fs:List Fn)(h:j<k):(qp fs k).getD j []=O4 fs j:=by simp[qp,ah,h]
theorem Rm(hk:k<fs.length)(h:(O4 fs k).length=0):uD fs=false:=by rcases e:uD fs with _|_;{rfl};unfold uD at e;have:=List.all_eq_true.1 e k (List.mem_range.2 hk);rw[mK]at this;exact eD h this
theorem NS(h:∀k,k<fs.length->(O4 fs k).length≠0):uD fs=true:=by unfold uD;rw[rq];intro k hk;rw[mK];exact h k (List.mem_range.1 hk)
end Lw
theorem Qh:(Tryz.prog.info? 67).map (fun i=>(i.zero,i.size,i.bytes))=some (some (.slice none 0 0),1,24):=by kernel_rfl
def RR (W:World)(n₀ g n cc:Nat)(ws:List Value)(kV:List (List Ln)):Prop:=
 W.ownsRow n₀ 67 1 (.slice (some ⟨g,0,none⟩) n cc) n ws/\ws.length=n/\kV.length=n/\∀j,j<n->sS W n₀ (ws.getD j undef) (kV.getD j [])
theorem sS.P6{fs:List Ln}(h:sS W n₀ v fs)(hB:Below W.heap.size W W'):sS W' n₀ v fs:=by obtain⟨g,cap,vs,e,h1,h2⟩:=h;exact⟨g,cap,vs,e,aN h1 hB,h2.kept hB⟩
theorem sS.agc{fs:List Ln}{n₂:Nat}{xs:List Value}(h:sS W n₀ v fs)(hu:W.ownsRow n₂ 67 k u m xs)(hg:W.grownBy W' u.ownBlock):sS W' n₀ v fs:=by obtain⟨g,cap,vs,e,h1,h2⟩:=h;have hint:109≠67:=by{decide};have ahH:2≠67:=by{decide};exact⟨g,cap,vs,e,ek h1 hg (fun g e=>gJ h1 hu hint e),h2.dU hg (fun j hj g e=>gJ (h2 j hj).2.2.2.2.2 hu ahH e)⟩
theorem RR.kept {W W':World}{n₀ g n cc:Nat}{ws:List Value}{kV:List (List Ln)}(h:RR W n₀ g n cc ws kV)(hB:Below W.heap.size W W'):RR W' n₀ g n cc ws kV:=
 ⟨aN h.1 hB,h.2.1,h.2.2.1,fun j hj=>(h.2.2.2 j hj).P6 hB⟩
theorem RR.zero (W:World)(n₀:Nat)(hn:n₀<=W.heap.size):RR (W.alloc (.cells #[] 67)) n₀ W.heap.size 0 0 [] []:=
 ⟨⟨rfl, .inr ⟨W.heap.size,0,#[],rfl,hn,QD W _,bG _,by simp[maxLen],rfl,rfl⟩⟩,rfl,rfl,fun j hj=>by omega⟩
theorem RR.mono {W:World}{n₀ n₁ g n cc:Nat}{ws:List Value}{kV:List (List Ln)}(h:RR W n₁ g n cc ws kV)(hn:n₀<=n₁):RR W n₀ g n cc ws kV:=
 ⟨uj h.1 hn,h.2.1,h.2.2.1,fun j hj=>(h.2.2.2 j hj).mono hn⟩
theorem RR.more{cc g' cc':Nat}{ws:List Value}(h:RR W n₀ g n cc ws kV)(hB:Below W.heap.size W W1)(v:Value)(l:List Ln)(hv:sS W n₀ v l)(hrow:W2.ownsRow n₀ 67 1 (.slice (some ⟨g',0,none⟩) (n+1) cc') (n+1) (ws++[v]))(hg:W1.grownBy W2 (Value.slice (some ⟨g,0,none⟩) n cc).ownBlock):RR W2 n₀ g' (n+1) cc' (ws++[v]) (kV++[l]):=by obtain⟨r1,r2,r3,r4⟩:=h;have r1':=aN r1 hB;refine⟨hrow,by simp[r2],by simp[r3],fun j hj=>?_⟩;by_cases hjn:j<n;{have e1:(ws++[v]).getD j undef=ws.getD j undef:=by{rw[ah,uF (by omega),←ah]};have e2:(kV++[l]).getD j []=kV.getD j []:=by{rw[ah,uF (by omega),←ah]};rw[e1,e2];exact((r4 j hjn).P6 hB).agc r1' hg};obtain rfl:j=n:=by{omega};have e1:(ws++[v]).getD j undef=v:=by{rw[ah,qU (by omega),r2];simp};have e2:(kV++[l]).getD j []=l:=by{rw[ah,qU (by omega),r3];simp};rw[e1,e2];exact(hv.P6 hB).agc r1' hg
namespace Sm
open Mn (Rs words fn jO)
open Lw (wd dN raw dE p9 func)
open Hg (arg)
def Ip (l:Nat):Rs->Rs
 | .inl (v,m,_)=> .done v m l
 | .inr (c,m,_)=> .stop c m l
def ps (fs:List Fn)(k j:Nat):Nat:=pos fs (fn fs k) (aM.ends (fn fs k).b) (aM.bq (fn fs k).b) (jO fs k) j
structure Q5 (fs:List Fn)(cs:List (List Ln)):Prop where
 val:Mn.KE fs
 cs:∀k,k<fs.length->cs.getD k []=Lw.O4 fs k
 len:∀k,k<fs.length->(raw fs (fn fs k) (aM.ends (fn fs k).b) (aM.bq (fn fs k).b) (jO fs k)).length<=300
 fin:∀k,k<fs.length->aM.op (fn fs k).b ((fn fs k).b.length-1)=12
variable {fs : List Fn} {cs : List (List Ln)}
theorem Q5.sim(h:Q5 fs cs){B:List Int}(hk:k<fs.length)(G:Mn.Good fs (fn fs k) (jO fs k) at' pile loc mem)(hR:Rel pile loc B):Sim fs cs (fn fs k) (aM.ends (fn fs k).b) (aM.bq (fn fs k).b) (jO fs k) k at' loc mem B (Mn.aQ fs k at' pile loc mem):=by have hok:=Md.aZ h.val.all hk;simp only[Md.ru,au,mK,Wd.aX]at hok;exact PT (h.val.acc k hk) (h.cs k hk) (h.len k hk) (Mn.iT h.val hk) (fun j hj=>by have:=Mn.iT h.val hj;exact⟨this.1,this.2.2.2.2.1⟩) hok.2.2.2.2 (h.fin k hk) G hR
theorem Q5.start(h:Q5 fs cs)(hk:k<fs.length)(hl:(args.length:Int)=(fn fs k).a):∃u,u<=3/\iI cs k 0 (Rl.kI args) mem u (ps fs k 0) (Rl.kI args) mem/\Rel [] (Mn.iZ (fn fs k) args) (Rl.kI args):=by have hf:=Mn.iT h.val hk;refine⟨(fn fs k).l.toNat,by omega,?_,NE ⟨hf.2.2.1,hf.2.2.2.1⟩ (by omega)⟩;unfold ps;rw[Qa];exact vR (h.cs k hk) (h.len k hk) ⟨hf.1,hf.2.1⟩ ⟨hf.2.2.1,hf.2.2.2.1⟩ hl _ (bG _)
theorem Q5.run (h:Q5 fs cs):∀(g n d k at':Nat)(pile loc mem B:List Int),k<fs.length->Mn.Good fs (fn fs k) (jO fs k) at' pile loc mem->Rel pile loc B->(Mn.run fs g n d k at' pile loc mem).ends->∀N,8*n<=N->
   ∃u,u<=8*(n-(Mn.run fs g n d k at' pile loc mem).left)/\R cs N d k (ps fs k at') B mem=Ip (N-u) (Mn.run fs g n d k at' pile loc mem)
 |0,n,d,k,at',pile,loc,mem,B,hk,G,hR,hE,N,hN=>eD rfl hE
 |g+1,0,d,k,at',pile,loc,mem,B,hk,G,hR,hE,N,hN=>by rw[Mn.run]at hE;exact eD rfl hE
 | g + 1,n+1,d,k,at',pile,loc,mem,B,hk,G,hR,hE,N,hN=>by
   have F:Mn.jW fs (fn fs k) (jO fs k) at' loc mem (Mn.aQ fs k at' pile loc mem):=Mn.eT (Md.aZ h.val.all hk) h.val.all (h.val.acc k hk) G
   have S:=h.sim hk G hR
   rcases hs:Mn.aQ fs k at' pile loc mem with⟨a,p,l,m⟩|p|c|⟨q,args,rest⟩
   · rw[Mn.fU hs]at hE ⊢
     rw[hs]at F S
     obtain⟨u,B',hu,hG,hR'⟩:=S
     obtain⟨v,hv,hr⟩:=Q5.run h g n d k a p l m B' hk F hR' hE (N-u) (by omega)
     have hl:=(Mn.fI (fs:=fs) g n d k a p l m).1
     refine⟨u+v,by omega,?_⟩
     have e:=hG d (N-u)
     rw[show N-u+u=N by omega]at e
     unfold ps
     rw[e]
     unfold ps at hr
     rw[hr]
     congr 1
     omega
   · rw[Mn.qf hs]
     rw[hs]at S
     obtain⟨u,hu,hr⟩:=S
     refine⟨u,by show u<=8*(n+1-n);omega,?_⟩
     have e:=hr d (N-u)
     rw[show N-u+u=N by omega]at e
     unfold ps
     rw[e]
     rfl
   · rw[Mn.run_halt hs]
     rw[hs]at S
     obtain⟨u,hu,hr⟩:=S
     refine⟨u,by show u<=8*(n+1-n);omega,?_⟩
     have e:=hr d (N-u)
     rw[show N-u+u=N by omega]at e
     unfold ps
     rw[e]
     rfl
   · rw[hs]at F S
     obtain⟨hps,x,hc,hv⟩:=S
     obtain⟨f1,f2,f3,f4,f5⟩:=F
     have hq:q<fs.length:=by omega
     obtain⟨M,rfl⟩:∃M,N=M+1:=⟨N-1,by omega⟩
     by_cases hd:12<=d+1
     · rw[Mn.fV hs hd]
       refine⟨1,by show 1<=8*(n+1-n);omega,?_⟩
       unfold ps
       rw[abD hc hd]
       rfl
     · obtain⟨u0,hu0,hG0,hR0⟩:=h.start (k:=q) (mem:=mem) hq f2
       have G0:=Mn.dQ h.val hq f2 f3 G.mm
       have hl:=(Mn.fI (fs:=fs) g n (d+1) q 0 [] (Mn.iZ (fn fs q) args) mem).1
       have I:=fun hEq=>Q5.run h g n (d+1) q 0 [] (Mn.iZ (fn fs q) args) mem (Rl.kI args) hq G0 hR0 hEq (M-u0) (by omega)
       have RF:=Mn.fO h.val g n (d+1) q 0 [] (Mn.iZ (fn fs q) args) mem hq G0
       have e0:=hG0 (d+1) (M-u0)
       rw[show M-u0+u0=M by omega]at e0
       rcases hr:Mn.run fs g n (d+1) q 0 [] (Mn.iZ (fn fs q) args) mem with⟨v,m,l⟩|⟨c,m,l⟩
       · rw[hr]at I hl RF
         simp only[Rs.left]at hl
         obtain⟨u1,hu1,hr1⟩:=I trivial
         simp only[Rs.left]at hu1
         rw[Mn.fQ hs hd hr]at hE ⊢
         have e1:R cs M (d+1) q 0 (Rl.kI args) mem= .done v m (M-u0-u1):=by rw[e0,hr1];rfl
         obtain⟨u2,hu2,hr2⟩:=Q5.run h g l d k (at'+1) (rest++Mn.kL (fn fs q) v) loc m (B.set x v) hk (f5 m RF.2 _ (Mn.wM (Mn.iT h.val hq).2.2.2.2.1 v) (Mn.qK RF.1)) (hv v) hE (M-u0-u1) (by omega)
         have hl2:=(Mn.fI (fs:=fs) g l d k (at'+1) (rest++Mn.kL (fn fs q) v) loc m).1
         refine⟨1+u0+u1+u2,by omega,?_⟩
         unfold ps at hr2 ⊢
         rw[Z5 hc hd e1,←hps,hr2]
         congr 1
         omega
       · rw[Mn.fP hs hd hr]at hE ⊢
         rw[hr]at I hl
         simp only[Rs.left]at hl
         obtain⟨u1,hu1,hr1⟩:=I hE
         simp only[Rs.left]at hu1
         have e1:R cs M (d+1) q 0 (Rl.kI args) mem= .stop c m (M-u0-u1):=by rw[e0,hr1];rfl
         refine⟨1+u0+u1,by show _<=8*(n+1-l);omega,?_⟩
         unfold ps
         rw[abj hc hd e1]
         show Rs.stop c m (M-u0-u1)=Rs.stop c m (M+1-(1+u0+u1))
         rw[show M+1-(1+u0+u1)=M-u0-u1 by omega]
theorem Xe(h:Hg.valid fs d=true)(hk:k<fs.length):aM.op (fn fs k).b ((fn fs k).b.length-1)=12:=by
 unfold Hg.valid at h
 rw[au]at h
 obtain⟨hok,hall⟩:=h
 rw[rq]at hall
 have hs:=hall k (List.mem_range.2 hk)
 unfold Hg.jG at hs
 rw[az ⟨hok,by omega,by omega⟩,aA]at hs
 have mr:aM.isOk (fn fs k).b=true:=by rcases e:aM.isOk (fn fs k).b with _|_;{unfold Hg.kg at hs;change(if aM.isOk (fn fs k).b=true then _ else none).isSome=true at hs;rw[e]at hs;simp at hs};rfl
 have h2:(aM.all (fn fs k).b).2.2=true:=by rw[aM.isOk,au]at mr;exact mr.2
 obtain⟨⟨m,hm,h12,hi⟩,-⟩:=aM.Inv.kY (xs:=(fn fs k).b) (Ef:=(aM.all (fn fs k).b).1) (Of:=(aM.all (fn fs k).b).2.1) ((fn fs k).b.length+1) 0 _ _ _ (aM.Inv.first (fn fs k).b) (by
  show aM.all (fn fs k).b=_
  rw[←h2])
 rw[show(fn fs k).b.length-1=m by omega]
 exact h12
theorem abu(h:(Lw.aW fs d).2=true):Q5 fs (Lw.aW fs d).1/\(Lw.aW fs d).1.length=fs.length/\Hg.valid fs d=true:=by unfold Lw.aW at h ⊢;by_cases hc:Hg.valid fs d=true/\Lw.uD fs=true;{rw[az hc];refine⟨⟨Mn.lN hc.1,fun k hk=>Lw.NN fs hk,fun k hk=>?_,fun k hk=>Xe hc.1 hk⟩,Lw.Nk _ _,hc.1⟩;have:=hc.2;unfold Lw.uD at this;rw[rq]at this;have h1:=this k (List.mem_range.2 hk);rw[mK]at h1;unfold Lw.O4 func at h1;rcases Nat.lt_or_ge 300 (raw fs (fn fs k) (aM.ends (fn fs k).b) (aM.bq (fn fs k).b) (jO fs k)).length with q|q;{rw[ax (by omega)]at h1;exact eD rfl h1};exact q};rw[ax hc]at h;cases h
theorem NH (h:Q5 fs cs)(hl:cs.length=fs.length):Rl.valid cs=true:=by have hv:=h.val.len;unfold Rl.valid;rw[au,mK,rq];refine⟨by omega,fun ls hls=>?_⟩;obtain⟨k,hk,rfl⟩:=List.getElem_of_mem hls;have e:cs[k]=Lw.O4 fs k:=by{rw[←h.cs k (by omega),ah,ai hk];rfl};rw[e];have hok:=Md.aZ h.val.all (show k<fs.length by omega);simp only[Md.ru,au,mK,Wd.aX]at hok;have hF:=Lw.NF (h.val.acc k (by omega)) (Mn.iT h.val (by omega)) (fun j hj=>by have:=Mn.iT h.val hj;exact⟨this.1,this.2.1⟩) hok.2.2.2.2;have hne:func fs (fn fs k) (aM.ends (fn fs k).b) (aM.bq (fn fs k).b) (jO fs k)≠[]:=by{have hr:=Lw.Dg fs (fn fs k) (aM.ends (fn fs k).b) (aM.bq (fn fs k).b) (jO fs k);unfold func;rw[az (h.len k (by omega))];intro e;rw[List.map_eq_nil_iff]at e;rw[e]at hr;simp at hr};obtain⟨o1,-,-,o2⟩:=hF.2 hne;rw[au];refine⟨o1,?_⟩;unfold Rl.gY;rw[rq];intro y hy;have:=o2 y hy;rw[Bool.not_eq_true',Bool.and_eq_false_iff,GI,GI];by_cases h7:y.k=7;{have:=this h7;exact .inr (by omega)};exact .inl h7
theorem same{k:Int}(hlow:(Lw.aW fs d).2=true)(hok:Mn.isOk fs d k args aH=true)(hE:(Mn.out fs d k args aH.toNat).ends):Rl.isOk (Lw.aW fs d).1 k args (Mm.new d) 200000=true/\(Rl.out (Lw.aW fs d).1 k args (Mm.new d) 200000).code=(Mn.out fs d k args aH.toNat).code/\(Rl.out (Lw.aW fs d).1 k args (Mm.new d) 200000).value=(Mn.out fs d k args aH.toNat).value/\(Rl.out (Lw.aW fs d).1 k args (Mm.new d) 200000).mem=(Mn.out fs d k args aH.toNat).mem/\200000-(Rl.out (Lw.aW fs d).1 k args (Mm.new d) 200000).left<=8*(aH.toNat-(Mn.out fs d k args aH.toNat).left)+8:=by obtain⟨hL,hlen,hv⟩:=abu hlow;obtain⟨-,⟨k0,k1⟩,h4,h5,h6,h7⟩:=Mn.fT.1 hok;have hk:k.toNat<fs.length:=by{omega};have hd:d.size<=64:=by{unfold Hg.valid Md.ok at hv;simp only[au,mK]at hv;exact hv.1.1.2};have hf:=Mn.iT hL.val hk;have hm:=Mm.uh hd;refine⟨Rl.fT.2 ⟨NH hL hlen,⟨k0,by omega⟩,by omega,h5,hm,by omega,by omega⟩,?_⟩;obtain⟨u0,hu0,hG0,hR0⟩:=hL.start (k:=k.toNat) (mem:=Mm.new d) hk h4;have e0:=hG0 0 (200000-u0);rw[show 200000-u0+u0=200000 by omega]at e0;obtain⟨u1,hu1,hr1⟩:=hL.run (aH.toNat+1) aH.toNat 0 k.toNat 0 [] (Mn.iZ (fn fs k.toNat) args) (Mm.new d) (Rl.kI args) hk (Mn.dQ hL.val hk h4 h5 hm) hR0 hE (200000-u0) (by omega);have e1:Rl.out (Lw.aW fs d).1 k args (Mm.new d) 200000=Ip (200000-u0-u1) (Mn.out fs d k args aH.toNat):=e0.trans hr1;rw[e1];change u1<=8*(aH.toNat-(Mn.out fs d k args aH.toNat).left)at hu1;rcases e:Mn.out fs d k args aH.toNat with⟨v,m,l⟩|⟨c,m,l⟩;{rw[e]at hu1;exact⟨rfl,rfl,rfl,by show 200000-(200000-u0-u1)<=_;omega⟩};rw[e]at hu1;exact⟨rfl,rfl,rfl,by show 200000-(200000-u0-u1)<=_;omega⟩
end Sm
section
open Go.RowKit
namespace Sm
theorem Na {R:Mn.Rs}(h:R.code≠5):R.ends:=by rcases R with⟨v,m,l⟩|⟨c,m,l⟩;{trivial};exact h
theorem told{k fu:Int}(hlow:(Lw.aW fs d).2=true)(h7:Mn.code fs d k xs fu≠7)(h5:Mn.code fs d k xs fu≠5):Rl.code (Lw.aW fs d).1 k xs (Mm.new d) 200000=Mn.code fs d k xs fu/\Rl.value (Lw.aW fs d).1 k xs (Mm.new d) 200000=Mn.value fs d k xs fu/\Rl.kT (Lw.aW fs d).1 k xs (Mm.new d) 200000=Mn.kT fs d k xs fu/\Rl.Ns (Lw.aW fs d).1 k xs (Mm.new d) 200000<=8*Mn.dY fs d k xs fu+8/\0<=Mn.dY fs d k xs fu/\Mn.dY fs d k xs fu<=3000:=by rcases hok:Mn.isOk fs d k xs fu with _|_;{exact eD (by unfold Mn.code;rw[hok];rfl) h7};have hi:=Mn.fT.1 hok;have e1:Mn.code fs d k xs fu=(Mn.out fs d k xs fu.toNat).code:=by{unfold Mn.code;rw[az hok]};have e2:Mn.value fs d k xs fu=(Mn.out fs d k xs fu.toNat).value:=by{unfold Mn.value;rw[az hok]};have e3:Mn.kT fs d k xs fu=(Mn.out fs d k xs fu.toNat).mem:=by{unfold Mn.kT;rw[az hok]};have e4:Mn.dY fs d k xs fu=fu-(Mn.out fs d k xs fu.toNat).left:=by{unfold Mn.dY;rw[az hok]};have hE:(Mn.out fs d k xs fu.toNat).ends:=Na (by rw[←e1];exact h5);obtain⟨g1,g2,g3,g4,g5⟩:=same hlow hok hE;have hll:=Mn.o9 fs d k xs fu.toNat;have r1:Rl.code (Lw.aW fs d).1 k xs (Mm.new d) 200000=(Rl.out (Lw.aW fs d).1 k xs (Mm.new d) 200000).code:=by{unfold Rl.code;rw[az g1];rfl};have r2:Rl.value (Lw.aW fs d).1 k xs (Mm.new d) 200000=(Rl.out (Lw.aW fs d).1 k xs (Mm.new d) 200000).value:=by{unfold Rl.value;rw[az g1];rfl};have r3:Rl.kT (Lw.aW fs d).1 k xs (Mm.new d) 200000=(Rl.out (Lw.aW fs d).1 k xs (Mm.new d) 200000).mem:=by{unfold Rl.kT;rw[az g1];rfl};have r4:Rl.Ns (Lw.aW fs d).1 k xs (Mm.new d) 200000=200000-(Rl.out (Lw.aW fs d).1 k xs (Mm.new d) 200000).left:=by{unfold Rl.Ns;rw[az g1];rfl};have hl2:=Rl.o9 (Lw.aW fs d).1 k xs (Mm.new d) 200000;rw[r1,r2,r3,r4,e1,e2,e3,e4,g2,g3,g4];have h0:=hi.2.2.2.2;refine⟨rfl,rfl,rfl,?_,?_,?_⟩<;>omega
end Sm
end
theorem Rt (W W':World)(p:Value)(ty:TypeId)(H:Nat)(hH:W.heap.size=H)(hc:∀i,W'.cell? ⟨H,i,none⟩=(W.alloc (.cells #[p] ty)).cell? ⟨H,i,none⟩):∀j y,[p][j]?=some y->W'.cell? ((⟨H,0,none⟩:Addr).add j)=some y:=by subst hH;intro j y hy;(have hadd:(⟨W.heap.size,0,none⟩:Addr).add j=⟨W.heap.size,j,none⟩:=by unfold Addr.add;split<;>simp_all);rw[hadd,hc,World.cell?_alloc_at _ _ _ _ rfl];simpa using hy
theorem uU (a:Option Addr)(len cap:Nat)(fs:List Fn)(d:ByteArray)(hd:d.size<=maxLen)(w:World)(hs:FL w a len fs):Calls Tryz.prog 9 #[.agg #[.slice a len cap, .string d]] w fun e w'=>∃g n cc ws,e= .returned (.tuple #[.slice (some ⟨g,0,none⟩) n cc, .bool (Lw.aW fs d).2])/\RR w' w.heap.size g n cc ws (Lw.aW fs d).1/\Below w.heap.size w w':=by obtain⟨i0,hi,hz0,hz1,hz2⟩:=lW Qh;have hl:=hs.1;have hB1:=aB w (.cells #[.slice a len cap, .string d] 26);have bM:=aV.new w [.slice a len cap, .string d] 26;have eM:w.alloc (.cells [Value.slice a len cap, .string d].toArray 26)=w.alloc (.cells #[.slice a len cap, .string d] 26):=rfl;rw[eM]at bM;generalize hW1:w.alloc (.cells #[.slice a len cap, .string d] 26)=W1 at hB1 bM;have hBo:=aB W1 (.cells #[] 67);have hr0:=RR.zero W1 W1.heap.size (bG _);have hB2:=hB1.trans (hBo.mono hB1.size);have bM2:=bM.kept hBo;generalize hW2:W1.alloc (.cells #[] 67)=W2 at hBo hr0 hB2 bM2;have hcon:=qM a len cap fs d hd W2 (hs.kept hB2);have m0:=(bM2.2 0 _ rfl).1;have m1:=(bM2.2 1 _ rfl).1;have hszW:w.heap.size<W1.heap.size:=by{rw[←hW1];simp};rcases hv:Hg.valid fs d with _|_;{have e0:Lw.aW fs d=([],false):=by{unfold Lw.aW;rw[ax (by rw[hv];simp)]};rw[hv]at hcon;rw[e0];clear hs hv e0 bM bM2 hBo;go_enter Tryz.func9,Tryz.ntmps9;go_wp2_with fail;refine hcon.mono ?_;rintro e w2⟨rfl,hB3⟩;dsimp only;have HF:=ae (ak ((hr0.kept hB3).mono (Nat.le_of_lt hszW)) (hB2.trans (hB3.mono hB2.size)));clear hcon m0 m1 hr0 hB3 hB2;go_wp2;go_ret2;exact⟨_,_,_,_,rfl,HF.out.1,HF.out.2⟩};rw[hv]at hcon;have hl4:len<=4:=by{have:=(Mn.lN hv).len.2;omega};have hlow:=fun(W:World) (hB:Below w.heap.size w W) (k:Nat) (hk:k<len)=>uW a len cap fs d hv k hk W (hs.kept hB);have HV:=ae hv;have HS:=ae hlow;clear hs hv bM hBo hlow;go_enter Tryz.func9,Tryz.ntmps9;go_wp2_with fail;refine hcon.mono ?_;rintro e w2⟨rfl,hB3⟩;dsimp only;have hr3:=hr0.kept hB3;have bM3:=bM2.kept hB3;have OE:=hB2.trans (hB3.mono hB2.size);clear hcon m0 m1 hr0 hB3 hB2 bM2;go_wp2;go_loopw [4,5] (fun u i wr=>∃(j g cc:Nat)(ws:List Value),i= .int .i64 (j:Int)/\j<=len/\u= .slice (some ⟨g,0,none⟩) j cc/\RR wr W1.heap.size g j cc ws (Lw.qp fs j)/\Below w.heap.size w wr/\aV wr w.heap.size [.slice a len cap, .string d]/\∀k,k<j->(Lw.O4 fs k).length≠0) (fun _ i _=>len-(intOf i).toNat);(case atStart=>exact⟨0,_,0,[],rfl,jP _,rfl,hr3,OE,bM3,fun k hk=>by omega⟩);case round=>obtain⟨j,g,cc,ws,rfl,hjn,rfl,hR,hBw,JI,hne⟩:=hrel;clear hr3 OE bM3;have bMj:=JI;have m0:=(bMj.2 0 _ rfl).1;have m1:=(bMj.2 1 _ rfl).1;by_cases hlt:j<len;{have O5:(j:Int)<(len:Int):=by{omega};have hcj:=HS.out wr hBw j hlt;have HR:=ae (ak hR (ak hBw (ak JI hne)));clear hR hBw JI hne bMj;go_wp2_with fail;refine hcj.mono ?_;rintro e w4⟨v4,rfl,MU,hB4⟩;dsimp only;obtain⟨hR,hBw,JI,hne⟩:=HR.out;have hR4:=hR.kept hB4;have GA:=hBw.trans (hB4.mono hBw.size);have JK:=JI.kept hB4;have Yn:W1.heap.size<=wr.heap.size:=fE (dJ hR.1 rfl).1 (Nat.le_of_lt (dJ hR.1 rfl).2);have MV:=MU.mono Yn;obtain⟨gl,cl,rfl,-,-,-⟩:=MU.LL;obtain⟨ln,hln⟩:∃n,(Lw.O4 fs j).length=n:=⟨_,rfl⟩;have acd:(Lw.func fs (Mn.fn fs j) (aM.ends (Mn.fn fs j).b) (aM.bq (Mn.fn fs j).b) (Mn.jO fs j)).length=ln:=hln;rw[acd]at MV ⊢;have ho6:sS w4 W1.heap.size (.slice (some ⟨gl,0,none⟩) ln cl) (Lw.O4 fs j):=MV;rcases Nat.eq_zero_or_pos ln with h0|hpos;{subst h0;have hno:=Lw.Rm (by rw[hl];exact hlt) hln;have HE:Hid (Lw.aW fs d=([],false)):=by{show _=_;unfold Lw.aW;rw[ax (by rw[hno];simp)]};have HF:=ae (ak (RR.zero w4 w.heap.size GA.size) (GA.trans ((aB w4 (.cells #[] 67)).mono GA.size)));clear HR hR hBw JI hne hR4 GA JK MU MV ho6 hcj hB4 m0 m1 hln acd;go_wp2;(try simp only[Exit.inBlock,Exit.then]);go_ret2;rw[HE.out];exact⟨_,_,_,_,rfl,HF.out.1,HF.out.2⟩};have hz:((ln:Int)==0)=false:=by{simp;omega};have hBa:=aB w4 (.cells #[.slice (some ⟨gl,0,none⟩) ln cl] 67);have HRW:=ae (aN hR4.1 hBa);have HK:=ae (ak hR4 (ak GA (ak JK (ak hne (ak ho6 (ak hln hBa))))));have qX:W1.heap.size<=w4.heap.size:=fE Yn hB4.size;clear HR hR hBw JI hne hR4 GA JK MU MV ho6 hcj hB4 m0 m1 hln acd hBa;go_wp2_with(at_builtin;refine wpList_append_own_at _ rfl _ _ 33 rfl W1.heap.size 67 i0 (.slice none 0 0) 1 24 Tryz.underlying33 hi hz0 hz1 hz2 rfl (by decide) (.slice (some ⟨g,0,none⟩) j cc) j ws rfl HRW.out ⟨w4.heap.size,0,none⟩ 1 1 [.slice (some ⟨gl,0,none⟩) ln cl] rfl rfl (Rt w4 _ _ 67 _ rfl (fun i=>rfl)) (by simp[Value.oneCell']) (by simp only[maxLen];omega) (by omega) (by simp;omega) ?_;intro v2 wB hown2 hgrow2 _ Gz;obtain⟨g2,cap2,rfl⟩:=qx hown2;have oJ:=ae (ak hown2 hgrow2);clear hown2 hgrow2 Gz);go_roundw;(case rel=>obtain⟨hR4,GA,JK,hne,ho6,hln,hBa⟩:=HK.out;have hM:=hR4.more hBa _ _ ho6 oJ.out.1 oJ.out.2;rw[←Lw.Kl]at hM;refine⟨j+1,g2,cap2,_,by congr 1<;>omega,by omega,rfl,hM,eZ (GA.trans (hBa.mono GA.size)) oJ.out.2 (fun b e=>by have:=(dJ HRW.out e).1;omega),?_,fun k hk=>?_⟩;{exact(JK.kept hBa).dU oJ.out.2 (fun e=>by have:=(dJ HRW.out e).1;omega)};by_cases e:k=j;{subst e;omega};exact hne k (by omega));case measure=>simp[intOf];omega};obtain rfl:j=len:=by{omega};have O5:¬((j:Int)<(j:Int)):=by{omega};have vo:=Lw.NS (fs:=fs) (fun k hk=>hne k (by omega));have HE:Hid (Lw.aW fs d=(Lw.qp fs j,true)):=by{show _=_;unfold Lw.aW;rw[az ⟨HV.out,vo⟩,hl]};have HF:=ae (ak (hR.mono (Nat.le_of_lt hszW)) hBw);clear hR hBw JI hne bMj vo;go_wp2;go_ret2;rw[HE.out];exact⟨_,_,_,rfl,⟨_,HF.out.1⟩,HF.out.2⟩
theorem vM (a o:Int)(w:World):Calls Tryz.prog 146 #[.int .i64 a, .int .i64 o] w fun e w'=>e= .returned (.tuple #[.int .i64 (if Mm.there a o=true then a+o else 0), .bool (Mm.there a o)])/\w'=w:=by rcases hok:Wd.ok a;{have hth:Mm.there a o=false:=by{simp[Mm.there,hok]};rw[hth];go_enter Tryz.func146,Tryz.ntmps146;go_wp2_with(go_at_call 101;refine(eP _ _).mono ?_;rintro e w'⟨rfl,dz⟩;subst w';rw[hok]);go_ret2;exact⟨rfl,rfl⟩};have h0:=Wd.dx.1 hok;have ha0:=h0.1;have ha1:=h0.2;clear h0;rcases hin:Wd.dL o 0 255;{have hth:Mm.there a o=false:=by{simp[Mm.there,hin]};rw[hth];go_enter Tryz.func146,Tryz.ntmps146;go_wp2_with(first|(go_at_call 101;refine(eP _ _).mono ?_;rintro e w'⟨rfl,dz⟩;subst w';rw[hok])|(go_at_call 66;refine(bE _ _ _ _).mono ?_;rintro e w'⟨rfl,dz⟩;subst w';rw[hin]));go_ret2;exact⟨rfl,rfl⟩};have h1:=Wd.aX.1 hin;have ho0:=h1.1;have ho1:=h1.2;clear h1;by_cases hle:a+o<=60;{have hth:Mm.there a o=true:=Mm.iH.2 ⟨ha0,ho0,ho1,hle⟩;rw[hth,az rfl];go_enter Tryz.func146,Tryz.ntmps146;go_wp2_with(first|(go_at_call 101;refine(eP _ _).mono ?_;rintro e w'⟨rfl,dz⟩;subst w';rw[hok])|(go_at_call 66;refine(bE _ _ _ _).mono ?_;rintro e w'⟨rfl,dz⟩;subst w';rw[hin]));go_ret2;exact⟨rfl,rfl⟩};have hth:Mm.there a o=false:=by{rw[Bool.eq_false_iff];intro h;exact hle (Mm.iH.1 h).2.2.2};rw[hth];go_enter Tryz.func146,Tryz.ntmps146;go_wp2_with(first|(go_at_call 101;refine(eP _ _).mono ?_;rintro e w'⟨rfl,dz⟩;subst w';rw[hok])|(go_at_call 66;refine(bE _ _ _ _).mono ?_;rintro e w'⟨rfl,dz⟩;subst w';rw[hin]));go_ret2;exact⟨rfl,rfl⟩
theorem Oj (bs:List Int)(hl:bs.length=64)(hb:∀j,0<=bs.getD j 0/\bs.getD j 0<=255)(k:Nat)(hk:k+4<=64)(v:Int)(h0:0<=v)(h1:v<=4294967295)(w:World):Calls Tryz.prog 140 #[.agg (bs.map bv).toArray, .int .i64 k, .int .u32 v] w fun e w'=>e= .returned (.agg ((Mm.iG bs k v 4).map bv).toArray)/\Below w.heap.size w w':=by have HL:=ae hl;obtain⟨cs,hcs⟩:=aF (bs.map bv);obtain⟨zb,hzb⟩:=aF ((List.replicate 64 (0:Int)).map bv);have HC:=Kj;rw[hzb]at HC;rw[hcs];clear hl;go_enter Tryz.func140,Tryz.ntmps140;go_wp2_with(refine pu 115 _ rfl ?_);refine⟨?_⟩;refine ky rfl _ _ rfl cs rfl ?_;intro g1 w1 hg1 hA1 hB1;go_wp2_with(refine gX 115 rfl ?_);refine⟨?_⟩;refine eu rfl _ rfl zb 64 HC ?_;intro g2 w2 hg2 hA2 hB2;have hBw:=hB1.trans (hB2.mono hB1.size);have HW:=ae (ak hBw (ak (hA1.kept hB2) hA2));have HG:Hid (w.heap.size<=g1/\w.heap.size<=g2/\g1≠g2):=by{have e1:=hg1.out;have e2:=hg2.out;have s1:=hB1.size;have s3:=hA1.lt;exact⟨by omega,by omega,by omega⟩};clear hA1 hA2 hB1 hB2 hBw hg1 hg2 HC;go_wp2;go_loopw [7,8,9,10,11,12,13,14,15,16,17,18,19,20] (fun _ i _ _ _ _ _ _ _ _ _ _ _ _ wr=>∃(j:Nat),i= .int .i64 j/\j<=4/\dC wr g1 115 ((Mm.iG bs k v j).map bv)/\dC wr g2 115 zb/\Below w.heap.size w wr) (fun _ i _ _ _ _ _ _ _ _ _ _ _ _ _=>4-(intOf i).toNat);(case atStart=>exact⟨0,rfl,by omega,by rw[Mm.iG,hcs];exact HW.out.2.1,HW.out.2.2,HW.out.1⟩);case round=>obtain⟨j,rfl,hj,hA1,hA2,hB⟩:=hrel;have HA:=ae (ak hA2 hB);by_cases hlt:j<4;{have gu:(j:Int)<4:=by{omega};have hkj:k+j<64:=by{omega};have hc:=hA1.cell (iy (f:=bv) (k:=k+j) (by rw[Mm.mf,HL.out];exact hkj));have hf:=hA1.frozen (k+j);have hset:=hA1.set (k+j) (bv (v / 256 ^ j%256));rw[←List.map_set,←Mm.iG]at hset;obtain⟨q,hq⟩:=aF ((Mm.iG bs k v j).getD (k+j) 0);rw[hq]at hc;have HS:=ae hset;clear hq hset hA1 hA2 hB hb;unfold bv at hc;obtain rfl|rfl|rfl|rfl:j=0\/j=1\/j=2\/j=3:=by{omega};{rw[Nat.add_zero]at hc hf;go_wp2;have e:=HS.out;rw[Nat.add_zero,show v / 256 ^ 0%256=v%256 by simp]at e;exact⟨⟨1,rfl,by omega,e,HA.out.1.dU (aC _ ⟨g1,k,none⟩ _) (by simpa using Ne.symm HG.out.2.2),HA.out.2.setCell (p:=⟨g1,k,none⟩) HG.out.1 _⟩,by simp[intOf]⟩};{go_wp2;have e:=HS.out;rw[show(256:Int) ^ 1=256 from rfl]at e;exact⟨⟨2,rfl,by omega,e,HA.out.1.dU (aC _ ⟨g1,k+1,none⟩ _) (by simpa using Ne.symm HG.out.2.2),HA.out.2.setCell (p:=⟨g1,k+1,none⟩) HG.out.1 _⟩,by simp[intOf]⟩};{go_wp2;have e:=HS.out;rw[show(256:Int) ^ 2=65536 from rfl]at e;exact⟨⟨3,rfl,by omega,e,HA.out.1.dU (aC _ ⟨g1,k+2,none⟩ _) (by simpa using Ne.symm HG.out.2.2),HA.out.2.setCell (p:=⟨g1,k+2,none⟩) HG.out.1 _⟩,by simp[intOf]⟩};go_wp2;have e:=HS.out;rw[show(256:Int) ^ 3=16777216 from rfl,show v / 16777216%256=v / 16777216 by omega]at e;exact⟨⟨4,rfl,by omega,e,HA.out.1.dU (aC _ ⟨g1,k+3,none⟩ _) (by simpa using Ne.symm HG.out.2.2),HA.out.2.setCell (p:=⟨g1,k+3,none⟩) HG.out.1 _⟩,by simp[intOf]⟩};obtain rfl:j=4:=by{omega};have hll:((Mm.iG bs k v 4).map bv).length=64:=by{rw[iw,Mm.mf];exact HL.out};have hlz:zb.length=64:=by{rw[←hzb];simp};obtain⟨ys,hys⟩:=aF ((Mm.iG bs k v 4).map bv);have HY:=ae hys;have hone:∀x∈ys,x.oneCell'=true:=by{rw[←hys];exact tH};rw[hys]at hll hA1;clear hys hb hB;go_wp2_with(refine jr 115 _ rfl ?_);refine⟨?_⟩;refine gW rfl _ _ rfl g1 rfl _ _ hA1 64 5 Tryz.underlying115 (by rw[hll];exact jl) ?_;go_wp2_with(refine jh 115 _ _ rfl ?_);refine⟨?_⟩;refine fZ rfl _ _ _ rfl g2 ys rfl rfl _ _ hA2 (by rw[hll];exact jl) (by rw[hll,hlz]) hone ?_;intro w5 VT hg5;have HA5:=ae VT;go_wp2;refine ib (v:= .agg ys.toArray) ?_ rfl ⟨by rw[HY.out],aG HA.out.2 hg5 HG.out.2.1⟩;exact results_cell_row rfl _ _ g2 _ _ _ _ rfl HA5.out Tryz.underlying115 rfl (by rw[List.size_toArray,hll];exact jl)
theorem Co {x q:Int}(i:Nat)(hi:i<=24)(h0:0<=x)(h1:x<2 ^ i)(h2:0<=q)(h3:q<=255):bits .or .u32 x (q*2 ^ i)=x+q*2 ^ i:=by obtain⟨n,rfl⟩:=BQ h0;obtain⟨m,rfl⟩:=BQ h2;have hn:n<2 ^ i:=by{have:((n:Int))<((2 ^ i:Nat):Int):=by{push_cast;exact h1};exact_mod_cast this};have hm:m<=255:=by{omega};have hp:2 ^ i<=2 ^ 24:=Nat.pow_le_pow_right (by omega) hi;have hmi:m*2 ^ i<=255*2 ^ 24:=Nat.mul_le_mul hm hp;have h:=(bits_nat .u32 32 (by decide) Wd.vI n (m*2 ^ i) (by omega) (by omega)).2;have e:((m*2 ^ i:Nat):Int)=(m:Int)*2 ^ i:=by{push_cast;rfl};rw[e]at h;rw[h,Nat.mul_comm,Nat.or_comm,←Nat.two_pow_add_eq_or_of_lt hn m];push_cast;rw[Int.mul_comm,Int.add_comm]
theorem Nr (bs:List Int)(hl:bs.length=64)(hb:∀j,0<=bs.getD j 0/\bs.getD j 0<=255)(k:Nat)(hk:k+4<=64)(w:World):Calls Tryz.prog 138 #[.agg (bs.map bv).toArray, .int .i64 k] w fun e w'=>e= .returned (.int .u32 (Mm.jS bs k 4))/\Below w.heap.size w w':=by have HL:=ae hl;obtain⟨cs,hcs⟩:=aF (bs.map bv);have hbd:=Mm.vJ hb k;rw[hcs];clear hl;go_enter Tryz.func138,Tryz.ntmps138;go_wp2_with(refine pu 115 _ rfl ?_);refine⟨?_⟩;refine ky rfl _ _ rfl cs rfl ?_;intro g1 w1 hg1 hA1 hB1;have HW:=ae (ak hB1 hA1);clear hA1 hB1 hg1;go_wp2;go_loop [5,6,7,8,9,10,11,12,13,14,15,16,17,18,19,20,21] (fun x _ i _ _ _ _ _ _ _ _ _ _ _ _ _ _=>∃(j:Nat),i= .int .i64 j/\j<=4/\x= .int .u32 (Mm.jS bs k j)) (fun _ _ i _ _ _ _ _ _ _ _ _ _ _ _ _ _=>4-(intOf i).toNat);(case atStart=>exact⟨0,rfl,by omega,rfl⟩);case round=>obtain⟨j,rfl,hj,rfl⟩:=hrel;by_cases hlt:j<4;{have gu:(j:Int)<4:=by{omega};have hkj:k+j<64:=by{omega};have hc:=HW.out.2.cell (hcs▸iy (f:=bv) (bs:=bs) (k:=k+j) (by rw[HL.out];exact hkj));have hp0:=(hb (k+j)).1;have hp1:=(hb (k+j)).2;have hx0:=(hbd j).1;have hx1:=(hbd j).2;have hN:Mm.jS bs k (j+1)=Mm.jS bs k j+bs.getD (k+j) 0*256 ^ j:=rfl;obtain⟨q,hq⟩:=aF (bs.getD (k+j) 0);obtain⟨x,hx⟩:=aF (Mm.jS bs k j);rw[hq]at hc hp0 hp1 hN;rw[hx]at hx0 hx1 hN ⊢;have HN:=ae hN;clear hq hx hN hb hbd;unfold bv at hc;obtain rfl|rfl|rfl|rfl:j=0\/j=1\/j=2\/j=3:=by{omega};{rw[Nat.add_zero]at hc;rw[show(256:Int) ^ 0=1 from rfl]at hx1;go_wp2;have e:=Co 0 (by omega) hx0 hx1 hp0 hp1;have e2:=HN.out;rw[show(2:Int) ^ 0=1 from rfl,Int.mul_one]at e;rw[show(256:Int) ^ 0=1 from rfl,Int.mul_one]at e2;exact⟨⟨1,rfl,by omega,by rw[e];exact congrArg _ e2.symm⟩,by simp[intOf]⟩};{rw[show(256:Int) ^ 1=256 from rfl]at hx1;go_wp2;have e:=Co 8 (by omega) hx0 hx1 hp0 hp1;have e2:=HN.out;rw[show(2:Int) ^ 8=256 from rfl]at e;rw[show(256:Int) ^ 1=256 from rfl]at e2;exact⟨⟨2,rfl,by omega,by rw[e];exact congrArg _ e2.symm⟩,by simp[intOf]⟩};{rw[show(256:Int) ^ 2=65536 from rfl]at hx1;go_wp2;have e:=Co 16 (by omega) hx0 hx1 hp0 hp1;have e2:=HN.out;rw[show(2:Int) ^ 16=65536 from rfl]at e;rw[show(256:Int) ^ 2=65536 from rfl]at e2;exact⟨⟨3,rfl,by omega,by rw[e];exact congrArg _ e2.symm⟩,by simp[intOf]⟩};rw[show(256:Int) ^ 3=16777216 from rfl]at hx1;go_wp2;have e:=Co 24 (by omega) hx0 hx1 hp0 hp1;have e2:=HN.out;rw[show(2:Int) ^ 24=16777216 from rfl]at e;rw[show(256:Int) ^ 3=16777216 from rfl]at e2;exact⟨⟨4,rfl,by omega,by rw[e];exact congrArg _ e2.symm⟩,by simp[intOf]⟩};obtain rfl:j=4:=by{omega};clear hb hbd;go_wp2;go_ret;exact⟨rfl,HW.out.1⟩
def OT (W:World)(n₀:Nat)(v:Value)(xs:List Int):Prop:=∃t,W.ownsRow n₀ t 1 v xs.length (xs.map iv)
theorem OI.ot(h:OI W n₀ v xs):OT W n₀ v xs:=⟨_,h⟩
theorem OT.slice {W:World}{n₀:Nat}{v:Value}{xs:List Int}(h:OT W n₀ v xs):∃a cap,v= .slice a xs.length cap/\IL W a xs.length xs:=by obtain⟨t,h⟩:=h;rcases h.2 with⟨rfl,h0⟩|⟨g,cap,cur,rfl,hb,hc,hn,hm,hs,ht⟩;{exact⟨none,0,by rw[h0],rfl,by rw[h0];exact jP _, .inl h0⟩};refine⟨_,cap,rfl,rfl,fE hn hm, .inr ⟨g,0,rfl,(h.lt g rfl).2,fun j hj=>?_⟩⟩;have:=h.cellAt j (by omega);rw[Nat.zero_add,this,J2,ai hj,ah,ai hj];rfl
theorem OT.il{a:Option Addr}{c:Nat}(h:OT W n₀ (.slice a n c) xs):n=xs.length/\IL W a n xs:=by obtain⟨a',c',e,hil⟩:=h.slice;simp only[Value.slice.injEq]at e;obtain⟨rfl,rfl,rfl⟩:=e;exact⟨rfl,hil⟩
theorem OT.kept {W W':World}{n₀:Nat}{v:Value}{xs:List Int}(h:OT W n₀ v xs)(hB:Below W.heap.size W W'):OT W' n₀ v xs:=by obtain⟨t,h⟩:=h;refine⟨t,aaZ (row:=none) h ⟨hB.os,hB.tape,hB.output,hB.size,fun k hk _=>hB.block k hk⟩ ?_⟩;rcases hv:v.ownBlock with _|b;{exact .inl rfl};exact .inr (by simp)
theorem OT.dU{b:Nat}(h:OT W n₀ v xs)(hg:W.grownBy W' (some b))(hne:∀g,v.ownBlock=some g->g≠b):OT W' n₀ v xs:=by obtain⟨t,h⟩:=h;refine⟨t,aaZ h hg ?_⟩;rcases hv:v.ownBlock with _|b';{exact .inl rfl};refine .inr ?_;have:=hne b' hv;simp only[ne_eq,af];omega
theorem OT.mono(h:OT W n₁ v xs)(hn:n₀<=n₁):OT W n₀ v xs:=by obtain⟨t,h⟩:=h;refine⟨t,h.1,?_⟩;rcases h.2 with h'|⟨g',cap',cur,h',hb,r⟩;{exact .inl h'};exact .inr ⟨g',cap',cur,h',fE hn hb,r⟩
theorem OT.lt {W:World}{n₀:Nat}{v:Value}{xs:List Int}(h:OT W n₀ v xs)(g:Nat)(hg:v.ownBlock=some g):n₀<=g/\g<W.heap.size:=by obtain⟨t,h⟩:=h;exact Au h g hg
theorem dC.ot(h:dC W g t (xs.map iv))(hg:n₀<=g)(hm:xs.length<=maxLen):OT W n₀ (.slice (some ⟨g,0,none⟩) xs.length xs.length) xs:=
 ⟨t,by simp, .inr ⟨g,xs.length,(xs.map iv).toArray,rfl,hg,h,bG _,hm,by simp,by rw[Nat.mul_one];exact List.take_of_length_le (by simp)⟩⟩
theorem L6 (bs:List Int)(hl:bs.length=64)(hb:∀j,0<=bs.getD j 0/\bs.getD j 0<=255)(w:World):Calls Tryz.prog 103 #[.agg (bs.map bv).toArray] w fun e w'=>∃v,e= .returned v/\OT w' w.heap.size v bs/\Below w.heap.size w w':=by have HL:=ae (ak hl hb);obtain⟨cs,hcs⟩:=aF (bs.map bv);obtain⟨zs,hzs⟩:=aF ((List.replicate 64 (0:Int)).map iv);have HZ:=KN;rw[hcs];rw[hzs]at HZ;have hlc:cs.length=64:=by{rw[←hcs,iw];exact hl};have hlz:zs.length=64:=by{rw[←hzs];simp};clear hl hb;go_enter Tryz.func103,Tryz.ntmps103;go_wp2_with(refine pu 115 _ rfl ?_);refine⟨?_⟩;refine ky rfl _ _ rfl cs rfl ?_;intro g1 w1 hg1 hA1 hB1;go_wp2_with(refine jr 115 _ rfl ?_);refine⟨?_⟩;refine gW rfl _ _ rfl g1 rfl _ _ hA1 64 5 Tryz.underlying115 (by rw[hlc];exact jl) ?_;go_wp2_with fail;rw[←hcs];refine(Ik bs HL.out.1 HL.out.2 _).mono ?_;rintro e w2⟨rfl,hB2⟩;obtain⟨is,his⟩:=aF (bs.map iv);have VX:is.length=64:=by{rw[←his,iw];exact HL.out.1};have hone:∀x∈is,x.oneCell'=true:=by{rw[←his];exact ji};have HIn:=ae his;rw[his];have hBa:=hB1.trans (hB2.mono hB1.size);dsimp only;go_wp2_with(refine gX 168 rfl ?_);refine⟨?_⟩;refine eu rfl _ rfl zs 64 HZ ?_;intro g3 w3 hg3 hA3 hB3;have hBb:=hBa.trans (hB3.mono hBa.size);go_wp2_with(refine jh 168 _ _ rfl ?_);refine⟨?_⟩;refine fZ rfl _ _ _ rfl g3 is rfl rfl _ _ hA3 (by rw[VX];exact tO) (by rw[VX,hlz]) hone ?_;intro w5 VT hg5;have HA5:=ae VT;have ho:w.heap.size<=g3:=by{have:=hg3.out;have:=hBa.size;omega};have HB5:=ae (aG hBb hg5 ho);clear hBa hBb hB1 hB2 hB3 hA1 hA3 hg5 VT his;go_wp2;go_ret;have h:=HA5.out;rw[←HIn.out]at h;have h2:=h.ot ho (by rw[HL.out.1];simp[maxLen]);rw[HL.out.1]at h2;exact⟨_,rfl,h2,HB5.out⟩
theorem gq (a:Option Addr)(len cap:Nat)(xs:List Int)(w:World)(hs:IL w a len xs):Calls Tryz.prog 18 #[.slice a len cap] w fun e w'=>e= .returned (.bool (Mm.ok xs))/\w'=w:=by obtain⟨hl,hm,hrow⟩:=hs;have HL:=ae hl;unfold maxLen at hm;clear hl;go_enter Tryz.func18,Tryz.ntmps18;go_wp2;go_loop [3] (fun i=>∃k:Nat,i= .int .i64 k/\k<=len/\∀j,j<k->0<=xs.getD j 0/\xs.getD j 0<=255) (fun i=>len-(intOf i).toNat);(case atStart=>exact⟨0,rfl,jP _,by simp⟩);case round=>obtain⟨k,rfl,hk,hall⟩:=hrel;have HA:=ae hall;clear hall;by_cases hlt:k<len;{rcases hrow with h0|⟨b,off,rfl,hb,hx⟩;{omega};have hx0:=hx k hlt;have gu:(k:Int)<(len:Int):=by{omega};obtain⟨p,hp⟩:=aF (xs.getD k 0);rw[hp]at hx0;have HP:=ae hp;clear hx hp;rcases hin:Wd.dL p 0 255 with _|_;{go_wp2_with(go_at_call 47;refine(bH _ _ _ _).mono ?_;rintro e w'⟨rfl,dz⟩;subst w';rw[hin]);go_ret;refine⟨dh ?_,rfl⟩;symm;rw[Bool.eq_false_iff];intro h;have h2:=Mm.kP h k;rw[HP.out,←Wd.aX,hin]at h2;cases h2};go_wp2_with(go_at_call 47;refine(bH _ _ _ _).mono ?_;rintro e w'⟨rfl,dz⟩;subst w';rw[hin]);go_round;(case rel=>refine⟨k+1,by simp,by omega,fun j hj=>?_⟩;by_cases e:j=k;{subst e;rw[HP.out];exact Wd.aX.1 hin};exact HA.out j (by omega));case measure=>simp[intOf];omega};have gu:¬(k:Int)<(len:Int):=by{omega};have hke:k=len:=by{omega};have hall:∀x∈xs,0<=x/\x<=255:=by{refine Mm.Kn fun j=>?_;by_cases hj:j<len;{exact HA.out j (by omega)};rw[ah,List.getElem?_eq_none (by rw[HL.out];omega)];exact⟨by simp,by simp⟩};have pI:=ae hall;clear hrow hall;by_cases h64:len=64;{have hb:((len:Int)==64)=true:=by{simp[h64]};clear hke;go_wp2;go_ret;refine⟨dh ?_,rfl⟩;rw[(Mm.dx (xs:=xs)).2 ⟨HL.out.trans h64,pI.out⟩]};have hb:((len:Int)==64)=false:=by{simp;omega};clear hke;go_wp2;go_ret;refine⟨dh ?_,rfl⟩;have:Mm.ok xs=false:=by{rw[Bool.eq_false_iff];intro h;exact h64 (HL.out.symm.trans (Mm.fK h))};rw[this]
theorem iJ (a o:Int)(w:World):Calls Tryz.prog 90 #[.int .i64 a, .int .i64 o] w fun e w'=>e= .returned (.bool (Mm.there a o))/\w'=w:=by rcases hok:Wd.ok a;{have hth:Mm.there a o=false:=by{simp[Mm.there,hok]};rw[hth];go_enter Tryz.func90,Tryz.ntmps90;go_wp2_with(go_at_call 56;refine(bF _ _).mono ?_;rintro e w'⟨rfl,dz⟩;subst w';rw[hok]);go_ret;exact⟨rfl,rfl⟩};have h0:=Wd.dx.1 hok;have ha0:=h0.1;have ha1:=h0.2;clear h0;rcases hin:Wd.dL o 0 255;{have hth:Mm.there a o=false:=by{simp[Mm.there,hin]};rw[hth];go_enter Tryz.func90,Tryz.ntmps90;go_wp2_with(first|(go_at_call 56;refine(bF _ _).mono ?_;rintro e w'⟨rfl,dz⟩;subst w';rw[hok])|(go_at_call 47;refine(bH _ _ _ _).mono ?_;rintro e w'⟨rfl,dz⟩;subst w';rw[hin]));go_ret;exact⟨rfl,rfl⟩};have h1:=Wd.aX.1 hin;have ho0:=h1.1;have ho1:=h1.2;clear h1;have hth:Mm.there a o=decide (a+o+4<=64):=by{rw[Mm.there,hok,hin,Bool.true_and,Bool.true_and];exact decide_eq_decide.2 (by omega)};rw[hth];go_enter Tryz.func90,Tryz.ntmps90;go_wp2_with(first|(go_at_call 56;refine(bF _ _).mono ?_;rintro e w'⟨rfl,dz⟩;subst w';rw[hok])|(go_at_call 47;refine(bH _ _ _ _).mono ?_;rintro e w'⟨rfl,dz⟩;subst w';rw[hin]));go_ret;exact⟨rfl,rfl⟩
theorem uH (a:Option Addr)(cap:Nat)(xs:List Int)(k:Nat)(hk:k+4<=64)(w:World)(hs:IL w a 64 xs)(hb:∀j,0<=xs.getD j 0/\xs.getD j 0<=255):Calls Tryz.prog 91 #[.slice a 64 cap, .int .i64 k] w fun e w'=>e= .returned (.int .i64 (Mm.jS xs k 4))/\Below w.heap.size w w':=by obtain⟨hl,hm,hrow⟩:=hs;rcases hrow with h0|⟨b,off,rfl,hbl,hx⟩;{omega};have c0:=hx k (by omega);have c1:=hx (k+1) (by omega);have c2:=hx (k+2) (by omega);have c3:=hx (k+3) (by omega);have HN:Hid (Mm.jS xs k 4=xs.getD k 0+xs.getD (k+1) 0*256+xs.getD (k+2) 0*65536+xs.getD (k+3) 0*16777216):=by{show _=_;simp only[Mm.jS,Nat.add_zero,show(256:Int) ^ 0=1 from rfl,show(256:Int) ^ 1=256 from rfl,show(256:Int) ^ 2=65536 from rfl,show(256:Int) ^ 3=16777216 from rfl];omega};have b0:=hb k;have b1:=hb (k+1);have b2:=hb (k+2);have b3:=hb (k+3);obtain⟨p0,h0⟩:∃p,xs.getD k 0=p:=⟨_,rfl⟩;obtain⟨p1,h1⟩:∃p,xs.getD (k+1) 0=p:=⟨_,rfl⟩;obtain⟨p2,h2⟩:∃p,xs.getD (k+2) 0=p:=⟨_,rfl⟩;obtain⟨p3,h3⟩:∃p,xs.getD (k+3) 0=p:=⟨_,rfl⟩;rw[h0]at c0 b0;rw[h1]at c1 b1;rw[h2]at c2 b2;rw[h3]at c3 b3;rw[h0,h1,h2,h3]at HN;obtain⟨b00,b01⟩:=b0;obtain⟨b10,b11⟩:=b1;obtain⟨b20,b21⟩:=b2;obtain⟨b30,b31⟩:=b3;clear h0 h1 h2 h3 hx hb hm hl;have k0:(k:Int)<64:=by{omega};go_enter Tryz.func91,Tryz.ntmps91;go_wp2;go_quiet (fail);go_wp2;go_ret;exact⟨by rw[HN.out];rfl,below_drewN _ _⟩
theorem wE (s:ByteArray)(w:World):Calls Tryz.prog 10 #[.string s] w fun e w'=>∃v,e= .returned v/\OT w' w.heap.size v (Mm.new s)/\Below w.heap.size w w':=by by_cases hle:s.size<=64;{have ahK:¬(64:Int)<(s.size:Int):=by{omega};obtain⟨i0,hi,hz0,hz1,hz2⟩:=lW bQ;obtain⟨wm,hmk,hown,hgrow⟩:=run_make_full (P:=Tryz.prog) w w.heap.size 27 2 i0 _ 1 Tryz.underlying27 hi hz0 hz1 .i64 .i64 64 (by rw[hz2];omega) (by simp only[maxLen];omega) (bG _);have hBm:Below w.heap.size w wm:=⟨hgrow.os,hgrow.tape,hgrow.output,hgrow.size,fun k hk=>hgrow.block k hk (by simp)⟩;have hown0:wm.ownsRow w.heap.size 2 1 (.slice (some ⟨w.heap.size,0,none⟩) 64 64) 64 ((List.replicate 64 0).map iv):=by{have e:(madeCells (Value.int .i64 0).cells 64).toList=List.replicate 64 (iv 0):=toList_madeCells_one _ _;rw[List.map_replicate,←e];exact hown};clear hown hgrow;rw[show((64:Nat):Int)=64 from rfl]at hmk;go_enter Tryz.func10,Tryz.ntmps10;go_wp2;go_loopw [4] (fun i wr=>∃(k:Nat)(ys:List Int),i= .int .i64 k/\k<=s.size/\ys.length=64/\(∀j,ys.getD j 0=if j<k then(Mm.GM s).getD j 0 else 0)/\wr.ownsRow w.heap.size 2 1 (.slice (some ⟨w.heap.size,0,none⟩) 64 64) 64 (ys.map iv)/\Below w.heap.size w wr) (fun i _=>s.size-(intOf i).toNat);(case atStart=>exact⟨0,List.replicate 64 0,rfl,jP _,by simp,fun j=>by rw[ax (by omega),ah,List.getElem?_replicate];split<;>rfl,hown0,hBm⟩);case round=>obtain⟨k,ys,rfl,hk,hyl,hys,hown,hB⟩:=hrel;have HY:=ae (ak hyl hys);clear hown0;by_cases hlt:k<s.size;{have gu:(k:Int)<(s.size:Int):=by{omega};have Lp:=Mm.Ib hlt;obtain⟨p,hp⟩:∃p:UInt8,s[k]=p:=⟨_,rfl⟩;have hs:s[k]?=some p:=by{rw[getElem?_pos s k hlt,hp]};rw[hp]at Lp;have hpb:=UInt8.toNat_lt p;have HW:Hid (wrap64 ((s[k]'hlt).toNat:Int)=(p.toNat:Int)):=by{show _=_;rw[hp,wrap64.eq_1];omega};have HP:=ae Lp;have hc0:=hown.cellAt k (by omega);rw[iy (by omega)]at hc0;obtain⟨q,hq⟩:=aF (ys.getD k 0);rw[hq]at hc0;have hf0:=hown.frozenAt k;have Bg:=hown.stored k (.int .i64 (p.toNat:Int));rw[←gU ys k]at Bg;have HST:=ae Bg.1;have HB:=ae (hB.setCell (p:=⟨w.heap.size,k,none⟩) (bG _) (.int .i64 (p.toNat:Int)));clear hyl hys hp hq Bg hown hB Lp;unfold iv at hc0;go_wp2;go_roundw;(case rel=>rw[HW.out];refine⟨k+1,ys.set k (p.toNat:Int),by simp,by omega,by rw[uY];exact HY.out.1,fun j=>?_,HST.out,HB.out⟩;rw[Mm.iq (by rw[HY.out.1];omega)];by_cases e:j=k;{subst e;rw[az rfl,az (by omega),HP.out]};rw[ax e,HY.out.2 j];by_cases e2:j<k;{rw[az e2,az (by omega)]};rw[ax e2,ax (by omega)]);case measure=>simp[intOf];omega};have gu:¬(k:Int)<(s.size:Int):=by{omega};have hke:k=s.size:=by{omega};subst hke;have e:ys=Mm.new s:=by{refine rz (n:=64) ⟨hyl,fun j hj=>?_⟩ (Mm.fK (Mm.uh hle));rw[hys j,Mm.new,az hle];by_cases e2:j<s.size;{rw[az e2,ah,ah,uF (by rw[Mm.pF];exact e2)]};rw[ax e2,ah,qU (by rw[Mm.pF];omega),List.getElem?_replicate];split<;>rfl};subst e;have HO:=ae (ak hown hB);have HN:=ae hyl;clear hyl hys hown hB HY;go_wp2;go_ret;refine⟨_,rfl,⟨2,?_⟩,HO.out.2⟩;rw[HN.out];exact HO.out.1};have ahK:(64:Int)<(s.size:Int):=by{omega};have hn:Mm.new s=[]:=by{rw[Mm.new,ax hle]};rw[hn];go_enter Tryz.func10,Tryz.ntmps10;go_wp2;go_ret;exact⟨_,rfl,(OI.empty _).ot,(dZ _ _).alloc (bG _) _⟩
theorem r9 (n₀:Nat)(g cap:Nat)(xs:List Int)(hl:xs.length=64)(k:Nat)(hk:k+4<=64)(v:Int)(h0:0<=v)(h1:v<=4294967295)(w:World)(hs:w.ownsRow n₀ 2 1 (.slice (some ⟨g,0,none⟩) 64 cap) 64 (xs.map iv)):Calls Tryz.prog 92 #[.slice (some ⟨g,0,none⟩) 64 cap, .int .i64 k, .int .i64 v] w fun e w'=>e= .returned (.tuple #[])/\w'.ownsRow n₀ 2 1 (.slice (some ⟨g,0,none⟩) 64 cap) 64 ((Mm.iG xs k v 4).map iv)/\w.grownBy w' (some g):=by have HL:=ae hl;clear hl;go_enter Tryz.func92,Tryz.ntmps92;go_wp2;go_loopw [6] (fun i wr=>∃(j:Nat),i= .int .i64 j/\j<=4/\wr.ownsRow n₀ 2 1 (.slice (some ⟨g,0,none⟩) 64 cap) 64 ((Mm.iG xs k v j).map iv)/\w.grownBy wr (some g)) (fun i _=>4-(intOf i).toNat);(case atStart=>exact⟨0,rfl,by omega,hs,vC _ _⟩);case round=>obtain⟨j,rfl,hj,hown,hg⟩:=hrel;clear hs;by_cases hlt:j<4;{have gu:(j:Int)<4:=by{omega};have hkj:k+j<64:=by{omega};have hc:=hown.cellAt (k+j) (by omega);rw[iy (by rw[Mm.mf,HL.out];exact hkj)]at hc;have hf:=hown.frozenAt (k+j);have hset:=hown.stored (k+j) (iv (v / 256 ^ j%256));rw[←List.map_set,←Mm.iG]at hset;obtain⟨q,hq⟩:=aF ((Mm.iG xs k v j).getD (k+j) 0);rw[hq]at hc;have HS:=ae (ak hset.1 (fD hg hset.2));clear hq hset hown hg;unfold iv at hc;obtain rfl|rfl|rfl|rfl:j=0\/j=1\/j=2\/j=3:=by{omega};{rw[Nat.add_zero]at hc hf;go_wp2;have e:=HS.out;rw[Nat.add_zero,show v / 256 ^ 0%256=v%256 by simp]at e;rw[Wd.NG];exact⟨⟨1,rfl,by omega,e.1,e.2⟩,by simp[intOf]⟩};{go_wp2;have e:=HS.out;rw[show(256:Int) ^ 1=256 from rfl]at e;rw[Wd.NG];exact⟨⟨2,rfl,by omega,e.1,e.2⟩,by simp[intOf]⟩};{go_wp2;have e:=HS.out;rw[show(256:Int) ^ 2=65536 from rfl]at e;rw[Wd.NG];exact⟨⟨3,rfl,by omega,e.1,e.2⟩,by simp[intOf]⟩};go_wp2;have e:=HS.out;rw[show(256:Int) ^ 3=16777216 from rfl]at e;rw[Wd.NG];exact⟨⟨4,rfl,by omega,e.1,e.2⟩,by simp[intOf]⟩};obtain rfl:j=4:=by{omega};have HO:=ae (ak hown hg);clear hown hg;go_wp2;refine fw (fe rfl _ _ _) rfl ⟨rfl,HO.out.1,HO.out.2⟩
structure WC where
 B:Nat
 M:Nat
 Mc:Nat
 fb:Nat
 fo:Nat
 Fc:Nat
 hb:Nat
 ho:Nat
 Hc:Nat
 eb:Nat
 eo:Nat
 Ec:Nat
 ob:Nat
 oo:Nat
 Oc:Nat
 fs:List Fn
 d:ByteArray
def WC.dS (c:WC)(aH code:Int):List Value:=
 [.slice (some ⟨c.fb,c.fo,none⟩) c.fs.length c.Fc, .string c.d, .slice (some ⟨c.hb,c.ho,none⟩) c.fs.length c.Hc, .slice (some ⟨c.eb,c.eo,none⟩) c.fs.length c.Ec, .slice (some ⟨c.ob,c.oo,none⟩) c.fs.length c.Oc, .slice (some ⟨c.M,0,none⟩) 64 c.Mc, .int .i64 aH, .int .i64 code]
structure oP (c:WC)(W0 W:World):Prop where
 os:W.os=W0.os
 tape:W.tape=W0.tape
 out:W.output=W0.output
 size:W0.heap.size<=W.heap.size
 blk:∀i,i<W0.heap.size->i≠c.B->i≠c.M->W.heap[i]?=W0.heap[i]?
theorem oP.refl (c:WC)(W:World):oP c W W:=⟨rfl,rfl,rfl,bG _,fun _ _ _ _=>rfl⟩
theorem oP.trans {c:WC}{W0 W1 W2:World}(h:oP c W0 W1)(k:oP c W1 W2):oP c W0 W2:=
 ⟨k.os.trans h.os,k.tape.trans h.tape,k.out.trans h.out,fE h.size k.size,fun i hi h1 h2=>(k.blk i (aj hi h.size) h1 h2).trans (h.blk i hi h1 h2)⟩
theorem oP.below{c:WC}(h:Below W.heap.size W W'):oP c W W':=⟨h.os,h.tape,h.output,h.size,fun i hi _ _=>h.block i hi⟩
theorem oP.grown{c:WC}(h:W.grownBy W' row)(hr:row=none\/row=some c.B\/row=some c.M\/∃r,row=some r/\W.heap.size<=r):oP c W W':=
 ⟨h.os,h.tape,h.output,h.size,fun i hi h1 h2=>h.block i hi (by
   rcases hr with rfl|rfl|rfl|⟨r,rfl,hr⟩
   · simp
   · simpa using h1
   · simpa using h2
   · simp only[ne_eq,af];omega)⟩
def TL (W:World)(b off:Nat)(n:Nat)(f:Nat->List Int):Prop:=∀k,k<n->∃a m c,W.cell? ⟨b,off+k,none⟩=some (.slice a m c)/\IL W a m (f k)
structure YR (c:WC)(W0:World):Prop where
 fl:∀W,oP c W0 W->FL W (some ⟨c.fb,c.fo,none⟩) c.fs.length c.fs
 th:∀W,oP c W0 W->TL W c.hb c.ho c.fs.length (Mn.jO c.fs)
 te:∀W,oP c W0 W->TL W c.eb c.eo c.fs.length (fun k=>aM.ends (Mn.fn c.fs k).b)
 tn:∀W,oP c W0 W->TL W c.ob c.oo c.fs.length (fun k=>aM.bq (Mn.fn c.fs k).b)
 val:Mn.KE c.fs
 ne:c.B≠c.M
 fbn:c.fb<W0.heap.size/\c.fb≠c.B/\c.fb≠c.M
structure WK (c:WC)(W0 W:World)(mem:List Int)(aH code:Int):Prop where
 dA:oP c W0 W
 box:aV W c.B (c.dS aH code)
 row:W.ownsRow 0 2 1 (.slice (some ⟨c.M,0,none⟩) 64 c.Mc) 64 (mem.map iv)
theorem WK.kept {c:WC}{W0 W W':World}{mem:List Int}{aH code:Int}(h:WK c W0 W mem aH code)(hB:Below W.heap.size W W'):WK c W0 W' mem aH code:=
 ⟨h.dA.trans (oP.below hB),h.box.kept hB,h.row.kept (row:=none) ⟨hB.os,hB.tape,hB.output,hB.size,fun k hk _=>hB.block k hk⟩ (.inr (by simp[Value.ownBlock]))⟩
theorem BR{b:Nat}(h:FL W (some ⟨b,off,none⟩) n fs)(hk:k<n):W.cell? ⟨b,off+k*4,none⟩=some (.int .i64 (Mn.fn fs k).a)/\W.cell? ⟨b,off+k*4+1,none⟩=some (.int .i64 (Mn.fn fs k).l)/\W.cell? ⟨b,off+k*4+2,none⟩=some (.int .i64 (Mn.fn fs k).g)/\∃ba bl bc,W.cell? ⟨b,off+k*4+3,none⟩=some (.slice ba bl bc)/\SL W ba bl (Mn.fn fs k).b:=by obtain⟨-,-,h3|⟨b',off',e,hb,hx⟩⟩:=h;{omega};simp only[af,Addr.mk.injEq,and_true]at e;obtain⟨rfl,rfl⟩:=e;exact hx k hk
def Mn.Q7 (f:Fn)(E H:List Int)(at':Nat)(dp:Int):Int×Int×Int:=
 if dp.toNat<(aM.dG f.b E at' at').length then
   let t:=((aM.dG f.b E at' at').getD dp.toNat (-1)).toNat
   if aM.op f.b t=9 then((t:Int)+1,H.getD t 0,0)
   else if aM.op f.b t=10 then(aM.aI E t+1,H.getD t 0-1,Hg.arg f.b t)
   else(aM.aI E t+1,H.getD t 0,Hg.arg f.b t)
 else(-1,0,f.g)
theorem cell_kept{p:Addr}(hB:Below W.heap.size W W')(h:W.cell? p=some v):W'.cell? p=some v:=(hB.cell (p:=p) (block_lt_of_cell h)).trans h
theorem aM.Dx (xs:List (Int×Int))(E:List Int)(a:Int):∀k,(aM.dG xs E a k).length<=k
 |0=>bG _
 | k+1=>by
   have:=aM.Dx xs E a k
   unfold aM.dG
   split
   · rw[oG];omega
   · omega
theorem nY (c:WC)(W0 w:World)(mem:List Int)(aH code:Int)(T:YR c W0)(K:WK c W0 w mem aH code)(k:Nat)(hk:k<c.fs.length)(at':Nat)(hat:at'<(Mn.fn c.fs k).b.length)(dp:Int)(h0:0<=dp)(h9:dp<=99)
   (hJ:∀t:Nat,dp.toNat<(aM.dG (Mn.fn c.fs k).b (aM.ends (Mn.fn c.fs k).b) at' at').length->(aM.dG (Mn.fn c.fs k).b (aM.ends (Mn.fn c.fs k).b) at' at').getD dp.toNat (-1)=(t:Int)->0<=(Mn.jO c.fs k).getD t 0):
   Calls Tryz.prog 93 #[.pointer (some ⟨c.B,0,none⟩), .int .i64 k, .int .i64 at', .int .i64 dp] w fun e w'=>
     e= .returned (.tuple #[.int .i64 (Mn.Q7 (Mn.fn c.fs k) (aM.ends (Mn.fn c.fs k).b) (Mn.jO c.fs k) at' dp).1, .int .i64 (Mn.Q7 (Mn.fn c.fs k) (aM.ends (Mn.fn c.fs k).b) (Mn.jO c.fs k) at' dp).2.1, .int .i64 (Mn.Q7 (Mn.fn c.fs k) (aM.ends (Mn.fn c.fs k).b) (Mn.jO c.fs k) at' dp).2.2])/\Below w.heap.size w w':=by
 have hA:=T.val.acc k hk
 have hfo:=Mn.iT T.val hk
 have hall:St.cu (Mn.fn c.fs k).b=true:=by
   have:=Md.aZ T.val.all hk
   simp only[Md.ru,au]at this
   exact this.2.2.2.2
 obtain⟨F,hF⟩:=aF (Mn.fn c.fs k)
 obtain⟨Hs,hH⟩:=aF (Mn.jO c.fs k)
 have hfl:=BR (T.fl w K.dA) hk
 have hte:=T.te w K.dA k hk
 have hth:=T.th w K.dA k hk
 simp only[hF,hH]at hfl hte hth hA hfo hall hat hJ ⊢
 obtain⟨E,hE⟩:=aF (aM.ends F.b)
 rw[hE]at hte hA ⊢
 simp only[hE]at hJ
 obtain⟨f0,f1,f2,ba,bl,bc,f3,hsl⟩:=hfl
 obtain⟨ea,em,ec,e0,Bh⟩:=hte
 obtain⟨ha,hm,hc,q0,ace⟩:=hth
 have hbl:F.b.length=bl:=hsl.1
 have hem:em=bl:=by rw[←hbl,←Bh.1,hA.Lh.lE]
 have hhm:hm=bl:=by rw[←hbl,←ace.1,hA.lH]
 subst em
 subst hm
 have hat':at'<bl:=by omega
 have hLen:bl<=80:=by have:=hfo.2.2.2.2.2;omega
 have HBL:=ae (ak hbl hfo)
 clear hbl hfo hat
 have hbx:=K.box
 have b0:=(hbx.2 0 _ rfl).1
 have b2:=(hbx.2 2 _ rfl).1
 have b3:=(hbx.2 3 _ rfl).1
 have hn4:c.fs.length<=4:=T.val.len.2
 have RH:(k:Int)<(c.fs.length:Int):=by omega
 clear hbx
 go_enter Tryz.func93,Tryz.ntmps93
 go_wp2_with fail
 refine(qo ba bl bc F.b hLen hall ea ec E at' hat' w hsl Bh).mono ?_
 rintro e w1⟨v1,rfl,hoi,hB1⟩
 dsimp only
 obtain⟨a1,c1,rfl,Ab⟩:=hoi.slice
 have hal:=aM.Dx F.b E at' at'
 obtain⟨A,hAr⟩:=aF (aM.dG F.b E at' at')
 have harm:=fun i hi=>aM.Cr (i:=i) hA.Lh hAr hi
 have hmem:=fun x hx=>aM.nP (xs:=F.b) (E:=E) (at':=at') at' x hx
 rw[hAr]at Ab hal hmem ⊢
 simp only[hAr]at hJ
 have g0:=cell_kept hB1 b0
 have g2:=cell_kept hB1 b2
 have g3:=cell_kept hB1 b3
 have k2:=cell_kept hB1 f2
 have k3:=cell_kept hB1 f3
 have ke:=cell_kept hB1 e0
 have kq:=cell_kept hB1 q0
 have hsl1:=hsl.kept hB1
 have hE1:=Bh.kept hB1
 have hH1:=ace.kept hB1
 have HB:=ae hB1
 have HR:Hid (∀x,Mn.Q7 F E Hs at' dp=x->x=Mn.Q7 F E Hs at' dp):=fun x h=>h.symm
 clear hoi b0 b2 b3 f0 f1 f2 f3 e0 q0 hsl Bh ace hB1 HR
 by_cases hlt:dp.toNat<A.length
 · obtain⟨t,et,htl,hEt,-⟩:=harm dp.toNat hlt
   have hge:¬((A.length:Int)<=dp):=by omega
   have htn:t<bl:=by omega
   obtain⟨x,hx⟩:=aF (A.getD dp.toNat 0)
   have hxt:A.getD dp.toNat 0=(t:Int):=by
     rw[←et]
     unfold aM.aI
     rw[ah,ah,ai hlt]
     rfl
   have hdt:A.getD dp.toNat (-1)=(t:Int):=et
   have cA:∃ab ao,a1=some ⟨ab,ao,none⟩/\w1.cell? ⟨ab,ao+dp.toNat,none⟩=some (.int .i64 t):=by
     obtain⟨-,-,h3|⟨b,o,rfl,-,hh⟩⟩:=Ab
     · omega
     · exact⟨b,o,rfl,by rw[hh dp.toNat hlt,hxt]⟩
   obtain⟨ab,ao,rfl,cA⟩:=cA
   have cE:∃b o,ea=some ⟨b,o,none⟩/\w1.cell? ⟨b,o+t,none⟩=some (.int .i64 (aM.aI E t)):=by
     obtain⟨hl,-,h3|⟨b,o,rfl,-,hh⟩⟩:=hE1
     · omega
     · refine⟨b,o,rfl,?_⟩
       rw[hh t htn]
       unfold aM.aI
       rw[ah,ah,ai (by omega)]
       rfl
   obtain⟨eb,eo,rfl,cE⟩:=cE
   have cH:∃b o,ha=some ⟨b,o,none⟩/\w1.cell? ⟨b,o+t,none⟩=some (.int .i64 (Hs.getD t 0)):=by
     obtain⟨hl,-,h3|⟨b,o,rfl,-,hh⟩⟩:=hH1
     · omega
     · exact⟨b,o,rfl,hh t htn⟩
   obtain⟨hb',ho',rfl,cH⟩:=cH
   have cS:∃b o,ba=some ⟨b,o,none⟩/\w1.cell? ⟨b,o+t*2,none⟩=some (.int .i64 (aM.op F.b t))/\w1.cell? ⟨b,o+t*2+1,none⟩=some (.int .i64 (Hg.arg F.b t)):=by
     obtain⟨hl,-,h3|⟨b,o,rfl,-,hh⟩⟩:=hsl1
     · omega
     · exact⟨b,o,rfl,(hh t htn).1,(hh t htn).2⟩
   obtain⟨sb,so,rfl,Li,cS2⟩:=cS
   have HL:Hid (Mn.Q7 F E Hs at' dp=if aM.op F.b t=9 then((t:Int)+1,Hs.getD t 0,0)else if aM.op F.b t=10 then(aM.aI E t+1,Hs.getD t 0-1,Hg.arg F.b t)else(aM.aI E t+1,Hs.getD t 0,Hg.arg F.b t)):=by
     show _=_
     unfold Mn.Q7
     rw[hAr,az hlt]
     simp only[hdt,aA]
   have hEb:aM.aI E t<bl:=by
     have h1:=hA.Lh.f3 t (by rw[HBL.out.1];exact htn) (by omega)
     have:=HBL.out.1
     omega
   have hHb:Hs.getD t 0<=20:=hA.dO t (by rw[HBL.out.1];exact htn)
   have hHl:0<=Hs.getD t 0:=hJ t hlt hdt
   obtain⟨p,hp⟩:=aF (aM.op F.b t)
   obtain⟨q,hq⟩:=aF (Hg.arg F.b t)
   obtain⟨u,hu⟩:=aF (Hs.getD t 0)
   obtain⟨z,hz⟩:=aF (aM.aI E t)
   rw[hp,hq,hu,hz]at HL
   rw[hp]at Li
   rw[hq]at cS2
   rw[hu]at cH hHb hHl
   rw[hz]at cE hEb hEt
   obtain⟨dn,hdn⟩:=BQ h0
   subst hdn
   rw[aA]at cA hlt
   have hdZ:(dn:Int)<(A.length:Int):=by omega
   have htZ:(t:Int)<(bl:Int):=by omega
   have vk:=hal
   obtain⟨al,Td⟩:=aF (A.length)
   rw[Td]at hdZ hlt hge vk ⊢
   clear hmem harm Ab hsl1 hE1 hH1 hx hxt hdt et hp hq hu hz hal Td hAr hA hE hF hH hall x hJ
   by_cases h9':p=9
   · subst h9'
     go_wp2
     go_ret3
     exact⟨by rw[HL.out];rfl,HB.out⟩
   · by_cases h10:p=10
     · subst h10
       go_wp2
       go_quiet (fail)
       go_wp2
       go_ret3
       exact⟨by rw[HL.out];rfl,HB.out.trans ((below_drewN w1 _).mono HB.out.size)⟩
     · have e9:(p==9)=false:=by simpa using h9'
       have e10:(p==10)=false:=by simpa using h10
       go_wp2
       go_quiet (fail)
       go_wp2
       go_ret3
       exact⟨by rw[HL.out,ax h9',ax h10];rfl,HB.out.trans ((below_drewN w1 _).mono HB.out.size)⟩
 · have hge:(A.length:Int)<=dp:=by omega
   have HL:Hid (Mn.Q7 F E Hs at' dp=(-1,0,F.g)):=by
     show _=_
     unfold Mn.Q7
     rw[hAr,ax hlt]
   clear hmem harm Ab hsl1 hE1 hH1 hJ
   go_wp2
   go_quiet (fail)
   go_wp2
   go_ret3
   exact⟨by rw[HL.out];rfl,HB.out.trans ((below_drewN w1 _).mono HB.out.size)⟩
end Go.Proofs.YthkjdjmjdlimnaaGreat
