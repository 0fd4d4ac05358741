/- Own text. -/
import Derived.Test.YthkjdjmjdlimnaaGreatKV16
import Derived.Test.YthkjdjmjdlimnaaGreatKV22
namespace Go.Proofs.YthkjdjmjdlimnaaGreat
open Go.RowKit Go.Shelf
set_option linter.all false
set_option maxRecDepth 100000
set_option maxHeartbeats 16000000
variable {P:Nat->Prop}{W W' W0 W1 W2:World}{aH:Int}{args loc mem pile xs:List Int}{at' c cv e g i j k m n n₀ n₁ off:Nat}{d:ByteArray}{row:Option Nat}{t:TypeId}{u v vg:Value}
theorem Lw.CR{fs:List Fn}(h:Hg.valid fs d=true)(hk:k<fs.length):Md.ok fs d=true/\∃mo,Hg.kD fs (Mn.fn fs k)=some (Mn.jU fs k,mo):=by unfold Hg.valid at h;rw[au]at h;refine⟨h.1,?_⟩;have h2:=List.all_eq_true.1 h.2 k (List.mem_range.2 hk);unfold Hg.jO at h2;rw[az ⟨h.1,by omega,by omega⟩]at h2;simp only[aA]at h2;unfold Mn.jU Mn.fn;rcases e:Hg.kD fs (fs.getD k .z)with _|⟨H,mo⟩;{rw[e]at h2;cases h2};exact⟨mo,rfl⟩
theorem Lw.agE {fs:List Fn}{f:Fn}{x:List Int×Int}(h:Hg.kD fs f=some x):aM.isOk f.b=true:=by unfold Hg.kD at h;split at h;{assumption};cases h
def Lw.part (st:List Int)(R:List (Ln×Int))(i:Nat):List Ln:=(R.take i).map (Lw.qi st)++(R.drop i).map (·.1)
theorem Lw.Jo (st:List Int)(R:List (Ln×Int))(i:Nat):(Lw.part st R i).length=R.length:=by unfold Lw.part;simp only[jy,iG,o7,Zv];omega
theorem Lw.Ck{st:List Int}{R:List (Ln×Int)}(hi:i<R.length):Lw.part st R (i+1)=(Lw.part st R i).set i (Lw.qi st (R.getD i (.z,0))):=by unfold Lw.part;rw[PR,ai hi,ah,ai hi,List.drop_eq_getElem_cons hi];simp only[Option.toList_some,Option.getD_some,oZ,List.map_cons,List.map_nil];rw[List.set_append_right _ _ (by simp only[iG,o7];omega)];simp[Nat.min_eq_left (Nat.le_of_lt hi)]
theorem Lw.MZ{st:List Int}{R:List (Ln×Int)}(hi:i<R.length):(Lw.part st R i).getD i .z=(R.getD i (.z,0)).1:=by unfold Lw.part;rw[ah,qM (by simp only[iG,o7];omega)];rw[ah,ai hi];simp[Nat.min_eq_left (Nat.le_of_lt hi),ai hi]
theorem Lw.Lf{f:Fn}(hi:i<f.l.toNat):(Lw.first f).take (i+1)=(Lw.first f).take i++[(⟨1,f.a+(i:Int),0,0,0,[]⟩,-1)]:=by rw[PR];congr 1;unfold Lw.first;simp[hi]
theorem Lw.OA (f:Fn):(Lw.first f).length=f.l.toNat:=by unfold Lw.first;simp
theorem abI {p:Prop}(h:Hid p):p:=h
theorem tX{xs:List Value}(h:W.ownsRow n₁ e k v n xs)(hn:n₀<=n₁):W.ownsRow n₀ e k v n xs:=by refine⟨h.1,?_⟩;rcases h.2 with h'|⟨g',cap',cur,h',hb,r⟩;{exact .inl h'};exact .inr ⟨g',cap',cur,h',fH hn hb,r⟩
theorem MK.other{c:LX}{out:List (Ln×Int)}(h:MK c W0 W v vg out P)(hW:W0.heap.size<=c.B)(hg:W.grownBy W' row)(hr:∀g,row=some g->c.B+1<=g/\v.ownBlock≠some g/\vg.ownBlock≠some g/\¬P g):MK c W0 W' v vg out P:=by obtain⟨vs,h1,h2,h3,h4⟩:=h.row;refine⟨fD h.fU hg (fun g e=>by have:=(hr g e).1;omega),h.box.dZ hg (fun e=>by have:=(hr _ e).1;omega),fH h.sz hg.size,⟨vs,eQ h1 hg (fun g e e2=>(hr g e2).2.1 e),h2,h3.dZ hg (fun j hj g e e2=>(hr g e2).2.2.2 (h4 j hj g e).2),h4⟩,eQ h.Kj hg (fun g e e2=>(hr g e2).2.2.1 e)⟩
theorem MK.tight{c:LX}{out:List (Ln×Int)}(h:MK c W0 W v vg out P):MK c W0 W v vg out (fun g=>P g/\g<W.heap.size):=by obtain⟨vs,h1,h2,h3,h4⟩:=h.row;exact⟨h.fU,h.box,h.sz,⟨vs,h1,h2,h3,fun j hj g e=>⟨(h4 j hj g e).1,(h4 j hj g e).2,(dO (h3 j hj).2.2.2.2.2 e).2⟩⟩,h.Kj⟩
structure PK (c:LX)(W0 W:World)(v vg sv:Value)(R:List (Ln×Int))(st:List Int)(i:Nat):Prop where
 fU:Below W0.heap.size W0 W
 box:aX W c.B (c.dY v vg)
 sz:c.B+1<=W.heap.size
 row:∃vs:List Lv,W.ownsRow (c.B+1) 109 6 v R.length (fJ vs)/\vs.length=R.length/\kU W (c.B+1) R.length vs (Lw.part st R i)
 Kj:OI W (c.B+1) vg (R.map (·.2))
 sts:OI W (c.B+1) sv st
theorem PK.of{c:LX}{sv:Value}{R:List (Ln×Int)}{st:List Int}(h:MK c W0 W v vg R P)(hs:OI W (c.B+1) sv st):PK c W0 W v vg sv R st 0:=by obtain⟨vs,h1,h2,h3,-⟩:=h.row;exact⟨h.fU,h.box,h.sz,⟨vs,h1,h2,h3⟩,h.Kj,hs⟩
theorem PK.kept {c:LX}{W0 W W':World}{v vg sv:Value}{R:List (Ln×Int)}{st:List Int}{i:Nat}(h:PK c W0 W v vg sv R st i)(hB:Below W.heap.size W W'):PK c W0 W' v vg sv R st i:=by obtain⟨vs,h1,h2,h3⟩:=h.row;exact⟨h.fU.trans (hB.mono h.fU.size),h.box.kept hB,fH h.sz hB.size,⟨vs,aN h1 hB,h2,h3.kept hB⟩,h.Kj.kept hB,h.sts.kept hB⟩
theorem PK.skip{c:LX}{sv:Value}{R:List (Ln×Int)}{st:List Int}(h:PK c W0 W v vg sv R st i)(hi:i<R.length)(hn:(R.getD i (.z,0)).2<0):PK c W0 W v vg sv R st (i+1):=by have e:Lw.part st R (i+1)=Lw.part st R i:=by{rw[Lw.Ck hi,Lw.qi,ax (by omega),←Lw.MZ (st:=st) hi];apply List.ext_getElem?;intro j;rw[List.getElem?_set];split;{rename_i e;subst e;have hl:i<(Lw.part st R i).length:=by{rw[Lw.Jo];exact hi};rw[az hl,ah,ai hl];rfl};rfl};obtain⟨vs,h1,h2,h3⟩:=h.row;exact⟨h.fU,h.box,h.sz,⟨vs,h1,h2,by rw[e];exact h3⟩,h.Kj,h.sts⟩
theorem PK.fill{c:LX}{sv:Value}{R:List (Ln×Int)}{st:List Int}(h:PK c W0 W (.slice (some ⟨g,0,none⟩) R.length cv) vg sv R st i)(hW:W0.heap.size<=c.B)(hi:i<R.length)(hn:0<=(R.getD i (.z,0)).2):PK c W0 (W.setCell ⟨g,i*6+4,none⟩ (.int .i64 (st.getD (R.getD i (.z,0)).2.toNat 0))) (.slice (some ⟨g,0,none⟩) R.length cv) vg sv R st (i+1):=by obtain⟨vs,h1,h2,h3⟩:=h.row;have hg:c.B+1<=g/\g<W.heap.size:=dO h1 rfl;have hst:=h1.stored (i*6+4) (.int .i64 (st.getD (R.getD i (.z,0)).2.toNat 0));have gs:=hst.2;have hint:2≠109:=by{decide};have hgs:∀{u:Value}{xs:List Int},OI W (c.B+1) u xs->OI (W.setCell ⟨g,i*6+4,none⟩ (.int .i64 (st.getD (R.getD i (.z,0)).2.toNat 0))) (c.B+1) u xs:=fun{u xs} hu=>eQ hu gs (fun g' e e2=>gP hu h1 hint e e2);refine⟨fD h.fU gs (fun g' e=>by cases e;omega),h.box.dZ gs (fun e=>by cases e;omega),fH h.sz gs.size,⟨vs.set i ((vs.getD i jr).1,(vs.getD i jr).2.1,(vs.getD i jr).2.2.1,(vs.getD i jr).2.2.2.1,st.getD (R.getD i (.z,0)).2.toNat 0,(vs.getD i jr).2.2.2.2.2),?_,by simp[h2],fun j hj=>?_⟩,hgs h.Kj,hgs h.sts⟩;{rw[wJ vs i _ (by omega)];exact hst.1};obtain⟨t0,t1,t2,t3,t4,t5⟩:=h3 j hj;rw[Lw.Ck hi];by_cases e:j=i;{subst e;have e1:(vs.set j ((vs.getD j jr).1,(vs.getD j jr).2.1,(vs.getD j jr).2.2.1,(vs.getD j jr).2.2.2.1,st.getD (R.getD j (.z,0)).2.toNat 0,(vs.getD j jr).2.2.2.2.2)).getD j jr=((vs.getD j jr).1,(vs.getD j jr).2.1,(vs.getD j jr).2.2.1,(vs.getD j jr).2.2.2.1,st.getD (R.getD j (.z,0)).2.toNat 0,(vs.getD j jr).2.2.2.2.2):=by{rw[ah,Ww (by omega)];rfl};have e2:((Lw.part st R j).set j (Lw.qi st (R.getD j (.z,0)))).getD j .z=Lw.qi st (R.getD j (.z,0)):=by{rw[ah,Ww (by rw[Lw.Jo];exact hi)];rfl};rw[e1,e2,Lw.qi,az hn];rw[Lw.MZ hi]at t0 t1 t2 t3 t5;exact⟨t0,t1,t2,t3,rfl,hgs t5⟩};have e1:(vs.set i ((vs.getD i jr).1,(vs.getD i jr).2.1,(vs.getD i jr).2.2.1,(vs.getD i jr).2.2.2.1,st.getD (R.getD i (.z,0)).2.toNat 0,(vs.getD i jr).2.2.2.2.2)).getD j jr=vs.getD j jr:=by{rw[ah,R9 (by omega),←ah]};have e2:((Lw.part st R i).set i (Lw.qi st (R.getD i (.z,0)))).getD j .z=(Lw.part st R i).getD j .z:=by{rw[ah,R9 (by omega),←ah]};rw[e1,e2];exact⟨t0,t1,t2,t3,t4,hgs t5⟩
theorem vk (a:Option Addr) (len cap:Nat) (fs:List Fn) (d:ByteArray) (hv:Hg.valid fs d=true) (k:Nat) (hk:k<len) (w:World) (hs:FL w a len fs):Calls Tryz.prog 36 #[.agg #[.slice a len cap, .string d], .int .i64 k] w fun e w'=>∃v,e= .returned v/\tF w' w.heap.size v (Lw.func fs (Mn.fn fs k) (aM.ends (Mn.fn fs k).b) (aM.bC (Mn.fn fs k).b) (Mn.jU fs k))/\Below w.heap.size w w':=by
 have hl:=hs.1
 have V:=Mn.mF hv
 obtain⟨ah1,mo,hres⟩:=Lw.CR hv (k:=k) (by omega)
 have hA:=V.acc k (by omega)
 have mH:=Lw.agE hres
 have Pp:=Mn.iY V (k:=k) (by omega)
 have hall:St.dh (Mn.fn fs k).b=true:=by have:=Md.bg V.all (j:=k) (by omega);simp only[Md.rF,au]at this;exact this.2.2.2.2
 have hl4:len<=4:=by have:=V.len.2;omega
 obtain⟨F,hF⟩:=aF (Mn.fn fs k)
 obtain⟨H,hH⟩:=aF (Mn.jU fs k)
 obtain⟨E,hE⟩:=aF (aM.ends F.b)
 obtain⟨O,hO⟩:=aF (aM.bC F.b)
 rw[hF,hH]at hres
 rw[hF]at mH Pp hall
 rw[hF,hH]at hA
 rw[hE,hO]at hA
 rw[hF,hH,hE,hO]
 have Sw:(k:Int)<(len:Int):=by omega
 have hB1:=aB w (.cells #[.slice a len cap, .string d] 26)
 have hM1:dG (w.alloc (.cells #[.slice a len cap, .string d] 26)) w.heap.size 26 [.slice a len cap, .string d]:=qo w _
 obtain⟨W1,hW1⟩:∃X,w.alloc (.cells #[.slice a len cap, .string d] 26)=X:=⟨_,rfl⟩
 rw[hW1]at hB1 hM1
 have hs1:=hs.kept hB1
 have hcell:∃b off,a=some ⟨b,off,none⟩/\∃ba bl bc,W1.cell? ⟨b,off+k*4,none⟩=some (.int .i64 F.a)/\W1.cell? ⟨b,off+k*4+1,none⟩=some (.int .i64 F.l)/\W1.cell? ⟨b,off+k*4+2,none⟩=some (.int .i64 F.g)/\W1.cell? ⟨b,off+k*4+3,none⟩=some (.slice ba bl bc)/\SL W1 ba bl F.b:=by obtain⟨-,-,h0|⟨b,off,e,hb,hx⟩⟩:=hs1;{omega};obtain⟨x0,x1,x2,ba,bl,bc,x3,hsl⟩:=hx k hk;have e2:fs.getD k .z=F:=hF;rw[e2]at x0 x1 x2 hsl;exact⟨b,off,e,ba,bl,bc,x0,x1,x2,x3,hsl⟩
 obtain⟨fb,fo,rfl,ba,bl,bc,x0,x1,x2,x3,hsl⟩:=hcell
 have hbl:F.b.length=bl:=hsl.1
 subst hbl
 have m0:=hM1.cell (j:=0) rfl
 have hB2:=aB W1 (.cells #[.int .i64 F.a, .int .i64 F.l, .int .i64 F.g, .slice ba F.b.length bc] 93)
 have hF2:dG (W1.alloc (.cells #[.int .i64 F.a, .int .i64 F.l, .int .i64 F.g, .slice ba F.b.length bc] 93)) W1.heap.size 93 [.int .i64 F.a, .int .i64 F.l, .int .i64 F.g, .slice ba F.b.length bc]:=qo W1 _
 obtain⟨W2,hW2⟩:∃X,W1.alloc (.cells #[.int .i64 F.a, .int .i64 F.l, .int .i64 F.g, .slice ba F.b.length bc] 93)=X:=⟨_,rfl⟩
 rw[hW2]at hB2 hF2
 have hM2:=hM1.kept hB2
 have n0:=hM2.cell (j:=0) rfl
 have n1:=hM2.cell (j:=1) rfl
 have nG:=hB1.trans (hB2.mono hB1.size)
 have Cy:=lZ (some ⟨fb,fo,none⟩) len cap fs d k hk ah1 W2 (hs1.kept hB2)
 have e2:fs.getD k .z=F:=hF
 rw[e2,hres]at Cy
 go_enter Tryz.func36,Tryz.ntmps36
 go_wp2_with fail
 refine Cy.mono ?_
 rintro e w3⟨v3,mo3,rfl,ho3,hB3⟩
 dsimp only
 obtain⟨ho3,-⟩:=ho3 H mo rfl
 obtain⟨ha,hc,rfl,-⟩:=ho3.slice
 have hHl:H.length=F.b.length:=hA.lH
 have hF3:=hF2.kept hB3
 have f3:=hF3.cell (j:=3) rfl
 have jZ:=(hsl.kept hB2).kept hB3
 have gY:=pK ba F.b.length bc F.b (by omega) w3 jZ
 rw[mH,hE,hO]at gY
 clear Cy x0 x1 x2 x3 m0 n0 n1
 go_wp2_with fail
 refine gY.mono ?_
 rintro e w4⟨gE,cE,gO,cO,rfl,hEO,hB4⟩
 dsimp only
 obtain⟨hoE,Z9⟩:=hEO trivial
 have Kb:=hF3.kept hB4
 have f0:=Kb.cell (j:=0) rfl
 have f1:=Kb.cell (j:=1) rfl
 have f2:=Kb.cell (j:=2) rfl
 have f3':=Kb.cell (j:=3) rfl
 have eD:=aB w4 (.cells #[.slice none 0 0, .slice none 0 0, .int .i64 (F.a+F.l), .slice ha F.b.length hc, .slice (some ⟨gE,0,none⟩) F.b.length cE, .slice ba F.b.length bc, .int .i64 F.g] 106)
 have hbx:aX (w4.alloc (.cells #[.slice none 0 0, .slice none 0 0, .int .i64 (F.a+F.l), .slice ha F.b.length hc, .slice (some ⟨gE,0,none⟩) F.b.length cE, .slice ba F.b.length bc, .int .i64 F.g] 106)) w4.heap.size [.slice none 0 0, .slice none 0 0, .int .i64 (F.a+F.l), .slice ha F.b.length hc, .slice (some ⟨gE,0,none⟩) F.b.length cE, .slice ba F.b.length bc, .int .i64 F.g]:=aX.new w4 _ _
 have hz5:w4.heap.size+1<=(w4.alloc (.cells #[.slice none 0 0, .slice none 0 0, .int .i64 (F.a+F.l), .slice ha F.b.length hc, .slice (some ⟨gE,0,none⟩) F.b.length cE, .slice ba F.b.length bc, .int .i64 F.g] 106)).heap.size:=by simp
 obtain⟨W5,hW5⟩:∃X,w4.alloc (.cells #[.slice none 0 0, .slice none 0 0, .int .i64 (F.a+F.l), .slice ha F.b.length hc, .slice (some ⟨gE,0,none⟩) F.b.length cE, .slice ba F.b.length bc, .int .i64 F.g] 106)=X:=⟨_,rfl⟩
 rw[hW5]at eD hbx hz5
 rw[hHl]at ho3
 have Mw:=hB3.trans (hB4.mono hB3.size)
 have ah2:IL w4 ha F.b.length H:=((OI.il ho3).2).kept hB4
 have ah3:IL w4 (some ⟨gE,0,none⟩) F.b.length E:=(OI.il hoE).2
 have ah4:IL w4 (some ⟨gO,0,none⟩) F.b.length O:=(OI.il Z9).2
 have ah5:=jZ.kept hB4
 have hs4:=((hs1.kept hB2).kept hB3).kept hB4
 have T:TX (⟨w4.heap.size,ha,hc,some ⟨gE,0,none⟩,cE,ba,bc,fs,F,E,O,H⟩:LX) w4:=⟨bI _,ah2,ah3,ah5,hA,Pp,hall,V⟩
 have K5:MK (⟨w4.heap.size,ha,hc,some ⟨gE,0,none⟩,cE,ba,bc,fs,F,E,O,H⟩:LX) w4 W5 (.slice none 0 0) (.slice none 0 0) [] (fun _=>False):=⟨eD,hbx,hz5,⟨[],World.ownsRow_nil _ _ _ _,rfl,fun j hj=>by simp at hj,fun j hj=>by simp at hj⟩,OI.nil _ _⟩
 have mK:=hM2.kept Mw
 have hBw:=nG.trans (Mw.mono nG.size)
 have g0:=(Kb.kept eD).cell (j:=0) rfl
 obtain⟨ln,hln⟩:=Cj Pp.2.2.1
 have ah6:F.l.toNat=ln:=by omega
 have HC:=ae (ak T (ak K5 (ak Kb (ak mK (ak hBw (ak hs4 (ak ah4 (ak ah6 hln))))))))
 have hF5:-1<=F.a/\F.a<=3:=by omega
 have hl5:-1<=F.l/\F.l<=3:=by omega
 have arn:=Pp.2.2.2.2.2
 have Mt:=Pp.2.2.2.2.1
 clear gY f3 hbx hz5 eD ah2 ah3 ah4 ah5 hs4 T K5 mK hBw Mw Kb hF3 jZ hF2 hM2 hM1 ho3 hoE Z9 hB3 hB4 hB2 nG hB1 hs1 hs hsl hall mH hres ah1 hv V hA Pp e2 hF hH hE hO hln ah6 hEO
 go_wp2
 go_loopw [13] (fun vi wr=>∃(i:Nat)(v vg:Value),vi= .int .i64 (F.a+(i:Int))/\i<=ln/\MK (⟨w4.heap.size,ha,hc,some ⟨gE,0,none⟩,cE,ba,bc,fs,F,E,O,H⟩:LX) w4 wr v vg ((Lw.first F).take i) (fun _=>False)) (fun vi _=>(F.a+F.l-intOf vi).toNat)
 case atStart=>exact⟨0,_,_,by simp,jT _,HC.out.2.1⟩
 case round=>
  obtain⟨i,v,vg,rfl,hi,K⟩:=hrel
  have hll:=HC.out.2.2.2.2.2.2.2.2
  have q2:wr.cell? ⟨w4.heap.size,2,none⟩=some (.int .i64 (F.a+F.l)):=(K.box.2 2 _ rfl).1
  have hlB:w4.heap.size<wr.heap.size:=K.sz
  by_cases hlt:i<ln
  · have gI:F.a+(i:Int)<F.a+F.l:=by{omega};have hfl:((Lw.first F).take i).length<=1000:=by{rw[o7];omega};have hadd:=aW (⟨w4.heap.size,ha,hc,some ⟨gE,0,none⟩,cE,ba,bc,fs,F,E,O,H⟩:LX) w4 wr v vg ((Lw.first F).take i) (fun _=>False) (bI _) K ⟨1,F.a+(i:Int),0,0,0,[]⟩ none 0 0 (OI.nil _ _) (fun g e=>by cases e) (-1) hfl;have HFM:=ae (Lw.Lf (f:=F) (i:=i) (by rw[HC.out.2.2.2.2.2.2.2.1];exact hlt));clear K hfl hll;go_wp2_with fail;refine hadd.mono ?_;rintro e X1⟨v1,mJ,rfl,K1,-⟩;dsimp only;rw[←HFM.out]at K1;clear hadd q2;go_wp2;go_roundw;(case rel=>exact⟨i+1,v1,mJ,by simp;omega,hlt,K1⟩);case measure=>simp[intOf];omega
  · have hie:i=ln:=by omega
    have gI:¬F.a+(i:Int)<F.a+F.l:=by omega
    have K2:MK (⟨w4.heap.size,ha,hc,some ⟨gE,0,none⟩,cE,ba,bc,fs,F,E,O,H⟩:LX) w4 wr v vg (Lw.dS fs F E O H 0).1 (fun _=>False):=by have e:(Lw.first F).take i=Lw.first F:=List.take_of_length_le (by rw[Lw.OA,HC.out.2.2.2.2.2.2.2.1];omega);rw[e]at K;exact K
    have hFr:=HC.out.2.2.1.kept K2.fU
    have r3:=hFr.cell (j:=3) rfl
    have vz:=aB wr (.cells #[] 2)
    have HK:=ae (K2.kept vz)
    have HO:Hid (OI (wr.alloc (.cells #[] 2)) (w4.heap.size+1) (.slice (some ⟨wr.heap.size,0,none⟩) 0 0) []):=OI.mono (OI.empty wr) hlB
    have jJ:Hid (∀g,(Value.slice (some ⟨wr.heap.size,0,none⟩) 0 0).ownBlock=some g->v.ownBlock≠some g/\vg.ownBlock≠some g/\¬False):=fun g e=>by simp only[Value.ownBlock,af]at e;subst e;obtain⟨vs,h1,-⟩:=K2.row;exact⟨fun e=>by have:=(dO h1 e).2;omega,fun e=>by have:=(dO K2.Kj e).2;omega,fun h=>h⟩
    have r3':=(hFr.kept vz).cell (j:=3) rfl
    clear K K2 vz hFr hie hll
    go_wp2
    clear q2 r3 r3'
    go_loopw [14,15] (fun vs vi wx=>∃(i:Nat)(v vg sv:Value)(P:Nat->Prop),vs=sv/\vi= .int .i64 (i:Int)/\i<=F.b.length/\MK (⟨w4.heap.size,ha,hc,some ⟨gE,0,none⟩,cE,ba,bc,fs,F,E,O,H⟩:LX) w4 wx v vg (Lw.dS fs F E O H i).1 P/\OI wx (w4.heap.size+1) sv (Lw.dS fs F E O H i).2/\(∀g,sv.ownBlock=some g->v.ownBlock≠some g/\vg.ownBlock≠some g/\¬P g)/\(∀g,P g->g<wx.heap.size)) (fun _ vi _=>F.b.length-(intOf vi).toNat)
    case atStart=>exact⟨0,v,vg,_,_,rfl,rfl,jT _,HK.out,HO.out,jJ.out,fun g h=>h.elim⟩
    case round=>
     obtain⟨i2,v2,Cw,sv,P,hse,rfl,hi2,K,hsv,hap,hPb⟩:=hrel
     have amc:=hse.symm
     clear hse
     subst amc
     clear HK HO jJ
     obtain⟨j0,hj,hy0,hy1,hy2⟩:=lT bT
     have hFr:=HC.out.2.2.1.kept K.fU
     have r3:=hFr.cell (j:=3) rfl
     have aro:w4.heap.size<wr.heap.size:=K.sz
     have hul:=Lw.nL fs F E O H i2
     have amd:=HC.out.2.2.2.2.2.2.2.1
     by_cases hlt:i2<F.b.length
     · have gI:(i2:Int)<(F.b.length:Int):=by{omega};obtain⟨vs,hrow,-⟩:=K.row;obtain⟨va,vc,rfl⟩:=bP hrow;have q0:wr.cell? ⟨w4.heap.size,0,none⟩=some (.slice va (Lw.dS fs F E O H i2).1.length vc):=(K.box.2 0 _ rfl).1;have acG:wr.ownsRow (w4.heap.size+1) 2 1 sv i2 ((Lw.dS fs F E O H i2).2.map iv):=by{unfold OI at hsv;rwa [hul.2]at hsv};obtain⟨sa,sc,rfl⟩:=bP acG;obtain⟨un,hun⟩:=aF ((Lw.dS fs F E O H i2).1.length);have vz:=aB wr (.cells #[.int .i64 (un:Int)] 2);have HSV:=ae (aN acG vz);have HKA:=ae (K.kept vz);have ame:un<=900:=by{omega};have TV:=ae (ak hun hul.2);have jJ:=ae hap;have HPB:=ae hPb;rw[hun]at q0;have cHH:∃b o,ha=some ⟨b,o,none⟩/\b<w4.heap.size/\w4.cell? ⟨b,o+i2,none⟩=some (.int .i64 (H.getD i2 0)):=by{obtain⟨hl,-,h3|⟨b,o,e,hb,hh⟩⟩:=HC.out.1.hH;{have:F.b.length=0:=h3;omega};exact⟨b,o,e,hb,hh i2 hlt⟩};obtain⟨hb',ho',rfl,lH,cHH⟩:=cHH;have HHC:Hid (∀X:World,Below w4.heap.size w4 X->X.cell? ⟨hb',ho'+i2,none⟩=some (.int .i64 (H.getD i2 0))):=fun X hX=>(hX.cell (p:=⟨hb',ho'+i2,none⟩) lH).trans cHH;obtain⟨u,hu⟩:=aF (H.getD i2 0);have HU:=ae hu;rw[hu]at HHC;have YU:=K.sz;have amf:=vz.size;clear K hsv acG hap hPb hrow hFr hun hul cHH hu vz amd;go_wp2_with(at_builtin;refine wpList_append_own_at _ rfl _ _ 27 rfl (w4.heap.size+1) 2 j0 (.int .i64 0) 1 8 Tryz.underlying27 hj hy0 hy1 hy2 rfl (by decide) (.slice sa i2 sc) i2 _ rfl HSV.out ⟨wr.heap.size,0,none⟩ 1 1 [.int .i64 (un:Int)] rfl rfl (cell_one_new _ _ _) (by simp[Value.oneCell']) (by simp only[maxLen];omega) (by omega) (by simp;omega) ?_;intro sv' wB hown2 hgrow2 _ G8;obtain⟨g2,cap2,rfl⟩:=qF hown2;have KB:=HKA.out.other (bI _) hgrow2 (fun g e=>⟨(dO HSV.out e).1,(jJ.out g e).1,(jJ.out g e).2.1,(jJ.out g e).2.2⟩);have cB:=HHC.out wB KB.fU;have pO:=ae (ak hown2 (ak hgrow2 (ak G8 KB)));have m0:=(HC.out.2.2.2.1.kept KB.fU).cell (j:=0) rfl;have m1:=(HC.out.2.2.2.1.kept KB.fU).cell (j:=1) rfl;clear hown2 hgrow2 G8 KB;refine abI ?_);unfold Hid;obtain⟨o1,o2,o3,KB⟩:=pO.out;have Y0:Hid (∀g,(Value.slice (some ⟨g2,0,none⟩) (i2+1) cap2).ownBlock=some g->Value.ownBlock (.slice va un vc)≠some g/\Cw.ownBlock≠some g/\¬P g/\g<wB.heap.size):=fun g e=>by{have hlt2:=(dO o1 e).2;rcases o3 with e'|e';{rw[e']at e;have:=jJ.out g e;rw[TV.out.1]at this;exact⟨this.1,this.2.1,this.2.2,hlt2⟩};rw[e']at e;simp only[af]at e;obtain⟨vs',hr',-⟩:=HKA.out.row;rw[TV.out.1]at hr';have hgg:=(dO hr' (g:=g));have hgo:=fun e2=>(dO HKA.out.Kj (g:=g) e2).2;refine⟨fun e2=>by have:=(hgg e2).2;omega,fun e2=>by have:=hgo e2;omega,fun h=>by have:=HPB.out g h;simp only[KJ]at e;omega,hlt2⟩};rw[TV.out.1]at KB;have YQ:Hid (OI wB (w4.heap.size+1) (.slice (some ⟨g2,0,none⟩) (i2+1) cap2) ((Lw.dS fs F E O H i2).2++[(un:Int)])):=by{show World.ownsRow _ _ _ _ _ _ _;rw[jy,TV.out.2,AQ,oZ];exact o1};have HKB:=ae KB;have HSZ:Hid (wr.heap.size<=wB.heap.size):=fH amf o2.size;clear o1 o2 o3 KB pO HSV HKA jJ;by_cases hu0:0<=u;{have hcon:=DU HC.out.1 HKB.out (some ⟨fb,fo,none⟩) len cap d (some ⟨gO,0,none⟩) cO HC.out.2.2.2.2.2.1 HC.out.2.2.2.2.2.2.1 i2 hlt (by show 0<=H.getD i2 0;rw[HU.out];exact hu0) (by rw[TV.out.1];exact ame);go_wp2_with fail;refine hcon.mono ?_;rintro e X1⟨v3,vg3,rfl,K3,F3⟩;dsimp only;have HK3:=ae (ak K3.tight F3);clear hcon K3 F3 m0 m1 cB;go_wp2;go_roundw;(case rel=>obtain⟨K3,F3⟩:=HK3.out;refine⟨i2+1,v3,vg3,_,(fun g=>(P g\/wB.heap.size<=g)/\g<X1.heap.size),rfl,by simp,hlt,?_,?_,fun g e=>?_,fun g h=>h.2⟩;{show MK _ _ _ _ _ ((Lw.dS fs F E O H i2).1++(if 0<=H.getD i2 0 then Lw.step fs F E O H i2 else[])) _;rw[az (by rw[HU.out];exact hu0)];exact K3};{show OI _ _ _ ((Lw.dS fs F E O H i2).2++[((Lw.dS fs F E O H i2).1.length:Int)]);rw[TV.out.1];exact F3.rows YQ.out (fun g e=>⟨by have:=(dO YQ.out e).1;show g≠w4.heap.size;omega,(Y0.out g e).1,(Y0.out g e).2.1⟩)};have h2:=Y0.out g e;refine⟨?_,?_,fun h=>?_⟩;{rcases F3.v1 with e'|⟨g',e',hg'⟩;{rw[e'];exact h2.1};rw[e'];simp only[ne_eq,af];omega};{rcases F3.g1 with e'|⟨g',e',hg'⟩;{rw[e'];exact h2.2.1};rw[e'];simp only[ne_eq,af];omega};rcases h.1 with h'|h';{exact h2.2.2.1 h'};omega);case measure=>simp[intOf];omega};clear m0 m1;go_wp2;go_roundw;(case rel=>refine⟨i2+1, .slice va un vc,Cw,_,P,rfl,by simp,hlt,?_,?_,fun g e=>?_,fun g h=>?_⟩;{show MK _ _ _ _ _ ((Lw.dS fs F E O H i2).1++(if 0<=H.getD i2 0 then Lw.step fs F E O H i2 else[])) _;rw[ax (by rw[HU.out];exact hu0),List.append_nil];exact HKB.out};{show OI _ _ _ ((Lw.dS fs F E O H i2).2++[((Lw.dS fs F E O H i2).1.length:Int)]);rw[TV.out.1];exact YQ.out};{have h2:=Y0.out g e;exact⟨h2.1,h2.2.1,h2.2.2.1⟩};have:=HPB.out g h;have:=HSZ.out;omega);case measure=>simp[intOf];omega
     · have acH:i2=F.b.length:=by omega
       have gI:¬(i2:Int)<(F.b.length:Int):=by omega
       have r2:=hFr.cell (j:=2) rfl
       have q2:wr.cell? ⟨w4.heap.size,2,none⟩=some (.int .i64 (F.a+F.l)):=(K.box.2 2 _ rfl).1
       have hKE:MK (⟨w4.heap.size,ha,hc,some ⟨gE,0,none⟩,cE,ba,bc,fs,F,E,O,H⟩:LX) w4 wr v2 Cw (Lw.dS fs F E O H F.b.length).1 P:=by rw[←acH];exact K
       have acI:OI wr (w4.heap.size+1) sv (Lw.dL fs F E O H):=by unfold Lw.dL;rw[←acH];exact hsv
       have amh:=Lw.nL fs F E O H F.b.length
       have hRG:=ae (Lw.H6 HC.out.1.acc)
       have HRW:Hid (Lw.raw fs F E O H=(Lw.dS fs F E O H F.b.length).1++Lw.last F):=rfl
       have ah7:Hid ((Lw.dL fs F E O H).length=F.b.length):=amh.2
       have Y1:Hid (∀(XX:World)(vx Y2:Value),MK (⟨w4.heap.size,ha,hc,some ⟨gE,0,none⟩,cE,ba,bc,fs,F,E,O,H⟩:LX) w4 XX vx Y2 (Lw.raw fs F E O H) P->FX (⟨w4.heap.size,ha,hc,some ⟨gE,0,none⟩,cE,ba,bc,fs,F,E,O,H⟩:LX) v2 Cw vx Y2 wr XX->OI XX (w4.heap.size+1) sv (Lw.dL fs F E O H)):=fun XX vx Y2 hK hX=>hX.rows acI (fun g e=>⟨by have:=(dO acI e).1;show g≠w4.heap.size;omega,(hap g e).1,(hap g e).2.1⟩)
       obtain⟨R,hR⟩:=aF (Lw.raw fs F E O H)
       obtain⟨st,hst⟩:=aF (Lw.dL fs F E O H)
       have HFN:Hid (Lw.func fs F E O H=if R.length<=300 then R.map (Lw.qi st)else[]):=by show _=_;unfold Lw.func;rw[hR,hst]
       have hRl:R.length<=1000:=by rw[←hR,HRW.out,jy];(have:(Lw.last F).length<=2:=by unfold Lw.last;split<;>simp);omega
       rw[hR]at hRG HRW Y1
       rw[hst]at ah7 Y1
       clear K hsv hFr acI hul acH hR hst hap
       have HPK:Hid (∀(XX:World)(vx Y2:Value),MK (⟨w4.heap.size,ha,hc,some ⟨gE,0,none⟩,cE,ba,bc,fs,F,E,O,H⟩:LX) w4 XX vx Y2 R P->FX (⟨w4.heap.size,ha,hc,some ⟨gE,0,none⟩,cE,ba,bc,fs,F,E,O,H⟩:LX) v2 Cw vx Y2 wr XX->PK (⟨w4.heap.size,ha,hc,some ⟨gE,0,none⟩,cE,ba,bc,fs,F,E,O,H⟩:LX) w4 XX vx Y2 sv R st 0):=fun XX vx Y2 hK hX=>PK.of hK (Y1.out XX vx Y2 hK hX)
       clear Y1
       rcases Mt with hg|hg
       case' inl=>
        rw[hg]at r2
        replace HRW:Hid (R=(Lw.dS fs F E O H F.b.length).1++[(⟨1,F.a+F.l+20,0,0,0,[]⟩,-1)]++[(⟨10,0,F.a+F.l+20,0,0,[]⟩,-1)]):=by show _=_;rw[HRW.out];unfold Lw.last;rw[az hg,oJ];rfl
        have Kl:=aW (⟨w4.heap.size,ha,hc,some ⟨gE,0,none⟩,cE,ba,bc,fs,F,E,O,H⟩:LX) w4 wr v2 Cw (Lw.dS fs F E O H F.b.length).1 P (bI _) hKE ⟨1,F.a+F.l+20,0,0,0,[]⟩ none 0 0 (OI.nil _ _) (fun g e=>by cases e) (-1) (by omega)
        clear hKE
        go_wp2_with fail
        refine Kl.mono ?_
        rintro e X1⟨v3,vg3,rfl,K3,F3⟩
        dsimp only
        have aa3:=aW (⟨w4.heap.size,ha,hc,some ⟨gE,0,none⟩,cE,ba,bc,fs,F,E,O,H⟩:LX) w4 X1 v3 vg3 _ P (bI _) K3 ⟨10,0,F.a+F.l+20,0,0,[]⟩ none 0 0 (OI.nil _ _) (fun g e=>by cases e) (-1) (by rw[jy,AQ];omega)
        clear Kl r2 q2 r3
        go_wp2_with fail
        refine aa3.mono ?_
        rintro e XF⟨vF,gF,rfl,K4,F4⟩
        dsimp only
        rw[←HRW.out]at K4
        have HP0:=ae (HPK.out XF vF gF K4 (F3.trans F4))
        clear aa3 K3 F3 K4 F4 HPK
       case' inr=>
        rw[hg]at r2
        replace HRW:Hid (R=(Lw.dS fs F E O H F.b.length).1++[(⟨10,0,F.a+F.l,0,0,[]⟩,-1)]):=by show _=_;rw[HRW.out];unfold Lw.last;rw[ax (by omega)];rfl
        have Kl:=aW (⟨w4.heap.size,ha,hc,some ⟨gE,0,none⟩,cE,ba,bc,fs,F,E,O,H⟩:LX) w4 wr v2 Cw (Lw.dS fs F E O H F.b.length).1 P (bI _) hKE ⟨10,0,F.a+F.l,0,0,[]⟩ none 0 0 (OI.nil _ _) (fun g e=>by cases e) (-1) (by omega)
        clear hKE
        go_wp2_with fail
        refine Kl.mono ?_
        rintro e XF⟨vF,gF,rfl,K4,F4⟩
        dsimp only
        rw[←HRW.out]at K4
        have HP0:=ae (HPK.out XF vF gF K4 F4)
        clear Kl r2 q2 r3 K4 F4 HPK
       all_goals have hR1:1<=R.length:=by{rw[HRW.out];simp};obtain⟨vs0,aa4,-⟩:=HP0.out.row;obtain⟨gv,cv,rfl⟩:∃gv cv,vF= .slice (some ⟨gv,0,none⟩) R.length cv:=by{rcases aa4.2 with⟨-,h0⟩|⟨g',cap',cur,h',-⟩;{omega};exact⟨g',cap',h'⟩};have Y3:=HP0.out.Kj;have Pj:=HP0.out.sts;unfold OI at Y3 Pj;rw[iG]at Y3;rw[ah7.out]at Pj;obtain⟨ga,gc,rfl⟩:=bP Y3;obtain⟨sa,sc,rfl⟩:=bP Pj;clear aa4 Y3 Pj;have hRZ:(R.length:Int)<=1000:=by{omega};go_wp2;go_loopw [17] (fun vi wx=>∃i:Nat,vi= .int .i64 (i:Int)/\i<=R.length/\PK (⟨w4.heap.size,ha,hc,some ⟨gE,0,none⟩,cE,ba,bc,fs,F,E,O,H⟩:LX) w4 wx (.slice (some ⟨gv,0,none⟩) R.length cv) (.slice ga R.length gc) (.slice sa F.b.length sc) R st i) (fun vi _=>R.length-(intOf vi).toNat);(case atStart=>exact⟨0,rfl,jT _,HP0.out⟩);case round=>obtain⟨i3,rfl,hi3,hP⟩:=hrel;have q0:wr.cell? ⟨w4.heap.size,0,none⟩=some (.slice (some ⟨gv,0,none⟩) R.length cv):=(hP.box.2 0 _ rfl).1;have q1:wr.cell? ⟨w4.heap.size,1,none⟩=some (.slice ga R.length gc):=(hP.box.2 1 _ rfl).1;have ah9:w4.heap.size<wr.heap.size:=hP.sz;by_cases hlt3:i3<R.length;{have aia:(i3:Int)<(R.length:Int):=by{omega};have hmem:R.getD i3 (.z,0)∈R:=by{rw[ah,ai hlt3];exact u7 hlt3};have Nu:=hRG.out _ hmem;have cG:∃b o,ga=some ⟨b,o,none⟩/\b<wr.heap.size/\wr.cell? ⟨b,o+i3,none⟩=some (.int .i64 (R.getD i3 (.z,0)).2):=by{have hil:=(OI.il hP.Kj).2;obtain⟨hl,-,h3|⟨b,o,e,hb,hh⟩⟩:=hil;{omega};refine⟨b,o,e,hb,?_⟩;rw[hh i3 hlt3,ah,ah,KH,ai hlt3];rfl};obtain⟨gb,go,rfl,lG,cG⟩:=cG;obtain⟨tg,htg⟩:=aF ((R.getD i3 (.z,0)).2);by_cases ht0:0<=tg;{have cT:∃b o,sa=some ⟨b,o,none⟩/\b<wr.heap.size/\wr.cell? ⟨b,o+tg.toNat,none⟩=some (.int .i64 (st.getD tg.toNat 0)):=by{have hil:=(OI.il hP.sts).2;obtain⟨hl,-,h3|⟨b,o,e,hb,hh⟩⟩:=hil;{omega};exact⟨b,o,e,hb,hh tg.toNat (by omega)⟩};obtain⟨sb,so,rfl,lS,cT⟩:=cT;have HFL:=ae (fun(X:World) hX=>PK.fill (hP.kept (W':=X) hX) (bI _) hlt3 (by rw[htg];exact ht0));rw[htg]at HFL cG Nu;obtain⟨tn,rfl⟩:=Cj ht0;rw[aA]at cT HFL;obtain⟨y,hy⟩:=aF (st.getD tn 0);rw[hy]at cT HFL;have arq:(tn:Int)<(F.b.length:Int):=by{omega};obtain⟨vs1,uS,amj,-⟩:=hP.row;have hgv:=(dO uS rfl).2;have g4:=(qg vs1 i3 (by omega)).2.2.2.2.1;have c4:=(uS.cellAt (i3*6+4) (by omega)).trans g4;have f4:=uS.frozenAt (i3*6+4);obtain⟨z4,hz4⟩:∃z,(vs1.getD i3 jr).2.2.2.2.1=z:=⟨_,rfl⟩;rw[hz4]at c4;have b0:∀p:bK wr,p.to.cell? ⟨w4.heap.size,0,none⟩=some (.slice (some ⟨gv,0,none⟩) R.length cv):=fun p=>(p.h.cell (p:=⟨w4.heap.size,0,none⟩) ah9).trans q0;have b1:∀p:bK wr,p.to.cell? ⟨w4.heap.size,1,none⟩=some (.slice (some ⟨gb,go,none⟩) R.length gc):=fun p=>(p.h.cell (p:=⟨w4.heap.size,1,none⟩) ah9).trans q1;have b2:∀p:bK wr,p.to.cell? ⟨gb,go+i3,none⟩=some (.int .i64 (tn:Int)):=fun p=>(p.h.cell (p:=⟨gb,go+i3,none⟩) lG).trans cG;have b3:∀p:bK wr,p.to.cell? ⟨sb,so+tn,none⟩=some (.int .i64 y):=fun p=>(p.h.cell (p:=⟨sb,so+tn,none⟩) lS).trans cT;have HC4:Hid (∀p:bK wr,p.to.cell? ⟨gv,i3*6+4,none⟩=some (.int .i64 z4)/\p.to.frozen? ⟨gv,i3*6+4,none⟩=false):=fun p=>⟨(p.h.cell (p:=⟨gv,i3*6+4,none⟩) hgv).trans c4,(p.h.frozen (p:=⟨gv,i3*6+4,none⟩) hgv).trans f4⟩;have hne:=bK.any wr;clear hP uS amj c4 f4 g4 hz4 hy htg hmem cT;go_wp2;refine aT 17 (by kernel_rfl) (by kernel_rfl) ?_;simp only[lV,jV,nJ,nK];(repeat(go_big_quiet_step (fail)));refine nD ?_;rintro _⟨pw,rfl⟩;have hc4:=(HC4.out pw).1;have hf4:=(HC4.out pw).2;have HFin:=ae (HFL.out _ pw.h);clear b0 b1 b2 b3 hne HC4 HFL q0 q1 cG;obtain⟨X3,WI⟩:=aF (pw.to);rw[WI]at hc4 hf4 HFin ⊢;clear WI;go_wp2;go_roundw;(case rel=>exact⟨i3+1,by simp,hlt3,HFin.out⟩);case measure=>simp[intOf];omega};have HFin:=ae (hP.skip hlt3 (by omega));rw[htg]at cG;clear hP htg hmem Nu;go_wp2;go_roundw;(case rel=>exact⟨i3+1,by simp,hlt3,HFin.out⟩);case measure=>simp[intOf];omega};have acK:i3=R.length:=by{omega};have aia:¬(i3:Int)<(R.length:Int):=by{omega};have hBf:=HC.out.2.2.2.2.1.trans (hP.fU.mono HC.out.2.2.2.2.1.size);have hw4:=HC.out.2.2.2.2.1.size;by_cases acL:R.length<=300;{have aid:¬(300:Int)<(R.length:Int):=by{omega};have HF:Hid (tF wr w.heap.size (.slice (some ⟨gv,0,none⟩) R.length cv) (Lw.func fs F E O H)):=by{obtain⟨vs,h1,h2,h3⟩:=hP.row;have e:Lw.part st R i3=R.map (Lw.qi st):=by{unfold Lw.part;rw[acK,List.take_length,List.drop_length];simp};rw[e]at h3;have eL:(Lw.func fs F E O H).length=R.length:=by{rw[HFN.out,az acL,iG]};refine⟨gv,cv,vs,by rw[eL],?_,?_⟩;{rw[eL];exact tX h1 (by show w.heap.size<=w4.heap.size+1;omega)};rw[eL,HFN.out,az acL];exact h3.mono (by show w.heap.size<=w4.heap.size+1;omega)};clear hP acK;go_wp2;go_ret;exact⟨_,rfl,HF.out,hBf⟩};have aid:(300:Int)<(R.length:Int):=by{omega};have vz:=aB wr (.cells #[] 109);have hBg:=hBf.trans (vz.mono hBf.size);have HF:Hid (tF (wr.alloc (.cells #[] 109)) w.heap.size (.slice (some ⟨wr.heap.size,0,none⟩) 0 0) (Lw.func fs F E O H)):=by{show tF _ _ _ _;rw[HFN.out,ax acL];exact⟨wr.heap.size,0,[],rfl,⟨rfl, .inr ⟨wr.heap.size,0,#[],rfl,by omega,QC wr _,bI _,by simp[maxLen],rfl,rfl⟩⟩,fun j hj=>by simp at hj⟩};clear hP acK vz;go_wp2;go_ret;exact⟨_,rfl,HF.out,hBg⟩
theorem tF.mono {W:World}{n₀ n₁:Nat}{v:Value}{fs:List Ln}(h:tF W n₁ v fs)(hn:n₀<=n₁):tF W n₀ v fs:=by obtain⟨g,cap,vs,e,h1,h2⟩:=h;exact⟨g,cap,vs,e,tX h1 hn,h2.mono hn⟩
theorem tF.none (W:World)(n₀:Nat)(hn:n₀<=W.heap.size):tF (W.alloc (.cells #[] 109)) n₀ (.slice (some ⟨W.heap.size,0,none⟩) 0 0) []:=
 ⟨W.heap.size,0,[],rfl,⟨rfl, .inr ⟨W.heap.size,0,#[],rfl,hn,QC W _,bI _,by simp[maxLen],rfl,rfl⟩⟩,fun j hj=>by simp at hj⟩
namespace Lw
def PN (fs:List Fn)(k:Nat):List Ln:=func fs (Mn.fn fs k) (aM.ends (Mn.fn fs k).b) (aM.bC (Mn.fn fs k).b) (Mn.jU fs k)
def qB (fs:List Fn)(k:Nat):List (List Ln):=(List.range k).map (PN fs)
def uH (fs:List Fn):Bool:=(List.range fs.length).all fun k=>decide ((PN fs k).length≠0)
def aY (fs:List Fn)(d:ByteArray):List (List Ln)×Bool:=if Hg.valid fs d=true/\uH fs=true then(qB fs fs.length,true)else([],false)
theorem Oo (fs:List Fn)(k:Nat):(qB fs k).length=k:=by simp[qB]
theorem LP (fs:List Fn)(k:Nat):qB fs (k+1)=qB fs k++[PN fs k]:=by simp[qB,List.range_succ]
theorem OE(fs:List Fn)(h:j<k):(qB fs k).getD j []=PN fs j:=by simp[qB,ah,h]
theorem Rf{fs:List Fn}(hk:k<fs.length)(h:(PN fs k).length=0):uH fs=false:=by rcases e:uH fs with _|_;{rfl};unfold uH at e;have:=List.all_eq_true.1 e k (List.mem_range.2 hk);rw[mY]at this;exact eU h this
theorem OW {fs:List Fn}(h:∀k,k<fs.length->(PN fs k).length≠0):uH fs=true:=by unfold uH;rw[rD];intro k hk;rw[mY];exact h k (List.mem_range.1 hk)
end Lw
theorem RP:(Tryz.prog.info? 67).map (fun i=>(i.zero,i.size,i.bytes))=some (some (.slice none 0 0),1,24):=by kernel_rfl
def RR (W:World)(n₀ g n cc:Nat)(ws:List Value)(lg:List (List Ln)):Prop:=
 W.ownsRow n₀ 67 1 (.slice (some ⟨g,0,none⟩) n cc) n ws/\ws.length=n/\lg.length=n/\∀j,j<n->tF W n₀ (ws.getD j undef) (lg.getD j [])
theorem tF.Re{fs:List Ln}(h:tF W n₀ v fs)(hB:Below W.heap.size W W'):tF W' n₀ v fs:=by obtain⟨g,cap,vs,e,h1,h2⟩:=h;exact⟨g,cap,vs,e,aN h1 hB,h2.kept hB⟩
theorem tF.afI{fs:List Ln}{n₂:Nat}{xs:List Value}(h:tF W n₀ v fs)(hu:W.ownsRow n₂ 67 k u m xs)(hg:W.grownBy W' u.ownBlock):tF W' n₀ v fs:=by obtain⟨g,cap,vs,e,h1,h2⟩:=h;have hint:109≠67:=by{decide};have aie:2≠67:=by{decide};exact⟨g,cap,vs,e,eQ h1 hg (fun g e=>gP h1 hu hint e),h2.dZ hg (fun j hj g e=>gP (h2 j hj).2.2.2.2.2 hu aie e)⟩
theorem RR.kept {W W':World}{n₀ g n cc:Nat}{ws:List Value}{lg:List (List Ln)}(h:RR W n₀ g n cc ws lg)(hB:Below W.heap.size W W'):RR W' n₀ g n cc ws lg:=
 ⟨aN h.1 hB,h.2.1,h.2.2.1,fun j hj=>(h.2.2.2 j hj).Re hB⟩
theorem RR.zero (W:World)(n₀:Nat)(hn:n₀<=W.heap.size):RR (W.alloc (.cells #[] 67)) n₀ W.heap.size 0 0 [] []:=
 ⟨⟨rfl, .inr ⟨W.heap.size,0,#[],rfl,hn,QC W _,bI _,by simp[maxLen],rfl,rfl⟩⟩,rfl,rfl,fun j hj=>by omega⟩
theorem RR.mono {W:World}{n₀ n₁ g n cc:Nat}{ws:List Value}{lg:List (List Ln)}(h:RR W n₁ g n cc ws lg)(hn:n₀<=n₁):RR W n₀ g n cc ws lg:=
 ⟨tX h.1 hn,h.2.1,h.2.2.1,fun j hj=>(h.2.2.2 j hj).mono hn⟩
theorem RR.more{cc g' cc':Nat}{ws:List Value}{lg:List (List Ln)}(h:RR W n₀ g n cc ws lg)(hB:Below W.heap.size W W1)(v:Value)(l:List Ln)(hv:tF W n₀ v l)(hrow:W2.ownsRow n₀ 67 1 (.slice (some ⟨g',0,none⟩) (n+1) cc') (n+1) (ws++[v]))(hg:W1.grownBy W2 (Value.slice (some ⟨g,0,none⟩) n cc).ownBlock):RR W2 n₀ g' (n+1) cc' (ws++[v]) (lg++[l]):=by obtain⟨r1,r2,r3,r4⟩:=h;have r1':=aN r1 hB;refine⟨hrow,by simp[r2],by simp[r3],fun j hj=>?_⟩;by_cases hjn:j<n;{have e1:(ws++[v]).getD j undef=ws.getD j undef:=by{rw[ah,uJ (by omega),←ah]};have e2:(lg++[l]).getD j []=lg.getD j []:=by{rw[ah,uJ (by omega),←ah]};rw[e1,e2];exact((r4 j hjn).Re hB).afI r1' hg};obtain rfl:j=n:=by{omega};have e1:(ws++[v]).getD j undef=v:=by{rw[ah,qM (by omega),r2];simp};have e2:(lg++[l]).getD j []=l:=by{rw[ah,qM (by omega),r3];simp};rw[e1,e2];exact(hv.Re hB).afI r1' hg
namespace Sm
open Mn (Rs words fn jU)
open Lw (wd dS raw dL qi func)
open Hg (arg)
def Ie (l:Nat):Rs->Rs
 | .inl (v,m,_)=> .done v m l
 | .inr (c,m,_)=> .stop c m l
def ps (fs:List Fn)(k j:Nat):Nat:=pos fs (fn fs k) (aM.ends (fn fs k).b) (aM.bC (fn fs k).b) (jU fs k) j
structure Q3 (fs:List Fn)(cs:List (List Ln)):Prop where
 val:Mn.La fs
 cs:∀k,k<fs.length->cs.getD k []=Lw.PN fs k
 len:∀k,k<fs.length->(raw fs (fn fs k) (aM.ends (fn fs k).b) (aM.bC (fn fs k).b) (jU fs k)).length<=300
 fin:∀k,k<fs.length->aM.op (fn fs k).b ((fn fs k).b.length-1)=12
variable {fs : List Fn} {cs : List (List Ln)}
theorem Q3.sim(h:Q3 fs cs){B:List Int}(hk:k<fs.length)(G:Mn.Good fs (fn fs k) (jU fs k) at' pile loc mem)(hR:Rel pile loc B):Sim fs cs (fn fs k) (aM.ends (fn fs k).b) (aM.bC (fn fs k).b) (jU fs k) k at' loc mem B (Mn.aQ fs k at' pile loc mem):=by have hok:=Md.bg h.val.all hk;simp only[Md.rF,au,mY,Wd.aZ]at hok;exact PZ (h.val.acc k hk) (h.cs k hk) (h.len k hk) (Mn.iY h.val hk) (fun j hj=>by have:=Mn.iY h.val hj;exact⟨this.1,this.2.2.2.2.1⟩) hok.2.2.2.2 (h.fin k hk) G hR
theorem Q3.start(h:Q3 fs cs)(hk:k<fs.length)(hl:(args.length:Int)=(fn fs k).a):∃u,u<=3/\iQ cs k 0 (Rl.kN args) mem u (ps fs k 0) (Rl.kN args) mem/\Rel [] (Mn.jf (fn fs k) args) (Rl.kN args):=by have hf:=Mn.iY h.val hk;refine⟨(fn fs k).l.toNat,by omega,?_,OJ ⟨hf.2.2.1,hf.2.2.2.1⟩ (by omega)⟩;unfold ps;rw[Rj];exact xm (h.cs k hk) (h.len k hk) ⟨hf.1,hf.2.1⟩ ⟨hf.2.2.1,hf.2.2.2.1⟩ hl _ (bI _)
theorem Q3.run (h:Q3 fs cs):∀(g n d k at':Nat)(pile loc mem B:List Int),k<fs.length->Mn.Good fs (fn fs k) (jU fs k) at' pile loc mem->Rel pile loc B->(Mn.run fs g n d k at' pile loc mem).ends->∀N,8*n<=N->
   ∃u,u<=8*(n-(Mn.run fs g n d k at' pile loc mem).left)/\R cs N d k (ps fs k at') B mem=Ie (N-u) (Mn.run fs g n d k at' pile loc mem)
 |0,n,d,k,at',pile,loc,mem,B,hk,G,hR,hE,N,hN=>eU rfl hE
 |g+1,0,d,k,at',pile,loc,mem,B,hk,G,hR,hE,N,hN=>by rw[Mn.run]at hE;exact eU rfl hE
 | g + 1,n+1,d,k,at',pile,loc,mem,B,hk,G,hR,hE,N,hN=>by
   have F:Mn.kg fs (fn fs k) (jU fs k) at' loc mem (Mn.aQ fs k at' pile loc mem):=Mn.eZ (Md.bg h.val.all hk) h.val.all (h.val.acc k hk) G
   have S:=h.sim hk G hR
   rcases hs:Mn.aQ fs k at' pile loc mem with⟨a,p,l,m⟩|p|c|⟨q,args,rest⟩
   · rw[Mn.fZ hs]at hE ⊢
     rw[hs]at F S
     obtain⟨u,B',hu,hG,hR'⟩:=S
     obtain⟨v,hv,hr⟩:=Q3.run h g n d k a p l m B' hk F hR' hE (N-u) (by omega)
     have hl:=(Mn.fP (fs:=fs) g n d k a p l m).1
     refine⟨u+v,by omega,?_⟩
     have e:=hG d (N-u)
     rw[show N-u+u=N by omega]at e
     unfold ps
     rw[e]
     unfold ps at hr
     rw[hr]
     congr 1
     omega
   · rw[Mn.qf hs]
     rw[hs]at S
     obtain⟨u,hu,hr⟩:=S
     refine⟨u,by show u<=8*(n+1-n);omega,?_⟩
     have e:=hr d (N-u)
     rw[show N-u+u=N by omega]at e
     unfold ps
     rw[e]
     rfl
   · rw[Mn.run_halt hs]
     rw[hs]at S
     obtain⟨u,hu,hr⟩:=S
     refine⟨u,by show u<=8*(n+1-n);omega,?_⟩
     have e:=hr d (N-u)
     rw[show N-u+u=N by omega]at e
     unfold ps
     rw[e]
     rfl
   · rw[hs]at F S
     obtain⟨hps,x,hc,hv⟩:=S
     obtain⟨f1,f2,f3,f4,f5⟩:=F
     have hq:q<fs.length:=by omega
     obtain⟨M,rfl⟩:∃M,N=M+1:=⟨N-1,by omega⟩
     by_cases hd:12<=d+1
     · rw[Mn.gz hs hd]
       refine⟨1,by show 1<=8*(n+1-n);omega,?_⟩
       unfold ps
       rw[acf hc hd]
       rfl
     · obtain⟨u0,hu0,hG0,hR0⟩:=h.start (k:=q) (mem:=mem) hq f2
       have G0:=Mn.dV h.val hq f2 f3 G.mm
       have hl:=(Mn.fP (fs:=fs) g n (d+1) q 0 [] (Mn.jf (fn fs q) args) mem).1
       have I:=fun hEq=>Q3.run h g n (d+1) q 0 [] (Mn.jf (fn fs q) args) mem (Rl.kN args) hq G0 hR0 hEq (M-u0) (by omega)
       have RF:=Mn.fV h.val g n (d+1) q 0 [] (Mn.jf (fn fs q) args) mem hq G0
       have e0:=hG0 (d+1) (M-u0)
       rw[show M-u0+u0=M by omega]at e0
       rcases hr:Mn.run fs g n (d+1) q 0 [] (Mn.jf (fn fs q) args) mem with⟨v,m,l⟩|⟨c,m,l⟩
       · rw[hr]at I hl RF
         simp only[Rs.left]at hl
         obtain⟨u1,hu1,hr1⟩:=I trivial
         simp only[Rs.left]at hu1
         rw[Mn.gu hs hd hr]at hE ⊢
         have e1:R cs M (d+1) q 0 (Rl.kN args) mem= .done v m (M-u0-u1):=by rw[e0,hr1];rfl
         obtain⟨u2,hu2,hr2⟩:=Q3.run h g l d k (at'+1) (rest++Mn.kZ (fn fs q) v) loc m (B.set x v) hk (f5 m RF.2 _ (Mn.wV (Mn.iY h.val hq).2.2.2.2.1 v) (Mn.rf RF.1)) (hv v) hE (M-u0-u1) (by omega)
         have hl2:=(Mn.fP (fs:=fs) g l d k (at'+1) (rest++Mn.kZ (fn fs q) v) loc m).1
         refine⟨1+u0+u1+u2,by omega,?_⟩
         unfold ps at hr2 ⊢
         rw[abr hc hd e1,←hps,hr2]
         congr 1
         omega
       · rw[Mn.gq hs hd hr]at hE ⊢
         rw[hr]at I hl
         simp only[Rs.left]at hl
         obtain⟨u1,hu1,hr1⟩:=I hE
         simp only[Rs.left]at hu1
         have e1:R cs M (d+1) q 0 (Rl.kN args) mem= .stop c m (M-u0-u1):=by rw[e0,hr1];rfl
         refine⟨1+u0+u1,by show _<=8*(n+1-l);omega,?_⟩
         unfold ps
         rw[aby hc hd e1]
         show Rs.stop c m (M-u0-u1)=Rs.stop c m (M+1-(1+u0+u1))
         rw[show M+1-(1+u0+u1)=M-u0-u1 by omega]
theorem Xx(h:Hg.valid fs d=true)(hk:k<fs.length):aM.op (fn fs k).b ((fn fs k).b.length-1)=12:=by
 unfold Hg.valid at h
 rw[au]at h
 obtain⟨hok,hall⟩:=h
 rw[rD]at hall
 have hs:=hall k (List.mem_range.2 hk)
 unfold Hg.jO at hs
 rw[az ⟨hok,by omega,by omega⟩,aA]at hs
 have mH:aM.isOk (fn fs k).b=true:=by rcases e:aM.isOk (fn fs k).b with _|_;{unfold Hg.kD at hs;change(if aM.isOk (fn fs k).b=true then _ else none).isSome=true at hs;rw[e]at hs;simp at hs};rfl
 have h2:(aM.all (fn fs k).b).2.2=true:=by rw[aM.isOk,au]at mH;exact mH.2
 obtain⟨⟨m,hm,h12,hi⟩,-⟩:=aM.Inv.lu (xs:=(fn fs k).b) (Ef:=(aM.all (fn fs k).b).1) (Of:=(aM.all (fn fs k).b).2.1) ((fn fs k).b.length+1) 0 _ _ _ (aM.Inv.first (fn fs k).b) (by
  show aM.all (fn fs k).b=_
  rw[←h2])
 rw[show(fn fs k).b.length-1=m by omega]
 exact h12
theorem abp(h:(Lw.aY fs d).2=true):Q3 fs (Lw.aY fs d).1/\(Lw.aY fs d).1.length=fs.length/\Hg.valid fs d=true:=by unfold Lw.aY at h ⊢;by_cases hc:Hg.valid fs d=true/\Lw.uH fs=true;{rw[az hc];refine⟨⟨Mn.mF hc.1,fun k hk=>Lw.OE fs hk,fun k hk=>?_,fun k hk=>Xx hc.1 hk⟩,Lw.Oo _ _,hc.1⟩;have:=hc.2;unfold Lw.uH at this;rw[rD]at this;have h1:=this k (List.mem_range.2 hk);rw[mY]at h1;unfold Lw.PN func at h1;rcases Nat.lt_or_ge 300 (raw fs (fn fs k) (aM.ends (fn fs k).b) (aM.bC (fn fs k).b) (jU fs k)).length with q|q;{rw[ax (by omega)]at h1;exact eU rfl h1};exact q};rw[ax hc]at h;cases h
theorem OB (h:Q3 fs cs)(hl:cs.length=fs.length):Rl.valid cs=true:=by have hv:=h.val.len;unfold Rl.valid;rw[au,mY,rD];refine⟨by omega,fun ls hls=>?_⟩;obtain⟨k,hk,rfl⟩:=List.getElem_of_mem hls;have e:cs[k]=Lw.PN fs k:=by{rw[←h.cs k (by omega),ah,ai hk];rfl};rw[e];have hok:=Md.bg h.val.all (show k<fs.length by omega);simp only[Md.rF,au,mY,Wd.aZ]at hok;have hF:=Lw.Om (h.val.acc k (by omega)) (Mn.iY h.val (by omega)) (fun j hj=>by have:=Mn.iY h.val hj;exact⟨this.1,this.2.1⟩) hok.2.2.2.2;have hne:func fs (fn fs k) (aM.ends (fn fs k).b) (aM.bC (fn fs k).b) (jU fs k)≠[]:=by{have hr:=Lw.DC fs (fn fs k) (aM.ends (fn fs k).b) (aM.bC (fn fs k).b) (jU fs k);unfold func;rw[az (h.len k (by omega))];intro e;rw[List.map_eq_nil_iff]at e;rw[e]at hr;simp at hr};obtain⟨o1,-,-,o2⟩:=hF.2 hne;rw[au];refine⟨o1,?_⟩;unfold Rl.ig;rw[rD];intro y hy;have:=o2 y hy;rw[Bool.not_eq_true',Bool.and_eq_false_iff,Hf,Hf];by_cases h7:y.k=7;{have:=this h7;exact .inr (by omega)};exact .inl h7
theorem same{k:Int}(hlow:(Lw.aY fs d).2=true)(hok:Mn.isOk fs d k args aH=true)(hE:(Mn.out fs d k args aH.toNat).ends):Rl.isOk (Lw.aY fs d).1 k args (Mm.new d) 200000=true/\(Rl.out (Lw.aY fs d).1 k args (Mm.new d) 200000).code=(Mn.out fs d k args aH.toNat).code/\(Rl.out (Lw.aY fs d).1 k args (Mm.new d) 200000).value=(Mn.out fs d k args aH.toNat).value/\(Rl.out (Lw.aY fs d).1 k args (Mm.new d) 200000).mem=(Mn.out fs d k args aH.toNat).mem/\200000-(Rl.out (Lw.aY fs d).1 k args (Mm.new d) 200000).left<=8*(aH.toNat-(Mn.out fs d k args aH.toNat).left)+8:=by obtain⟨hL,hlen,hv⟩:=abp hlow;obtain⟨-,⟨k0,k1⟩,h4,h5,h6,h7⟩:=Mn.gy.1 hok;have hk:k.toNat<fs.length:=by{omega};have hd:d.size<=64:=by{unfold Hg.valid Md.ok at hv;simp only[au,mY]at hv;exact hv.1.1.2};have hf:=Mn.iY hL.val hk;have hm:=Mm.uk hd;refine⟨Rl.gy.2 ⟨OB hL hlen,⟨k0,by omega⟩,by omega,h5,hm,by omega,by omega⟩,?_⟩;obtain⟨u0,hu0,hG0,hR0⟩:=hL.start (k:=k.toNat) (mem:=Mm.new d) hk h4;have e0:=hG0 0 (200000-u0);rw[show 200000-u0+u0=200000 by omega]at e0;obtain⟨u1,hu1,hr1⟩:=hL.run (aH.toNat+1) aH.toNat 0 k.toNat 0 [] (Mn.jf (fn fs k.toNat) args) (Mm.new d) (Rl.kN args) hk (Mn.dV hL.val hk h4 h5 hm) hR0 hE (200000-u0) (by omega);have e1:Rl.out (Lw.aY fs d).1 k args (Mm.new d) 200000=Ie (200000-u0-u1) (Mn.out fs d k args aH.toNat):=e0.trans hr1;rw[e1];change u1<=8*(aH.toNat-(Mn.out fs d k args aH.toNat).left)at hu1;rcases e:Mn.out fs d k args aH.toNat with⟨v,m,l⟩|⟨c,m,l⟩;{rw[e]at hu1;exact⟨rfl,rfl,rfl,by show 200000-(200000-u0-u1)<=_;omega⟩};rw[e]at hu1;exact⟨rfl,rfl,rfl,by show 200000-(200000-u0-u1)<=_;omega⟩
end Sm
section
open Go.RowKit
namespace Sm
theorem NS {R:Mn.Rs}(h:R.code≠5):R.ends:=by rcases R with⟨v,m,l⟩|⟨c,m,l⟩;{trivial};exact h
theorem told{fs:List Fn}{k fu:Int}(hlow:(Lw.aY fs d).2=true)(h7:Mn.code fs d k xs fu≠7)(h5:Mn.code fs d k xs fu≠5):Rl.code (Lw.aY fs d).1 k xs (Mm.new d) 200000=Mn.code fs d k xs fu/\Rl.value (Lw.aY fs d).1 k xs (Mm.new d) 200000=Mn.value fs d k xs fu/\Rl.kX (Lw.aY fs d).1 k xs (Mm.new d) 200000=Mn.kX fs d k xs fu/\Rl.O0 (Lw.aY fs d).1 k xs (Mm.new d) 200000<=8*Mn.eF fs d k xs fu+8/\0<=Mn.eF fs d k xs fu/\Mn.eF fs d k xs fu<=3000:=by rcases hok:Mn.isOk fs d k xs fu with _|_;{exact eU (by unfold Mn.code;rw[hok];rfl) h7};have hi:=Mn.gy.1 hok;have e1:Mn.code fs d k xs fu=(Mn.out fs d k xs fu.toNat).code:=by{unfold Mn.code;rw[az hok]};have e2:Mn.value fs d k xs fu=(Mn.out fs d k xs fu.toNat).value:=by{unfold Mn.value;rw[az hok]};have e3:Mn.kX fs d k xs fu=(Mn.out fs d k xs fu.toNat).mem:=by{unfold Mn.kX;rw[az hok]};have e4:Mn.eF fs d k xs fu=fu-(Mn.out fs d k xs fu.toNat).left:=by{unfold Mn.eF;rw[az hok]};have hE:(Mn.out fs d k xs fu.toNat).ends:=NS (by rw[←e1];exact h5);obtain⟨g1,g2,g3,g4,g5⟩:=same hlow hok hE;have hll:=Mn.pq fs d k xs fu.toNat;have r1:Rl.code (Lw.aY fs d).1 k xs (Mm.new d) 200000=(Rl.out (Lw.aY fs d).1 k xs (Mm.new d) 200000).code:=by{unfold Rl.code;rw[az g1];rfl};have r2:Rl.value (Lw.aY fs d).1 k xs (Mm.new d) 200000=(Rl.out (Lw.aY fs d).1 k xs (Mm.new d) 200000).value:=by{unfold Rl.value;rw[az g1];rfl};have r3:Rl.kX (Lw.aY fs d).1 k xs (Mm.new d) 200000=(Rl.out (Lw.aY fs d).1 k xs (Mm.new d) 200000).mem:=by{unfold Rl.kX;rw[az g1];rfl};have r4:Rl.O0 (Lw.aY fs d).1 k xs (Mm.new d) 200000=200000-(Rl.out (Lw.aY fs d).1 k xs (Mm.new d) 200000).left:=by{unfold Rl.O0;rw[az g1];rfl};have hl2:=Rl.pq (Lw.aY fs d).1 k xs (Mm.new d) 200000;rw[r1,r2,r3,r4,e1,e2,e3,e4,g2,g3,g4];have h0:=hi.2.2.2.2;refine⟨rfl,rfl,rfl,?_,?_,?_⟩<;>omega
end Sm
end
theorem Rt (W W':World)(p:Value)(ty:TypeId)(H:Nat)(hH:W.heap.size=H)(hc:∀i,W'.cell? ⟨H,i,none⟩=(W.alloc (.cells #[p] ty)).cell? ⟨H,i,none⟩):∀j y,[p][j]?=some y->W'.cell? ((⟨H,0,none⟩:Addr).add j)=some y:=by subst hH;intro j y hy;(have hadd:(⟨W.heap.size,0,none⟩:Addr).add j=⟨W.heap.size,j,none⟩:=by unfold Addr.add;split<;>simp_all);rw[hadd,hc,World.cell?_alloc_at _ _ _ _ rfl];simpa using hy
theorem uU (a:Option Addr)(len cap:Nat)(fs:List Fn)(d:ByteArray)(hd:d.size<=maxLen)(w:World)(hs:FL w a len fs):Calls Tryz.prog 9 #[.agg #[.slice a len cap, .string d]] w fun e w'=>∃g n cc ws,e= .returned (.tuple #[.slice (some ⟨g,0,none⟩) n cc, .bool (Lw.aY fs d).2])/\RR w' w.heap.size g n cc ws (Lw.aY fs d).1/\Below w.heap.size w w':=by obtain⟨i0,hi,hz0,hz1,hz2⟩:=lT RP;have hl:=hs.1;have hB1:=aB w (.cells #[.slice a len cap, .string d] 26);have bM:=aX.new w [.slice a len cap, .string d] 26;have eM:w.alloc (.cells [Value.slice a len cap, .string d].toArray 26)=w.alloc (.cells #[.slice a len cap, .string d] 26):=rfl;rw[eM]at bM;generalize hW1:w.alloc (.cells #[.slice a len cap, .string d] 26)=W1 at hB1 bM;have hBo:=aB W1 (.cells #[] 67);have hr0:=RR.zero W1 W1.heap.size (bI _);have hB2:=hB1.trans (hBo.mono hB1.size);have bM2:=bM.kept hBo;generalize hW2:W1.alloc (.cells #[] 67)=W2 at hBo hr0 hB2 bM2;have hcon:=qU a len cap fs d hd W2 (hs.kept hB2);have m0:=(bM2.2 0 _ rfl).1;have m1:=(bM2.2 1 _ rfl).1;have hszW:w.heap.size<W1.heap.size:=by{rw[←hW1];simp};rcases hv:Hg.valid fs d with _|_;{have e0:Lw.aY fs d=([],false):=by{unfold Lw.aY;rw[ax (by rw[hv];simp)]};rw[hv]at hcon;rw[e0];clear hs hv e0 bM bM2 hBo;go_enter Tryz.func9,Tryz.ntmps9;go_wp2_with fail;refine hcon.mono ?_;rintro e w2⟨rfl,hB3⟩;dsimp only;have HF:=ae (ak ((hr0.kept hB3).mono (Nat.le_of_lt hszW)) (hB2.trans (hB3.mono hB2.size)));clear hcon m0 m1 hr0 hB3 hB2;go_wp2;go_ret2;exact⟨_,_,_,_,rfl,HF.out.1,HF.out.2⟩};rw[hv]at hcon;have hl4:len<=4:=by{have:=(Mn.mF hv).len.2;omega};have hlow:=fun(W:World) (hB:Below w.heap.size w W) (k:Nat) (hk:k<len)=>vk a len cap fs d hv k hk W (hs.kept hB);have HV:=ae hv;have HS:=ae hlow;clear hs hv bM hBo hlow;go_enter Tryz.func9,Tryz.ntmps9;go_wp2_with fail;refine hcon.mono ?_;rintro e w2⟨rfl,hB3⟩;dsimp only;have hr3:=hr0.kept hB3;have bM3:=bM2.kept hB3;have Pq:=hB2.trans (hB3.mono hB2.size);clear hcon m0 m1 hr0 hB3 hB2 bM2;go_wp2;go_loopw [4,5] (fun u i wr=>∃(j g cc:Nat)(ws:List Value),i= .int .i64 (j:Int)/\j<=len/\u= .slice (some ⟨g,0,none⟩) j cc/\RR wr W1.heap.size g j cc ws (Lw.qB fs j)/\Below w.heap.size w wr/\aX wr w.heap.size [.slice a len cap, .string d]/\∀k,k<j->(Lw.PN fs k).length≠0) (fun _ i _=>len-(intOf i).toNat);(case atStart=>exact⟨0,_,0,[],rfl,jT _,rfl,hr3,Pq,bM3,fun k hk=>by omega⟩);case round=>obtain⟨j,g,cc,ws,rfl,hjn,rfl,hR,hBw,Km,hne⟩:=hrel;clear hr3 Pq bM3;have bMj:=Km;have m0:=(bMj.2 0 _ rfl).1;have m1:=(bMj.2 1 _ rfl).1;by_cases hlt:j<len;{have PT:(j:Int)<(len:Int):=by{omega};have hcj:=HS.out wr hBw j hlt;have HR:=ae (ak hR (ak hBw (ak Km hne)));clear hR hBw Km hne bMj;go_wp2_with fail;refine hcj.mono ?_;rintro e w4⟨v4,rfl,NC,hB4⟩;dsimp only;obtain⟨hR,hBw,Km,hne⟩:=HR.out;have hR4:=hR.kept hB4;have G9:=hBw.trans (hB4.mono hBw.size);have Kn:=Km.kept hB4;have YU:W1.heap.size<=wr.heap.size:=fH (dO hR.1 rfl).1 (Nat.le_of_lt (dO hR.1 rfl).2);have ND:=NC.mono YU;obtain⟨gl,cl,rfl,-,-,-⟩:=NC.LL;obtain⟨ln,hln⟩:∃n,(Lw.PN fs j).length=n:=⟨_,rfl⟩;have acN:(Lw.func fs (Mn.fn fs j) (aM.ends (Mn.fn fs j).b) (aM.bC (Mn.fn fs j).b) (Mn.jU fs j)).length=ln:=hln;rw[acN]at ND ⊢;have ho6:tF w4 W1.heap.size (.slice (some ⟨gl,0,none⟩) ln cl) (Lw.PN fs j):=ND;rcases Nat.eq_zero_or_pos ln with h0|hpos;{subst h0;have hno:=Lw.Rf (by rw[hl];exact hlt) hln;have HE:Hid (Lw.aY fs d=([],false)):=by{show _=_;unfold Lw.aY;rw[ax (by rw[hno];simp)]};have HF:=ae (ak (RR.zero w4 w.heap.size G9.size) (G9.trans ((aB w4 (.cells #[] 67)).mono G9.size)));clear HR hR hBw Km hne hR4 G9 Kn NC ND ho6 hcj hB4 m0 m1 hln acN;go_wp2;(try simp only[Exit.inBlock,Exit.then]);go_ret2;rw[HE.out];exact⟨_,_,_,_,rfl,HF.out.1,HF.out.2⟩};have hz:((ln:Int)==0)=false:=by{simp;omega};have hBa:=aB w4 (.cells #[.slice (some ⟨gl,0,none⟩) ln cl] 67);have HRW:=ae (aN hR4.1 hBa);have HK:=ae (ak hR4 (ak G9 (ak Kn (ak hne (ak ho6 (ak hln hBa))))));have ru:W1.heap.size<=w4.heap.size:=fH YU hB4.size;clear HR hR hBw Km hne hR4 G9 Kn NC ND ho6 hcj hB4 m0 m1 hln acN hBa;go_wp2_with(at_builtin;refine wpList_append_own_at _ rfl _ _ 33 rfl W1.heap.size 67 i0 (.slice none 0 0) 1 24 Tryz.underlying33 hi hz0 hz1 hz2 rfl (by decide) (.slice (some ⟨g,0,none⟩) j cc) j ws rfl HRW.out ⟨w4.heap.size,0,none⟩ 1 1 [.slice (some ⟨gl,0,none⟩) ln cl] rfl rfl (Rt w4 _ _ 67 _ rfl (fun i=>rfl)) (by simp[Value.oneCell']) (by simp only[maxLen];omega) (by omega) (by simp;omega) ?_;intro v2 wB hown2 hgrow2 _ G8;obtain⟨g2,cap2,rfl⟩:=qF hown2;have oN:=ae (ak hown2 hgrow2);clear hown2 hgrow2 G8);go_roundw;(case rel=>obtain⟨hR4,G9,Kn,hne,ho6,hln,hBa⟩:=HK.out;have hM:=hR4.more hBa _ _ ho6 oN.out.1 oN.out.2;rw[←Lw.LP]at hM;refine⟨j+1,g2,cap2,_,by congr 1<;>omega,by omega,rfl,hM,fD (G9.trans (hBa.mono G9.size)) oN.out.2 (fun b e=>by have:=(dO HRW.out e).1;omega),?_,fun k hk=>?_⟩;{exact(Kn.kept hBa).dZ oN.out.2 (fun e=>by have:=(dO HRW.out e).1;omega)};by_cases e:k=j;{subst e;omega};exact hne k (by omega));case measure=>simp[intOf];omega};obtain rfl:j=len:=by{omega};have PT:¬((j:Int)<(j:Int)):=by{omega};have vC:=Lw.OW (fs:=fs) (fun k hk=>hne k (by omega));have HE:Hid (Lw.aY fs d=(Lw.qB fs j,true)):=by{show _=_;unfold Lw.aY;rw[az ⟨HV.out,vC⟩,hl]};have HF:=ae (ak (hR.mono (Nat.le_of_lt hszW)) hBw);clear hR hBw Km hne bMj vC;go_wp2;go_ret2;rw[HE.out];exact⟨_,_,_,rfl,⟨_,HF.out.1⟩,HF.out.2⟩
def OT (W:World)(n₀:Nat)(v:Value)(xs:List Int):Prop:=∃t,W.ownsRow n₀ t 1 v xs.length (xs.map iv)
theorem OI.ot(h:OI W n₀ v xs):OT W n₀ v xs:=⟨_,h⟩
theorem OT.slice {W:World}{n₀:Nat}{v:Value}{xs:List Int}(h:OT W n₀ v xs):∃a cap,v= .slice a xs.length cap/\IL W a xs.length xs:=by obtain⟨t,h⟩:=h;rcases h.2 with⟨rfl,h0⟩|⟨g,cap,cur,rfl,hb,hc,hn,hm,hs,ht⟩;{exact⟨none,0,by rw[h0],rfl,by rw[h0];exact jT _, .inl h0⟩};refine⟨_,cap,rfl,rfl,fH hn hm, .inr ⟨g,0,rfl,(h.lt g rfl).2,fun j hj=>?_⟩⟩;have:=h.cellAt j (by omega);rw[Nat.zero_add,this,KH,ai hj,ah,ai hj];rfl
theorem OT.il{a:Option Addr}(h:OT W n₀ (.slice a n c) xs):n=xs.length/\IL W a n xs:=by obtain⟨a',c',e,hil⟩:=h.slice;simp only[Value.slice.injEq]at e;obtain⟨rfl,rfl,rfl⟩:=e;exact⟨rfl,hil⟩
theorem OT.kept {W W':World}{n₀:Nat}{v:Value}{xs:List Int}(h:OT W n₀ v xs)(hB:Below W.heap.size W W'):OT W' n₀ v xs:=by obtain⟨t,h⟩:=h;refine⟨t,aa0 (row:=none) h ⟨hB.os,hB.tape,hB.output,hB.size,fun k hk _=>hB.block k hk⟩ ?_⟩;rcases hv:v.ownBlock with _|b;{exact .inl rfl};exact .inr (by simp)
theorem OT.dZ{b:Nat}(h:OT W n₀ v xs)(hg:W.grownBy W' (some b))(hne:∀g,v.ownBlock=some g->g≠b):OT W' n₀ v xs:=by obtain⟨t,h⟩:=h;refine⟨t,aa0 h hg ?_⟩;rcases hv:v.ownBlock with _|b';{exact .inl rfl};refine .inr ?_;have:=hne b' hv;simp only[ne_eq,af];omega
theorem OT.mono(h:OT W n₁ v xs)(hn:n₀<=n₁):OT W n₀ v xs:=by obtain⟨t,h⟩:=h;refine⟨t,h.1,?_⟩;rcases h.2 with h'|⟨g',cap',cur,h',hb,r⟩;{exact .inl h'};exact .inr ⟨g',cap',cur,h',fH hn hb,r⟩
theorem OT.lt {W:World}{n₀:Nat}{v:Value}{xs:List Int}(h:OT W n₀ v xs)(g:Nat)(hg:v.ownBlock=some g):n₀<=g/\g<W.heap.size:=by obtain⟨t,h⟩:=h;exact Ay h g hg
theorem dG.ot(h:dG W g t (xs.map iv))(hg:n₀<=g)(hm:xs.length<=maxLen):OT W n₀ (.slice (some ⟨g,0,none⟩) xs.length xs.length) xs:=
 ⟨t,by simp, .inr ⟨g,xs.length,(xs.map iv).toArray,rfl,hg,h,bI _,hm,by simp,by rw[Nat.mul_one];exact List.take_of_length_le (by simp)⟩⟩
theorem MO (bs:List Int)(hl:bs.length=64)(hb:∀j,0<=bs.getD j 0/\bs.getD j 0<=255)(w:World):Calls Tryz.prog 103 #[.agg (bs.map bv).toArray] w fun e w'=>∃v,e= .returned v/\OT w' w.heap.size v bs/\Below w.heap.size w w':=by have HL:=ae (ak hl hb);obtain⟨cs,hcs⟩:=aF (bs.map bv);obtain⟨zs,hzs⟩:=aF ((List.replicate 64 (0:Int)).map iv);have HZ:=Li;rw[hcs];rw[hzs]at HZ;have hlc:cs.length=64:=by{rw[←hcs,iG];exact hl};have hlz:zs.length=64:=by{rw[←hzs];simp};clear hl hb;go_enter Tryz.func103,Tryz.ntmps103;go_wp2_with(refine pJ 115 _ rfl ?_);refine⟨?_⟩;refine kG rfl _ _ rfl cs rfl ?_;intro g1 w1 hg1 hA1 hB1;go_wp2_with(refine jA 115 _ rfl ?_);refine⟨?_⟩;refine ib rfl _ _ rfl g1 rfl _ _ hA1 64 5 Tryz.underlying115 (by rw[hlc];exact jv) ?_;go_wp2_with fail;rw[←hcs];refine(IG bs HL.out.1 HL.out.2 _).mono ?_;rintro e w2⟨rfl,hB2⟩;obtain⟨is,his⟩:=aF (bs.map iv);have WL:is.length=64:=by{rw[←his,iG];exact HL.out.1};have hone:∀x∈is,x.oneCell'=true:=by{rw[←his];exact jq};have HIn:=ae his;rw[his];have hBa:=hB1.trans (hB2.mono hB1.size);dsimp only;go_wp2_with(refine gZ 168 rfl ?_);refine⟨?_⟩;refine eP rfl _ rfl zs 64 HZ ?_;intro g3 w3 hg3 hA3 hB3;have hBb:=hBa.trans (hB3.mono hBa.size);go_wp2_with(refine jw 168 _ _ rfl ?_);refine⟨?_⟩;refine gG rfl _ _ _ rfl g3 is rfl rfl _ _ hA3 (by rw[WL];exact sW) (by rw[WL,hlz]) hone ?_;intro w5 WE hg5;have HA5:=ae WE;have ho:w.heap.size<=g3:=by{have:=hg3.out;have:=hBa.size;omega};have HB5:=ae (aG hBb hg5 ho);clear hBa hBb hB1 hB2 hB3 hA1 hA3 hg5 WE his;go_wp2;go_ret;have h:=HA5.out;rw[←HIn.out]at h;have h2:=h.ot ho (by rw[HL.out.1];simp[maxLen]);rw[HL.out.1]at h2;exact⟨_,rfl,h2,HB5.out⟩
theorem gD (a:Option Addr)(len cap:Nat)(xs:List Int)(w:World)(hs:IL w a len xs):Calls Tryz.prog 18 #[.slice a len cap] w fun e w'=>e= .returned (.bool (Mm.ok xs))/\w'=w:=by obtain⟨hl,hm,hrow⟩:=hs;have HL:=ae hl;unfold maxLen at hm;clear hl;go_enter Tryz.func18,Tryz.ntmps18;go_wp2;go_loop [3] (fun i=>∃k:Nat,i= .int .i64 k/\k<=len/\∀j,j<k->0<=xs.getD j 0/\xs.getD j 0<=255) (fun i=>len-(intOf i).toNat);(case atStart=>exact⟨0,rfl,jT _,by simp⟩);case round=>obtain⟨k,rfl,hk,hall⟩:=hrel;have HA:=ae hall;clear hall;by_cases hlt:k<len;{rcases hrow with h0|⟨b,off,rfl,hb,hx⟩;{omega};have hx0:=hx k hlt;have gI:(k:Int)<(len:Int):=by{omega};obtain⟨p,hp⟩:=aF (xs.getD k 0);rw[hp]at hx0;have HP:=ae hp;clear hx hp;rcases hin:Wd.dP p 0 255 with _|_;{go_wp2_with(go_at_call 47;refine(bJ _ _ _ _).mono ?_;rintro e w'⟨rfl,dC⟩;subst w';rw[hin]);go_ret;refine⟨dz ?_,rfl⟩;symm;rw[Bool.eq_false_iff];intro h;have h2:=Mm.kY h k;rw[HP.out,←Wd.aZ,hin]at h2;cases h2};go_wp2_with(go_at_call 47;refine(bJ _ _ _ _).mono ?_;rintro e w'⟨rfl,dC⟩;subst w';rw[hin]);go_round;(case rel=>refine⟨k+1,by simp,by omega,fun j hj=>?_⟩;by_cases e:j=k;{subst e;rw[HP.out];exact Wd.aZ.1 hin};exact HA.out j (by omega));case measure=>simp[intOf];omega};have gI:¬(k:Int)<(len:Int):=by{omega};have hke:k=len:=by{omega};have hall:∀x∈xs,0<=x/\x<=255:=by{refine Mm.Mf fun j=>?_;by_cases hj:j<len;{exact HA.out j (by omega)};rw[ah,List.getElem?_eq_none (by rw[HL.out];omega)];exact⟨by simp,by simp⟩};have pO:=ae hall;clear hrow hall;by_cases h64:len=64;{have hb:((len:Int)==64)=true:=by{simp[h64]};clear hke;go_wp2;go_ret;refine⟨dz ?_,rfl⟩;rw[(Mm.aS (xs:=xs)).2 ⟨HL.out.trans h64,pO.out⟩]};have hb:((len:Int)==64)=false:=by{simp;omega};clear hke;go_wp2;go_ret;refine⟨dz ?_,rfl⟩;have:Mm.ok xs=false:=by{rw[Bool.eq_false_iff];intro h;exact h64 (HL.out.symm.trans (Mm.fT h))};rw[this]
theorem iT (a o:Int)(w:World):Calls Tryz.prog 90 #[.int .i64 a, .int .i64 o] w fun e w'=>e= .returned (.bool (Mm.there a o))/\w'=w:=by rcases hok:Wd.ok a;{have hth:Mm.there a o=false:=by{simp[Mm.there,hok]};rw[hth];go_enter Tryz.func90,Tryz.ntmps90;go_wp2_with(go_at_call 56;refine(aU _ _).mono ?_;rintro e w'⟨rfl,dC⟩;subst w';rw[hok]);go_ret;exact⟨rfl,rfl⟩};have h0:=Wd.aS.1 hok;have ha0:=h0.1;have ha1:=h0.2;clear h0;rcases hin:Wd.dP o 0 255;{have hth:Mm.there a o=false:=by{simp[Mm.there,hin]};rw[hth];go_enter Tryz.func90,Tryz.ntmps90;go_wp2_with(first|(go_at_call 56;refine(aU _ _).mono ?_;rintro e w'⟨rfl,dC⟩;subst w';rw[hok])|(go_at_call 47;refine(bJ _ _ _ _).mono ?_;rintro e w'⟨rfl,dC⟩;subst w';rw[hin]));go_ret;exact⟨rfl,rfl⟩};have h1:=Wd.aZ.1 hin;have ho0:=h1.1;have ho1:=h1.2;clear h1;have hth:Mm.there a o=decide (a+o+4<=64):=by{rw[Mm.there,hok,hin,Bool.true_and,Bool.true_and];exact decide_eq_decide.2 (by omega)};rw[hth];go_enter Tryz.func90,Tryz.ntmps90;go_wp2_with(first|(go_at_call 56;refine(aU _ _).mono ?_;rintro e w'⟨rfl,dC⟩;subst w';rw[hok])|(go_at_call 47;refine(bJ _ _ _ _).mono ?_;rintro e w'⟨rfl,dC⟩;subst w';rw[hin]));go_ret;exact⟨rfl,rfl⟩
theorem uL (a:Option Addr)(cap:Nat)(xs:List Int)(k:Nat)(hk:k+4<=64)(w:World)(hs:IL w a 64 xs)(hb:∀j,0<=xs.getD j 0/\xs.getD j 0<=255):Calls Tryz.prog 91 #[.slice a 64 cap, .int .i64 k] w fun e w'=>e= .returned (.int .i64 (Mm.jX xs k 4))/\Below w.heap.size w w':=by obtain⟨hl,hm,hrow⟩:=hs;rcases hrow with h0|⟨b,off,rfl,hbl,hx⟩;{omega};have c0:=hx k (by omega);have c1:=hx (k+1) (by omega);have c2:=hx (k+2) (by omega);have c3:=hx (k+3) (by omega);have HN:Hid (Mm.jX xs k 4=xs.getD k 0+xs.getD (k+1) 0*256+xs.getD (k+2) 0*65536+xs.getD (k+3) 0*16777216):=by{show _=_;simp only[Mm.jX,Nat.add_zero,show(256:Int) ^ 0=1 from rfl,show(256:Int) ^ 1=256 from rfl,show(256:Int) ^ 2=65536 from rfl,show(256:Int) ^ 3=16777216 from rfl];omega};have b0:=hb k;have b1:=hb (k+1);have b2:=hb (k+2);have b3:=hb (k+3);obtain⟨p0,h0⟩:∃p,xs.getD k 0=p:=⟨_,rfl⟩;obtain⟨p1,h1⟩:∃p,xs.getD (k+1) 0=p:=⟨_,rfl⟩;obtain⟨p2,h2⟩:∃p,xs.getD (k+2) 0=p:=⟨_,rfl⟩;obtain⟨p3,h3⟩:∃p,xs.getD (k+3) 0=p:=⟨_,rfl⟩;rw[h0]at c0 b0;rw[h1]at c1 b1;rw[h2]at c2 b2;rw[h3]at c3 b3;rw[h0,h1,h2,h3]at HN;obtain⟨b00,b01⟩:=b0;obtain⟨b10,b11⟩:=b1;obtain⟨b20,b21⟩:=b2;obtain⟨b30,b31⟩:=b3;clear h0 h1 h2 h3 hx hb hm hl;have k0:(k:Int)<64:=by{omega};go_enter Tryz.func91,Tryz.ntmps91;go_wp2;go_quiet (fail);go_wp2;go_ret;exact⟨by rw[HN.out];rfl,below_drewN _ _⟩
theorem xz (s:ByteArray)(w:World):Calls Tryz.prog 10 #[.string s] w fun e w'=>∃v,e= .returned v/\OT w' w.heap.size v (Mm.new s)/\Below w.heap.size w w':=by by_cases hle:s.size<=64;{have aii:¬(64:Int)<(s.size:Int):=by{omega};obtain⟨i0,hi,hz0,hz1,hz2⟩:=lT bT;obtain⟨wm,hmk,hown,hgrow⟩:=run_make_full (P:=Tryz.prog) w w.heap.size 27 2 i0 _ 1 Tryz.underlying27 hi hz0 hz1 .i64 .i64 64 (by rw[hz2];omega) (by simp only[maxLen];omega) (bI _);have hBm:Below w.heap.size w wm:=⟨hgrow.os,hgrow.tape,hgrow.output,hgrow.size,fun k hk=>hgrow.block k hk (by simp)⟩;have hown0:wm.ownsRow w.heap.size 2 1 (.slice (some ⟨w.heap.size,0,none⟩) 64 64) 64 ((List.replicate 64 0).map iv):=by{have e:(madeCells (Value.int .i64 0).cells 64).toList=List.replicate 64 (iv 0):=toList_madeCells_one _ _;rw[List.map_replicate,←e];exact hown};clear hown hgrow;rw[show((64:Nat):Int)=64 from rfl]at hmk;go_enter Tryz.func10,Tryz.ntmps10;go_wp2;go_loopw [4] (fun i wr=>∃(k:Nat)(ys:List Int),i= .int .i64 k/\k<=s.size/\ys.length=64/\(∀j,ys.getD j 0=if j<k then(Mm.Jj s).getD j 0 else 0)/\wr.ownsRow w.heap.size 2 1 (.slice (some ⟨w.heap.size,0,none⟩) 64 64) 64 (ys.map iv)/\Below w.heap.size w wr) (fun i _=>s.size-(intOf i).toNat);(case atStart=>exact⟨0,List.replicate 64 0,rfl,jT _,by simp,fun j=>by rw[ax (by omega),ah,List.getElem?_replicate];split<;>rfl,hown0,hBm⟩);case round=>obtain⟨k,ys,rfl,hk,hyl,hys,hown,hB⟩:=hrel;have HY:=ae (ak hyl hys);clear hown0;by_cases hlt:k<s.size;{have gI:(k:Int)<(s.size:Int):=by{omega};have Mx:=Mm.Hw hlt;obtain⟨p,hp⟩:∃p:UInt8,s[k]=p:=⟨_,rfl⟩;have hs:s[k]?=some p:=by{rw[getElem?_pos s k hlt,hp]};rw[hp]at Mx;have hpb:=UInt8.toNat_lt p;have HW:Hid (wrap64 ((s[k]'hlt).toNat:Int)=(p.toNat:Int)):=by{show _=_;rw[hp,wrap64.eq_1];omega};have HP:=ae Mx;have hc0:=hown.cellAt k (by omega);rw[iF (by omega)]at hc0;obtain⟨q,hq⟩:=aF (ys.getD k 0);rw[hq]at hc0;have hf0:=hown.frozenAt k;have BC:=hown.stored k (.int .i64 (p.toNat:Int));rw[←ic ys k]at BC;have HST:=ae BC.1;have HB:=ae (hB.setCell (p:=⟨w.heap.size,k,none⟩) (bI _) (.int .i64 (p.toNat:Int)));clear hyl hys hp hq BC hown hB Mx;unfold iv at hc0;go_wp2;go_roundw;(case rel=>rw[HW.out];refine⟨k+1,ys.set k (p.toNat:Int),by simp,by omega,by rw[uW];exact HY.out.1,fun j=>?_,HST.out,HB.out⟩;rw[Mm.iH (by rw[HY.out.1];omega)];by_cases e:j=k;{subst e;rw[az rfl,az (by omega),HP.out]};rw[ax e,HY.out.2 j];by_cases e2:j<k;{rw[az e2,az (by omega)]};rw[ax e2,ax (by omega)]);case measure=>simp[intOf];omega};have gI:¬(k:Int)<(s.size:Int):=by{omega};have hke:k=s.size:=by{omega};subst hke;have e:ys=Mm.new s:=by{refine rJ (n:=64) ⟨hyl,fun j hj=>?_⟩ (Mm.fT (Mm.uk hle));rw[hys j,Mm.new,az hle];by_cases e2:j<s.size;{rw[az e2,ah,ah,uJ (by rw[Mm.pG];exact e2)]};rw[ax e2,ah,qM (by rw[Mm.pG];omega),List.getElem?_replicate];split<;>rfl};subst e;have HO:=ae (ak hown hB);have HN:=ae hyl;clear hyl hys hown hB HY;go_wp2;go_ret;refine⟨_,rfl,⟨2,?_⟩,HO.out.2⟩;rw[HN.out];exact HO.out.1};have aii:(64:Int)<(s.size:Int):=by{omega};have hn:Mm.new s=[]:=by{rw[Mm.new,ax hle]};rw[hn];go_enter Tryz.func10,Tryz.ntmps10;go_wp2;go_ret;exact⟨_,rfl,(OI.empty _).ot,(eG _ _).alloc (bI _) _⟩
theorem rZ (n₀:Nat)(g cap:Nat)(xs:List Int)(hl:xs.length=64)(k:Nat)(hk:k+4<=64)(v:Int)(h0:0<=v)(h1:v<=4294967295)(w:World)(hs:w.ownsRow n₀ 2 1 (.slice (some ⟨g,0,none⟩) 64 cap) 64 (xs.map iv)):Calls Tryz.prog 92 #[.slice (some ⟨g,0,none⟩) 64 cap, .int .i64 k, .int .i64 v] w fun e w'=>e= .returned (.tuple #[])/\w'.ownsRow n₀ 2 1 (.slice (some ⟨g,0,none⟩) 64 cap) 64 ((Mm.iP xs k v 4).map iv)/\w.grownBy w' (some g):=by have HL:=ae hl;clear hl;go_enter Tryz.func92,Tryz.ntmps92;go_wp2;go_loopw [6] (fun i wr=>∃(j:Nat),i= .int .i64 j/\j<=4/\wr.ownsRow n₀ 2 1 (.slice (some ⟨g,0,none⟩) 64 cap) 64 ((Mm.iP xs k v j).map iv)/\w.grownBy wr (some g)) (fun i _=>4-(intOf i).toNat);(case atStart=>exact⟨0,rfl,by omega,hs,vM _ _⟩);case round=>obtain⟨j,rfl,hj,hown,hg⟩:=hrel;clear hs;by_cases hlt:j<4;{have gI:(j:Int)<4:=by{omega};have hkj:k+j<64:=by{omega};have hc:=hown.cellAt (k+j) (by omega);rw[iF (by rw[Mm.lU,HL.out];exact hkj)]at hc;have hf:=hown.frozenAt (k+j);have hset:=hown.stored (k+j) (iv (v / 256 ^ j%256));rw[←List.map_set,←Mm.iP]at hset;obtain⟨q,hq⟩:=aF ((Mm.iP xs k v j).getD (k+j) 0);rw[hq]at hc;have HS:=ae (ak hset.1 (fI hg hset.2));clear hq hset hown hg;unfold iv at hc;obtain rfl|rfl|rfl|rfl:j=0\/j=1\/j=2\/j=3:=by{omega};{rw[Nat.add_zero]at hc hf;go_wp2;have e:=HS.out;rw[Nat.add_zero,show v / 256 ^ 0%256=v%256 by simp]at e;rw[Wd.O4];exact⟨⟨1,rfl,by omega,e.1,e.2⟩,by simp[intOf]⟩};{go_wp2;have e:=HS.out;rw[show(256:Int) ^ 1=256 from rfl]at e;rw[Wd.O4];exact⟨⟨2,rfl,by omega,e.1,e.2⟩,by simp[intOf]⟩};{go_wp2;have e:=HS.out;rw[show(256:Int) ^ 2=65536 from rfl]at e;rw[Wd.O4];exact⟨⟨3,rfl,by omega,e.1,e.2⟩,by simp[intOf]⟩};go_wp2;have e:=HS.out;rw[show(256:Int) ^ 3=16777216 from rfl]at e;rw[Wd.O4];exact⟨⟨4,rfl,by omega,e.1,e.2⟩,by simp[intOf]⟩};obtain rfl:j=4:=by{omega};have HO:=ae (ak hown hg);clear hown hg;go_wp2;refine fG (fE rfl _ _ _) rfl ⟨rfl,HO.out.1,HO.out.2⟩
structure WC where
 B:Nat
 M:Nat
 Mc:Nat
 fb:Nat
 fo:Nat
 Fc:Nat
 hb:Nat
 ho:Nat
 Hc:Nat
 eb:Nat
 eo:Nat
 Ec:Nat
 ob:Nat
 oo:Nat
 Oc:Nat
 fs:List Fn
 d:ByteArray
def WC.dY (c:WC)(aH code:Int):List Value:=
 [.slice (some ⟨c.fb,c.fo,none⟩) c.fs.length c.Fc, .string c.d, .slice (some ⟨c.hb,c.ho,none⟩) c.fs.length c.Hc, .slice (some ⟨c.eb,c.eo,none⟩) c.fs.length c.Ec, .slice (some ⟨c.ob,c.oo,none⟩) c.fs.length c.Oc, .slice (some ⟨c.M,0,none⟩) 64 c.Mc, .int .i64 aH, .int .i64 code]
structure oW (c:WC)(W0 W:World):Prop where
 os:W.os=W0.os
 tape:W.tape=W0.tape
 out:W.output=W0.output
 size:W0.heap.size<=W.heap.size
 blk:∀i,i<W0.heap.size->i≠c.B->i≠c.M->W.heap[i]?=W0.heap[i]?
theorem oW.refl (c:WC)(W:World):oW c W W:=⟨rfl,rfl,rfl,bI _,fun _ _ _ _=>rfl⟩
theorem oW.trans {c:WC}{W0 W1 W2:World}(h:oW c W0 W1)(k:oW c W1 W2):oW c W0 W2:=
 ⟨k.os.trans h.os,k.tape.trans h.tape,k.out.trans h.out,fH h.size k.size,fun i hi h1 h2=>(k.blk i (aj hi h.size) h1 h2).trans (h.blk i hi h1 h2)⟩
theorem oW.below{c:WC}(h:Below W.heap.size W W'):oW c W W':=⟨h.os,h.tape,h.output,h.size,fun i hi _ _=>h.block i hi⟩
theorem oW.grown{c:WC}(h:W.grownBy W' row)(hr:row=none\/row=some c.B\/row=some c.M\/∃r,row=some r/\W.heap.size<=r):oW c W W':=
 ⟨h.os,h.tape,h.output,h.size,fun i hi h1 h2=>h.block i hi (by
   rcases hr with rfl|rfl|rfl|⟨r,rfl,hr⟩
   · simp
   · simpa using h1
   · simpa using h2
   · simp only[ne_eq,af];omega)⟩
def TL (W:World)(b off:Nat)(n:Nat)(f:Nat->List Int):Prop:=∀k,k<n->∃a m c,W.cell? ⟨b,off+k,none⟩=some (.slice a m c)/\IL W a m (f k)
structure ZJ (c:WC)(W0:World):Prop where
 fl:∀W,oW c W0 W->FL W (some ⟨c.fb,c.fo,none⟩) c.fs.length c.fs
 th:∀W,oW c W0 W->TL W c.hb c.ho c.fs.length (Mn.jU c.fs)
 te:∀W,oW c W0 W->TL W c.eb c.eo c.fs.length (fun k=>aM.ends (Mn.fn c.fs k).b)
 tn:∀W,oW c W0 W->TL W c.ob c.oo c.fs.length (fun k=>aM.bC (Mn.fn c.fs k).b)
 val:Mn.La c.fs
 ne:c.B≠c.M
 fbn:c.fb<W0.heap.size/\c.fb≠c.B/\c.fb≠c.M
structure WK (c:WC)(W0 W:World)(mem:List Int)(aH code:Int):Prop where
 dD:oW c W0 W
 box:aX W c.B (c.dY aH code)
 row:W.ownsRow 0 2 1 (.slice (some ⟨c.M,0,none⟩) 64 c.Mc) 64 (mem.map iv)
theorem WK.kept {c:WC}{W0 W W':World}{mem:List Int}{aH code:Int}(h:WK c W0 W mem aH code)(hB:Below W.heap.size W W'):WK c W0 W' mem aH code:=
 ⟨h.dD.trans (oW.below hB),h.box.kept hB,h.row.kept (row:=none) ⟨hB.os,hB.tape,hB.output,hB.size,fun k hk _=>hB.block k hk⟩ (.inr (by simp[Value.ownBlock]))⟩
theorem BK{b:Nat}{fs:List Fn}(h:FL W (some ⟨b,off,none⟩) n fs)(hk:k<n):W.cell? ⟨b,off+k*4,none⟩=some (.int .i64 (Mn.fn fs k).a)/\W.cell? ⟨b,off+k*4+1,none⟩=some (.int .i64 (Mn.fn fs k).l)/\W.cell? ⟨b,off+k*4+2,none⟩=some (.int .i64 (Mn.fn fs k).g)/\∃ba bl bc,W.cell? ⟨b,off+k*4+3,none⟩=some (.slice ba bl bc)/\SL W ba bl (Mn.fn fs k).b:=by obtain⟨-,-,h3|⟨b',off',e,hb,hx⟩⟩:=h;{omega};simp only[af,Addr.mk.injEq,and_true]at e;obtain⟨rfl,rfl⟩:=e;exact hx k hk
def Mn.QV (f:Fn)(E H:List Int)(at':Nat)(dp:Int):Int×Int×Int:=
 if dp.toNat<(aM.dK f.b E at' at').length then
   let t:=((aM.dK f.b E at' at').getD dp.toNat (-1)).toNat
   if aM.op f.b t=9 then((t:Int)+1,H.getD t 0,0)
   else if aM.op f.b t=10 then(aM.aI E t+1,H.getD t 0-1,Hg.arg f.b t)
   else(aM.aI E t+1,H.getD t 0,Hg.arg f.b t)
 else(-1,0,f.g)
end Go.Proofs.YthkjdjmjdlimnaaGreat
