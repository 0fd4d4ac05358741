/-
  Own texts for a law: Low8
-/
import Derived.Test.YtellfmhljjdjbaaGreatDoorKA13
import Derived.Test.YtellfmhljjdjbaaGreatDoorKA19
namespace Go.Proofs.YtellfmhljjdjbaaGreatDoor
open Go.RowKit Go.Shelf
set_option linter.all false
set_option maxRecDepth 100000
set_option maxHeartbeats 16000000
theorem Lw.BD {fs:List Fn}{d:ByteArray}(h:Hg.valid fs d=true){k:Nat}(hk:k<fs.length):Md.ok fs d=true/\∃mo,Hg.gY fs (Mn.fn fs k)=some (Mn.kU fs k,mo):=by unfold Hg.valid at h;rw[ax]at h;refine⟨h.1,?_⟩;have h2:=List.all_eq_true.1 h.2 k (List.mem_range.2 hk);unfold Hg.dI at h2;rw[az ⟨h.1,by omega,by omega⟩]at h2;simp only[aA]at h2;unfold Mn.kU Mn.fn;rcases e:Hg.gY fs (fs.getD k .z)with _|⟨H,mo⟩;{rw[e]at h2;cases h2};exact⟨mo,rfl⟩
theorem Lw.Ll {fs:List Fn}{f:Fn}{x:List Int×Int}(h:Hg.gY fs f=some x):aF.isOk f.b=true:=by unfold Hg.gY at h;split at h;{assumption};cases h
def Lw.part (st:List Int)(R:List (Ln×Int))(i:Nat):List Ln:=(R.take i).map (Lw.fJ st)++(R.drop i).map (·.1)
theorem Lw.zH (st:List Int)(R:List (Ln×Int))(i:Nat):(Lw.part st R i).length=R.length:=by unfold Lw.part;simp only[List.length_append,List.length_map,List.length_take,List.length_drop];omega
theorem Lw.wD {st:List Int}{R:List (Ln×Int)}{i:Nat}(hi:i<R.length):Lw.part st R (i+1)=(Lw.part st R i).set i (Lw.fJ st (R.getD i (.z,0))):=by unfold Lw.part;rw[List.take_add_one,aj hi,ai,aj hi,List.drop_eq_getElem_cons hi];simp only[Option.toList_some,Option.getD_some,List.map_append,List.map_cons,List.map_nil];rw[List.set_append_right _ _ (by simp only[List.length_map,List.length_take];omega)];simp[Nat.min_eq_left (Nat.le_of_lt hi)]
theorem Lw.Ct {st:List Int}{R:List (Ln×Int)}{i:Nat}(hi:i<R.length):(Lw.part st R i).getD i .z=(R.getD i (.z,0)).1:=by unfold Lw.part;rw[ai,List.getElem?_append_right (by simp only[List.length_map,List.length_take];omega)];rw[ai,aj hi];simp[Nat.min_eq_left (Nat.le_of_lt hi),aj hi]
theorem Lw.BB {f:Fn}{i:Nat}(hi:i<f.l.toNat):(Lw.first f).take (i+1)=(Lw.first f).take i++[(⟨1,f.a+(i:Int),0,0,0,[]⟩,-1)]:=by rw[List.take_add_one];congr 1;unfold Lw.first;simp[hi]
theorem Lw.Ez (f:Fn):(Lw.first f).length=f.l.toNat:=by unfold Lw.first;simp
theorem MI {p:Prop}(h:Hid p):p:=h
theorem kr {W:World}{n₀ n₁:Nat}{e k:Nat}{v:Value}{n:Nat}{xs:List Value}(h:W.ownsRow n₁ e k v n xs)(hn:n₀<=n₁):W.ownsRow n₀ e k v n xs:=by refine⟨h.1,?_⟩;rcases h.2 with h'|⟨g',cap',cur,h',hb,r⟩;{exact .inl h'};exact .inr ⟨g',cap',cur,h',Nat.le_trans hn hb,r⟩
theorem MK.other {c:LX}{W0 W W':World}{v vg:Value}{out:List (Ln×Int)}{P:Nat->Prop}{row:Option Nat}(h:MK c W0 W v vg out P)(hW:W0.heap.size<=c.B)(hg:W.grownBy W' row)(hr:∀g,row=some g->c.B+1<=g/\v.ownBlock≠some g/\vg.ownBlock≠some g/\¬P g):MK c W0 W' v vg out P:=by obtain⟨vs,h1,h2,h3,h4⟩:=h.row;refine⟨bq h.bQ hg (fun g e=>by have:=(hr g e).1;omega),h.box.eP hg (fun e=>by have:=(hr _ e).1;omega),Nat.le_trans h.sz hg.size,⟨vs,cZ h1 hg (fun g e e2=>(hr g e2).2.1 e),h2,h3.eP hg (fun j hj g e e2=>(hr g e2).2.2.2 (h4 j hj g e).2),h4⟩,cZ h.zX hg (fun g e e2=>(hr g e2).2.2.1 e)⟩
theorem MK.tight {c:LX}{W0 W:World}{v vg:Value}{out:List (Ln×Int)}{P:Nat->Prop}(h:MK c W0 W v vg out P):MK c W0 W v vg out (fun g=>P g/\g<W.heap.size):=by obtain⟨vs,h1,h2,h3,h4⟩:=h.row;exact⟨h.bQ,h.box,h.sz,⟨vs,h1,h2,h3,fun j hj g e=>⟨(h4 j hj g e).1,(h4 j hj g e).2,(aV (h3 j hj).2.2.2.2.2 e).2⟩⟩,h.zX⟩
structure PK (c:LX)(W0 W:World)(v vg sv:Value)(R:List (Ln×Int))(st:List Int)(i:Nat):Prop where
 bQ:Below W0.heap.size W0 W
 box:bG W c.B (c.jK v vg)
 sz:c.B+1<=W.heap.size
 row:∃vs:List Lv,W.ownsRow (c.B+1) 41 6 v R.length (dG vs)/\vs.length=R.length/\jL W (c.B+1) R.length vs (Lw.part st R i)
 zX:OI W (c.B+1) vg (R.map (·.2))
 UT:OI W (c.B+1) sv st
theorem PK.of {c:LX}{W0 W:World}{v vg sv:Value}{R:List (Ln×Int)}{st:List Int}{P:Nat->Prop}(h:MK c W0 W v vg R P)(hs:OI W (c.B+1) sv st):PK c W0 W v vg sv R st 0:=by obtain⟨vs,h1,h2,h3,-⟩:=h.row;exact⟨h.bQ,h.box,h.sz,⟨vs,h1,h2,h3⟩,h.zX,hs⟩
theorem PK.kept {c:LX}{W0 W W':World}{v vg sv:Value}{R:List (Ln×Int)}{st:List Int}{i:Nat}(h:PK c W0 W v vg sv R st i)(hB:Below W.heap.size W W'):PK c W0 W' v vg sv R st i:=by obtain⟨vs,h1,h2,h3⟩:=h.row;exact⟨h.bQ.trans (hB.mono h.bQ.size),h.box.kept hB,Nat.le_trans h.sz hB.size,⟨vs,aG h1 hB,h2,h3.kept hB⟩,h.zX.kept hB,h.UT.kept hB⟩
theorem PK.skip {c:LX}{W0 W:World}{v vg sv:Value}{R:List (Ln×Int)}{st:List Int}{i:Nat}(h:PK c W0 W v vg sv R st i)(hi:i<R.length)(hn:(R.getD i (.z,0)).2<0):PK c W0 W v vg sv R st (i+1):=by have e:Lw.part st R (i+1)=Lw.part st R i:=by{rw[Lw.wD hi,Lw.fJ,ay (by omega),←Lw.Ct (st:=st) hi];apply List.ext_getElem?;intro j;rw[List.getElem?_set];split;{rename_i e;subst e;have hl:i<(Lw.part st R i).length:=by{rw[Lw.zH];exact hi};rw[az hl,ai,aj hl];rfl};rfl};obtain⟨vs,h1,h2,h3⟩:=h.row;exact⟨h.bQ,h.box,h.sz,⟨vs,h1,h2,by rw[e];exact h3⟩,h.zX,h.UT⟩
theorem PK.fill {c:LX}{W0 W:World}{g cv:Nat}{vg sv:Value}{R:List (Ln×Int)}{st:List Int}{i:Nat}(h:PK c W0 W (.slice (some ⟨g,0,none⟩) R.length cv) vg sv R st i)(hW:W0.heap.size<=c.B)(hi:i<R.length)(hn:0<=(R.getD i (.z,0)).2):PK c W0 (W.setCell ⟨g,i*6+4,none⟩ (.int .i64 (st.getD (R.getD i (.z,0)).2.toNat 0))) (.slice (some ⟨g,0,none⟩) R.length cv) vg sv R st (i+1):=by obtain⟨vs,h1,h2,h3⟩:=h.row;have hg:c.B+1<=g/\g<W.heap.size:=aV h1 rfl;have hst:=h1.stored (i*6+4) (.int .i64 (st.getD (R.getD i (.z,0)).2.toNat 0));have gs:=hst.2;have hint:2≠41:=by{decide};have hgs:∀{u:Value}{xs:List Int},OI W (c.B+1) u xs->OI (W.setCell ⟨g,i*6+4,none⟩ (.int .i64 (st.getD (R.getD i (.z,0)).2.toNat 0))) (c.B+1) u xs:=fun{u xs} hu=>cZ hu gs (fun g' e e2=>dD hu h1 hint e e2);refine⟨bq h.bQ gs (fun g' e=>by cases e;omega),h.box.eP gs (fun e=>by cases e;omega),Nat.le_trans h.sz gs.size,⟨vs.set i ((vs.getD i fM).1,(vs.getD i fM).2.1,(vs.getD i fM).2.2.1,(vs.getD i fM).2.2.2.1,st.getD (R.getD i (.z,0)).2.toNat 0,(vs.getD i fM).2.2.2.2.2),?_,by simp[h2],fun j hj=>?_⟩,hgs h.zX,hgs h.UT⟩;{rw[sU vs i _ (by omega)];exact hst.1};obtain⟨t0,t1,t2,t3,t4,t5⟩:=h3 j hj;rw[Lw.wD hi];by_cases e:j=i;{subst e;have e1:(vs.set j ((vs.getD j fM).1,(vs.getD j fM).2.1,(vs.getD j fM).2.2.1,(vs.getD j fM).2.2.2.1,st.getD (R.getD j (.z,0)).2.toNat 0,(vs.getD j fM).2.2.2.2.2)).getD j fM=((vs.getD j fM).1,(vs.getD j fM).2.1,(vs.getD j fM).2.2.1,(vs.getD j fM).2.2.2.1,st.getD (R.getD j (.z,0)).2.toNat 0,(vs.getD j fM).2.2.2.2.2):=by{rw[ai,List.getElem?_set_self (by omega)];rfl};have e2:((Lw.part st R j).set j (Lw.fJ st (R.getD j (.z,0)))).getD j .z=Lw.fJ st (R.getD j (.z,0)):=by{rw[ai,List.getElem?_set_self (by rw[Lw.zH];exact hi)];rfl};rw[e1,e2,Lw.fJ,az hn];rw[Lw.Ct hi]at t0 t1 t2 t3 t5;exact⟨t0,t1,t2,t3,rfl,hgs t5⟩};have e1:(vs.set i ((vs.getD i fM).1,(vs.getD i fM).2.1,(vs.getD i fM).2.2.1,(vs.getD i fM).2.2.2.1,st.getD (R.getD i (.z,0)).2.toNat 0,(vs.getD i fM).2.2.2.2.2)).getD j fM=vs.getD j fM:=by{rw[ai,List.getElem?_set_ne (by omega),←ai]};have e2:((Lw.part st R i).set i (Lw.fJ st (R.getD i (.z,0)))).getD j .z=(Lw.part st R i).getD j .z:=by{rw[ai,List.getElem?_set_ne (by omega),←ai]};rw[e1,e2];exact⟨t0,t1,t2,t3,t4,hgs t5⟩
theorem lL (a:Option Addr) (len cap:Nat) (fs:List Fn) (d:ByteArray) (hv:Hg.valid fs d=true) (k:Nat) (hk:k<len) (w:World) (hs:FL w a len fs):Calls Tryz.prog 37 #[.agg #[.slice a len cap, .string d], .int .i64 k] w fun e w'=>∃v,e= .returned v/\tK w' w.heap.size v (Lw.func fs (Mn.fn fs k) (aF.ends (Mn.fn fs k).b) (aF.aS (Mn.fn fs k).b) (Mn.kU fs k))/\Below w.heap.size w w':=by
 have hl:=hs.1
 have V:=Mn.kW hv
 obtain⟨Kv,mo,hres⟩:=Lw.BD hv (k:=k) (by omega)
 have hA:=V.acc k (by omega)
 have fG:=Lw.Ll hres
 have yA:=Mn.nK V (k:=k) (by omega)
 have hall:St.bi (Mn.fn fs k).b=true:=by have:=Md.aT V.all (j:=k) (by omega);simp only[Md.iW,ax]at this;exact this.2.2.2.2
 have hl4:len<=4:=by have:=V.len.2;omega
 obtain⟨F,hF⟩:∃F,Mn.fn fs k=F:=⟨_,rfl⟩
 obtain⟨H,hH⟩:∃H,Mn.kU fs k=H:=⟨_,rfl⟩
 obtain⟨E,hE⟩:∃E,aF.ends F.b=E:=⟨_,rfl⟩
 obtain⟨O,hO⟩:∃O,aF.aS F.b=O:=⟨_,rfl⟩
 rw[hF,hH]at hres
 rw[hF]at fG yA hall
 rw[hF,hH]at hA
 rw[hE,hO]at hA
 rw[hF,hH,hE,hO]
 have Ce:(k:Int)<(len:Int):=by omega
 have hB1:=aB w (.cells #[.slice a len cap, .string d] 26)
 have hM1:ny (w.alloc (.cells #[.slice a len cap, .string d] 26)) w.heap.size 26 [.slice a len cap, .string d]:=heap_alloc_last w _
 obtain⟨W1,hW1⟩:∃X,w.alloc (.cells #[.slice a len cap, .string d] 26)=X:=⟨_,rfl⟩
 rw[hW1]at hB1 hM1
 have hs1:=hs.kept hB1
 have hcell:∃b off,a=some ⟨b,off,none⟩/\∃ba bl bc,W1.cell? ⟨b,off+k*4,none⟩=some (.int .i64 F.a)/\W1.cell? ⟨b,off+k*4+1,none⟩=some (.int .i64 F.l)/\W1.cell? ⟨b,off+k*4+2,none⟩=some (.int .i64 F.g)/\W1.cell? ⟨b,off+k*4+3,none⟩=some (.slice ba bl bc)/\SL W1 ba bl F.b:=by obtain⟨-,-,h0|⟨b,off,e,hb,hx⟩⟩:=hs1;{omega};obtain⟨x0,x1,x2,ba,bl,bc,x3,hsl⟩:=hx k hk;have e2:fs.getD k .z=F:=hF;rw[e2]at x0 x1 x2 hsl;exact⟨b,off,e,ba,bl,bc,x0,x1,x2,x3,hsl⟩
 obtain⟨fb,fo,rfl,ba,bl,bc,x0,x1,x2,x3,hsl⟩:=hcell
 have hbl:F.b.length=bl:=hsl.1
 subst hbl
 have m0:=hM1.cell (j:=0) rfl
 have hB2:=aB W1 (.cells #[.int .i64 F.a, .int .i64 F.l, .int .i64 F.g, .slice ba F.b.length bc] 33)
 have hF2:ny (W1.alloc (.cells #[.int .i64 F.a, .int .i64 F.l, .int .i64 F.g, .slice ba F.b.length bc] 33)) W1.heap.size 33 [.int .i64 F.a, .int .i64 F.l, .int .i64 F.g, .slice ba F.b.length bc]:=heap_alloc_last W1 _
 obtain⟨W2,hW2⟩:∃X,W1.alloc (.cells #[.int .i64 F.a, .int .i64 F.l, .int .i64 F.g, .slice ba F.b.length bc] 33)=X:=⟨_,rfl⟩
 rw[hW2]at hB2 hF2
 have hM2:=hM1.kept hB2
 have n0:=hM2.cell (j:=0) rfl
 have n1:=hM2.cell (j:=1) rfl
 have lV:=hB1.trans (hB2.mono hB1.size)
 have nM:=l7 (some ⟨fb,fo,none⟩) len cap fs d k hk Kv W2 (hs1.kept hB2)
 have e2:fs.getD k .z=F:=hF
 rw[e2,hres]at nM
 go_enter Tryz.func37,Tryz.ntmps37
 go_wp2_with fail
 refine nM.mono ?_
 rintro e w3 ⟨v3,mo3,rfl,ho3,hB3⟩
 dsimp only
 obtain⟨ho3,-⟩:=ho3 H mo rfl
 obtain⟨ha,hc,rfl,-⟩:=ho3.slice
 have NG:H.length=F.b.length:=hA.lH
 have LU:=hF2.kept hB3
 have f3:=LU.cell (j:=3) rfl
 have fw:=(hsl.kept hB2).kept hB3
 have bu:=qL ba F.b.length bc F.b (by omega) w3 fw
 rw[fG,hE,hO]at bu
 clear nM x0 x1 x2 x3 m0 n0 n1
 go_wp2_with fail
 refine bu.mono ?_
 rintro e w4 ⟨gE,cE,gO,cO,rfl,hEO,hB4⟩
 dsimp only
 obtain⟨NQ,LQ⟩:=hEO trivial
 have Kw:=LU.kept hB4
 have f0:=Kw.cell (j:=0) rfl
 have f1:=Kw.cell (j:=1) rfl
 have f2:=Kw.cell (j:=2) rfl
 have f3':=Kw.cell (j:=3) rfl
 have dP:=aB w4 (.cells #[.slice none 0 0, .slice none 0 0, .int .i64 (F.a+F.l), .slice ha F.b.length hc, .slice (some ⟨gE,0,none⟩) F.b.length cE, .slice ba F.b.length bc, .int .i64 F.g] 100)
 have hbx:bG (w4.alloc (.cells #[.slice none 0 0, .slice none 0 0, .int .i64 (F.a+F.l), .slice ha F.b.length hc, .slice (some ⟨gE,0,none⟩) F.b.length cE, .slice ba F.b.length bc, .int .i64 F.g] 100)) w4.heap.size [.slice none 0 0, .slice none 0 0, .int .i64 (F.a+F.l), .slice ha F.b.length hc, .slice (some ⟨gE,0,none⟩) F.b.length cE, .slice ba F.b.length bc, .int .i64 F.g]:=bG.new w4 _ _
 have hz5:w4.heap.size+1<=(w4.alloc (.cells #[.slice none 0 0, .slice none 0 0, .int .i64 (F.a+F.l), .slice ha F.b.length hc, .slice (some ⟨gE,0,none⟩) F.b.length cE, .slice ba F.b.length bc, .int .i64 F.g] 100)).heap.size:=by simp
 obtain⟨W5,hW5⟩:∃X,w4.alloc (.cells #[.slice none 0 0, .slice none 0 0, .int .i64 (F.a+F.l), .slice ha F.b.length hc, .slice (some ⟨gE,0,none⟩) F.b.length cE, .slice ba F.b.length bc, .int .i64 F.g] 100)=X:=⟨_,rfl⟩
 rw[hW5]at dP hbx hz5
 rw[NG]at ho3
 have NR:=hB3.trans (hB4.mono hB3.size)
 have UU:IL w4 ha F.b.length H:=((OI.il ho3).2).kept hB4
 have UW:IL w4 (some ⟨gE,0,none⟩) F.b.length E:=(OI.il NQ).2
 have UX:IL w4 (some ⟨gO,0,none⟩) F.b.length O:=(OI.il LQ).2
 have EM:=fw.kept hB4
 have hs4:=((hs1.kept hB2).kept hB3).kept hB4
 have T:TX (⟨w4.heap.size,ha,hc,some ⟨gE,0,none⟩,cE,ba,bc,fs,F,E,O,H⟩:LX) w4:=⟨Nat.le_refl _,UU,UW,EM,hA,yA,hall,V⟩
 have K5:MK (⟨w4.heap.size,ha,hc,some ⟨gE,0,none⟩,cE,ba,bc,fs,F,E,O,H⟩:LX) w4 W5 (.slice none 0 0) (.slice none 0 0) [] (fun _=>False):=⟨dP,hbx,hz5,⟨[],World.ownsRow_nil _ _ _ _,rfl,fun j hj=>by simp at hj,fun j hj=>by simp at hj⟩,OI.nil _ _⟩
 have HM4:=hM2.kept NR
 have hBw:=lV.trans (NR.mono lV.size)
 have g0:=(Kw.kept dP).cell (j:=0) rfl
 obtain⟨ln,hln⟩:=Int.eq_ofNat_of_zero_le yA.2.2.1
 have UY:F.l.toNat=ln:=by omega
 have HC:=af (au T (au K5 (au Kw (au HM4 (au hBw (au hs4 (au UX (au UY hln))))))))
 have hF5:-1<=F.a/\F.a<=3:=by omega
 have hl5:-1<=F.l/\F.l<=3:=by omega
 have agR:=yA.2.2.2.2.2
 have Km:=yA.2.2.2.2.1
 clear bu f3 hbx hz5 dP UU UW UX EM hs4 T K5 HM4 hBw NR Kw LU fw hF2 hM2 hM1 ho3 NQ LQ hB3 hB4 hB2 lV hB1 hs1 hs hsl hall fG hres Kv hv V hA yA e2 hF hH hE hO hln UY hEO
 go_wp2
 go_loopw [13] (fun vi wr=>∃(i:Nat)(v vg:Value),vi= .int .i64 (F.a+(i:Int))/\i<=ln/\MK (⟨w4.heap.size,ha,hc,some ⟨gE,0,none⟩,cE,ba,bc,fs,F,E,O,H⟩:LX) w4 wr v vg ((Lw.first F).take i) (fun _=>False)) (fun vi _=>(F.a+F.l-intOf vi).toNat)
 case atStart=>exact⟨0,_,_,by simp,Nat.zero_le _,HC.out.2.1⟩
 case round=>
  obtain⟨i,v,vg,rfl,hi,K⟩:=hrel
  have hll:=HC.out.2.2.2.2.2.2.2.2
  have q2:wr.cell? ⟨w4.heap.size,2,none⟩=some (.int .i64 (F.a+F.l)):=(K.box.2 2 _ rfl).1
  have hlB:w4.heap.size<wr.heap.size:=K.sz
  by_cases hlt:i<ln
  · have ja:F.a+(i:Int)<F.a+F.l:=by{omega};have hfl:((Lw.first F).take i).length<=1000:=by{rw[List.length_take];omega};have hadd:=aQ (⟨w4.heap.size,ha,hc,some ⟨gE,0,none⟩,cE,ba,bc,fs,F,E,O,H⟩:LX) w4 wr v vg ((Lw.first F).take i) (fun _=>False) (Nat.le_refl _) K ⟨1,F.a+(i:Int),0,0,0,[]⟩ none 0 0 (OI.nil _ _) (fun g e=>by cases e) (-1) hfl;have HFM:=af (Lw.BB (f:=F) (i:=i) (by rw[HC.out.2.2.2.2.2.2.2.1];exact hlt));clear K hfl hll;go_wp2_with fail;refine hadd.mono ?_;rintro e X1 ⟨v1,jG,rfl,K1,-⟩;dsimp only;rw[←HFM.out]at K1;clear hadd q2;go_wp2;go_roundw;(case rel=>exact⟨i+1,v1,jG,by simp;omega,hlt,K1⟩);case measure=>simp[intOf];omega
  · have hie:i=ln:=by omega
    have ja:¬F.a+(i:Int)<F.a+F.l:=by omega
    have K2:MK (⟨w4.heap.size,ha,hc,some ⟨gE,0,none⟩,cE,ba,bc,fs,F,E,O,H⟩:LX) w4 wr v vg (Lw.df fs F E O H 0).1 (fun _=>False):=by have e:(Lw.first F).take i=Lw.first F:=List.take_of_length_le (by rw[Lw.Ez,HC.out.2.2.2.2.2.2.2.1];omega);rw[e]at K;exact K
    have LV:=HC.out.2.2.1.kept K2.bQ
    have r3:=LV.cell (j:=3) rfl
    have tT:=aB wr (.cells #[] 2)
    have HK:=af (K2.kept tT)
    have HO:Hid (OI (wr.alloc (.cells #[] 2)) (w4.heap.size+1) (.slice (some ⟨wr.heap.size,0,none⟩) 0 0) []):=OI.mono (OI.empty wr) hlB
    have gN:Hid (∀g,(Value.slice (some ⟨wr.heap.size,0,none⟩) 0 0).ownBlock=some g->v.ownBlock≠some g/\vg.ownBlock≠some g/\¬False):=fun g e=>by simp only[Value.ownBlock,ah]at e;subst e;obtain⟨vs,h1,-⟩:=K2.row;exact⟨fun e=>by have:=(aV h1 e).2;omega,fun e=>by have:=(aV K2.zX e).2;omega,fun h=>h⟩
    have r3':=(LV.kept tT).cell (j:=3) rfl
    clear K K2 tT LV hie hll
    go_wp2
    clear q2 r3 r3'
    go_loopw [14,15] (fun vs vi wx=>∃(i:Nat)(v vg sv:Value)(P:Nat->Prop),vs=sv/\vi= .int .i64 (i:Int)/\i<=F.b.length/\MK (⟨w4.heap.size,ha,hc,some ⟨gE,0,none⟩,cE,ba,bc,fs,F,E,O,H⟩:LX) w4 wx v vg (Lw.df fs F E O H i).1 P/\OI wx (w4.heap.size+1) sv (Lw.df fs F E O H i).2/\(∀g,sv.ownBlock=some g->v.ownBlock≠some g/\vg.ownBlock≠some g/\¬P g)/\(∀g,P g->g<wx.heap.size)) (fun _ vi _=>F.b.length-(intOf vi).toNat)
    case atStart=>exact⟨0,v,vg,_,_,rfl,rfl,Nat.zero_le _,HK.out,HO.out,gN.out,fun g h=>h.elim⟩
    case round=>
     obtain⟨i2,v2,wI,sv,P,hse,rfl,hi2,K,hsv,hap,hPb⟩:=hrel
     have abd:=hse.symm
     clear hse
     subst abd
     clear HK HO gN
     obtain⟨j0,hj,hy0,hy1,hy2⟩:=info_parts dA
     have LV:=HC.out.2.2.1.kept K.bQ
     have r3:=LV.cell (j:=3) rfl
     have agT:w4.heap.size<wr.heap.size:=K.sz
     have tX:=Lw.iG fs F E O H i2
     have abe:=HC.out.2.2.2.2.2.2.2.1
     by_cases hlt:i2<F.b.length
     · have ja:(i2:Int)<(F.b.length:Int):=by{omega};obtain⟨vs,hrow,-⟩:=K.row;obtain⟨va,vc,rfl⟩:=bf hrow;have q0:wr.cell? ⟨w4.heap.size,0,none⟩=some (.slice va (Lw.df fs F E O H i2).1.length vc):=(K.box.2 0 _ rfl).1;have NS:wr.ownsRow (w4.heap.size+1) 2 1 sv i2 ((Lw.df fs F E O H i2).2.map iv):=by{unfold OI at hsv;rwa [tX.2]at hsv};obtain⟨sa,sc,rfl⟩:=bf NS;obtain⟨un,hun⟩:∃un,(Lw.df fs F E O H i2).1.length=un:=⟨_,rfl⟩;have tT:=aB wr (.cells #[.int .i64 (un:Int)] 2);have Jb:=af (aG NS tT);have WM:=af (K.kept tT);have abf:un<=900:=by{omega};have Ia:=af (au hun tX.2);have gN:=af hap;have HPB:=af hPb;rw[hun]at q0;have WN:∃b o,ha=some ⟨b,o,none⟩/\b<w4.heap.size/\w4.cell? ⟨b,o+i2,none⟩=some (.int .i64 (H.getD i2 0)):=by{obtain⟨hl,-,h3|⟨b,o,e,hb,hh⟩⟩:=HC.out.1.hH;{have:F.b.length=0:=h3;omega};exact⟨b,o,e,hb,hh i2 hlt⟩};obtain⟨hb',ho',rfl,lH,WN⟩:=WN;have HHC:Hid (∀X:World,Below w4.heap.size w4 X->X.cell? ⟨hb',ho'+i2,none⟩=some (.int .i64 (H.getD i2 0))):=fun X hX=>(hX.cell (p:=⟨hb',ho'+i2,none⟩) lH).trans WN;obtain⟨u,hu⟩:∃u,H.getD i2 0=u:=⟨_,rfl⟩;have HU:=af hu;rw[hu]at HHC;have Cg:=K.sz;have abg:=tT.size;clear K hsv NS hap hPb hrow LV hun tX WN hu tT abe;go_wp2_with(at_builtin;refine wpList_append_own_at _ rfl _ _ 39 rfl (w4.heap.size+1) 2 j0 (.int .i64 0) 1 8 Tryz.underlying39 hj hy0 hy1 hy2 rfl (by decide) (.slice sa i2 sc) i2 _ rfl Jb.out ⟨wr.heap.size,0,none⟩ 1 1 [.int .i64 (un:Int)] rfl rfl (cell_one_new _ _ _) (by simp[Value.oneCell']) (by simp only[maxLen];omega) (by omega) (by simp;omega) ?_;intro sv' wB hown2 hgrow2 _ mO;obtain⟨g2,cap2,rfl⟩:=ownsRow_succ hown2;have KB:=WM.out.other (Nat.le_refl _) hgrow2 (fun g e=>⟨(aV Jb.out e).1,(gN.out g e).1,(gN.out g e).2.1,(gN.out g e).2.2⟩);have cB:=HHC.out wB KB.bQ;have fE:=af (au hown2 (au hgrow2 (au mO KB)));have m0:=(HC.out.2.2.2.1.kept KB.bQ).cell (j:=0) rfl;have m1:=(HC.out.2.2.2.1.kept KB.bQ).cell (j:=1) rfl;clear hown2 hgrow2 mO KB;refine MI ?_);unfold Hid;obtain⟨o1,o2,o3,KB⟩:=fE.out;have Ky:Hid (∀g,(Value.slice (some ⟨g2,0,none⟩) (i2+1) cap2).ownBlock=some g->Value.ownBlock (.slice va un vc)≠some g/\wI.ownBlock≠some g/\¬P g/\g<wB.heap.size):=fun g e=>by{have hlt2:=(aV o1 e).2;rcases o3 with e'|e';{rw[e']at e;have:=gN.out g e;rw[Ia.out.1]at this;exact⟨this.1,this.2.1,this.2.2,hlt2⟩};rw[e']at e;simp only[ah]at e;obtain⟨vs',hr',-⟩:=WM.out.row;rw[Ia.out.1]at hr';have hgg:=(aV hr' (g:=g));have hgo:=fun e2=>(aV WM.out.zX (g:=g) e2).2;refine⟨fun e2=>by have:=(hgg e2).2;omega,fun e2=>by have:=hgo e2;omega,fun h=>by have:=HPB.out g h;simp only[World.size_alloc]at e;omega,hlt2⟩};rw[Ia.out.1]at KB;have NL:Hid (OI wB (w4.heap.size+1) (.slice (some ⟨g2,0,none⟩) (i2+1) cap2) ((Lw.df fs F E O H i2).2++[(un:Int)])):=by{show World.ownsRow _ _ _ _ _ _ _;rw[List.length_append,Ia.out.2,List.length_singleton,List.map_append];exact o1};have LJ:=af KB;have HSZ:Hid (wr.heap.size<=wB.heap.size):=Nat.le_trans abg o2.size;clear o1 o2 o3 KB fE Jb WM gN;by_cases hu0:0<=u;{have hcon:=wR HC.out.1 LJ.out (some ⟨fb,fo,none⟩) len cap d (some ⟨gO,0,none⟩) cO HC.out.2.2.2.2.2.1 HC.out.2.2.2.2.2.2.1 i2 hlt (by show 0<=H.getD i2 0;rw[HU.out];exact hu0) (by rw[Ia.out.1];exact abf);go_wp2_with fail;refine hcon.mono ?_;rintro e X1 ⟨v3,Kl,rfl,K3,F3⟩;dsimp only;have HK3:=af (au K3.tight F3);clear hcon K3 F3 m0 m1 cB;go_wp2;go_roundw;(case rel=>obtain⟨K3,F3⟩:=HK3.out;refine⟨i2+1,v3,Kl,_,(fun g=>(P g\/wB.heap.size<=g)/\g<X1.heap.size),rfl,by simp,hlt,?_,?_,fun g e=>?_,fun g h=>h.2⟩;{show MK _ _ _ _ _ ((Lw.df fs F E O H i2).1++(if 0<=H.getD i2 0 then Lw.step fs F E O H i2 else[])) _;rw[az (by rw[HU.out];exact hu0)];exact K3};{show OI _ _ _ ((Lw.df fs F E O H i2).2++[((Lw.df fs F E O H i2).1.length:Int)]);rw[Ia.out.1];exact F3.rows NL.out (fun g e=>⟨by have:=(aV NL.out e).1;show g≠w4.heap.size;omega,(Ky.out g e).1,(Ky.out g e).2.1⟩)};have h2:=Ky.out g e;refine⟨?_,?_,fun h=>?_⟩;{rcases F3.v1 with e'|⟨g',e',hg'⟩;{rw[e'];exact h2.1};rw[e'];simp only[ne_eq,ah];omega};{rcases F3.g1 with e'|⟨g',e',hg'⟩;{rw[e'];exact h2.2.1};rw[e'];simp only[ne_eq,ah];omega};rcases h.1 with h'|h';{exact h2.2.2.1 h'};omega);case measure=>simp[intOf];omega};clear m0 m1;go_wp2;go_roundw;(case rel=>refine⟨i2+1, .slice va un vc,wI,_,P,rfl,by simp,hlt,?_,?_,fun g e=>?_,fun g h=>?_⟩;{show MK _ _ _ _ _ ((Lw.df fs F E O H i2).1++(if 0<=H.getD i2 0 then Lw.step fs F E O H i2 else[])) _;rw[ay (by rw[HU.out];exact hu0),List.append_nil];exact LJ.out};{show OI _ _ _ ((Lw.df fs F E O H i2).2++[((Lw.df fs F E O H i2).1.length:Int)]);rw[Ia.out.1];exact NL.out};{have h2:=Ky.out g e;exact⟨h2.1,h2.2.1,h2.2.2.1⟩};have:=HPB.out g h;have:=HSZ.out;omega);case measure=>simp[intOf];omega
     · have NT:i2=F.b.length:=by omega
       have ja:¬(i2:Int)<(F.b.length:Int):=by omega
       have r2:=LV.cell (j:=2) rfl
       have q2:wr.cell? ⟨w4.heap.size,2,none⟩=some (.int .i64 (F.a+F.l)):=(K.box.2 2 _ rfl).1
       have WO:MK (⟨w4.heap.size,ha,hc,some ⟨gE,0,none⟩,cE,ba,bc,fs,F,E,O,H⟩:LX) w4 wr v2 wI (Lw.df fs F E O H F.b.length).1 P:=by rw[←NT];exact K
       have NU:OI wr (w4.heap.size+1) sv (Lw.cu fs F E O H):=by unfold Lw.cu;rw[←NT];exact hsv
       have abj:=Lw.iG fs F E O H F.b.length
       have hRG:=af (Lw.zO HC.out.1.acc)
       have HRW:Hid (Lw.raw fs F E O H=(Lw.df fs F E O H F.b.length).1++Lw.last F):=rfl
       have UZ:Hid ((Lw.cu fs F E O H).length=F.b.length):=abj.2
       have Kz:Hid (∀(XX:World)(vx KA:Value),MK (⟨w4.heap.size,ha,hc,some ⟨gE,0,none⟩,cE,ba,bc,fs,F,E,O,H⟩:LX) w4 XX vx KA (Lw.raw fs F E O H) P->FX (⟨w4.heap.size,ha,hc,some ⟨gE,0,none⟩,cE,ba,bc,fs,F,E,O,H⟩:LX) v2 wI vx KA wr XX->OI XX (w4.heap.size+1) sv (Lw.cu fs F E O H)):=fun XX vx KA hK hX=>hX.rows NU (fun g e=>⟨by have:=(aV NU e).1;show g≠w4.heap.size;omega,(hap g e).1,(hap g e).2.1⟩)
       obtain⟨R,hR⟩:∃R,Lw.raw fs F E O H=R:=⟨_,rfl⟩
       obtain⟨st,hst⟩:∃st,Lw.cu fs F E O H=st:=⟨_,rfl⟩
       have HFN:Hid (Lw.func fs F E O H=if R.length<=300 then R.map (Lw.fJ st)else[]):=by show _=_;unfold Lw.func;rw[hR,hst]
       have hRl:R.length<=1000:=by rw[←hR,HRW.out,List.length_append];(have:(Lw.last F).length<=2:=by unfold Lw.last;split<;>simp);omega
       rw[hR]at hRG HRW Kz
       rw[hst]at UZ Kz
       clear K hsv LV NU tX NT hR hst hap
       have WQ:Hid (∀(XX:World)(vx KA:Value),MK (⟨w4.heap.size,ha,hc,some ⟨gE,0,none⟩,cE,ba,bc,fs,F,E,O,H⟩:LX) w4 XX vx KA R P->FX (⟨w4.heap.size,ha,hc,some ⟨gE,0,none⟩,cE,ba,bc,fs,F,E,O,H⟩:LX) v2 wI vx KA wr XX->PK (⟨w4.heap.size,ha,hc,some ⟨gE,0,none⟩,cE,ba,bc,fs,F,E,O,H⟩:LX) w4 XX vx KA sv R st 0):=fun XX vx KA hK hX=>PK.of hK (Kz.out XX vx KA hK hX)
       clear Kz
       rcases Km with hg|hg
       case' inl=>
        rw[hg]at r2
        replace HRW:Hid (R=(Lw.df fs F E O H F.b.length).1++[(⟨1,F.a+F.l+20,0,0,0,[]⟩,-1)]++[(⟨10,0,F.a+F.l+20,0,0,[]⟩,-1)]):=by show _=_;rw[HRW.out];unfold Lw.last;rw[az hg,List.append_assoc];rfl
        have Ab:=aQ (⟨w4.heap.size,ha,hc,some ⟨gE,0,none⟩,cE,ba,bc,fs,F,E,O,H⟩:LX) w4 wr v2 wI (Lw.df fs F E O H F.b.length).1 P (Nat.le_refl _) WO ⟨1,F.a+F.l+20,0,0,0,[]⟩ none 0 0 (OI.nil _ _) (fun g e=>by cases e) (-1) (by omega)
        clear WO
        go_wp2_with fail
        refine Ab.mono ?_
        rintro e X1 ⟨v3,Kl,rfl,K3,F3⟩
        dsimp only
        have LW:=aQ (⟨w4.heap.size,ha,hc,some ⟨gE,0,none⟩,cE,ba,bc,fs,F,E,O,H⟩:LX) w4 X1 v3 Kl _ P (Nat.le_refl _) K3 ⟨10,0,F.a+F.l+20,0,0,[]⟩ none 0 0 (OI.nil _ _) (fun g e=>by cases e) (-1) (by rw[List.length_append,List.length_singleton];omega)
        clear Ab r2 q2 r3
        go_wp2_with fail
        refine LW.mono ?_
        rintro e XF ⟨vF,gF,rfl,K4,F4⟩
        dsimp only
        rw[←HRW.out]at K4
        have U0:=af (WQ.out XF vF gF K4 (F3.trans F4))
        clear LW K3 F3 K4 F4 WQ
       case' inr=>
        rw[hg]at r2
        replace HRW:Hid (R=(Lw.df fs F E O H F.b.length).1++[(⟨10,0,F.a+F.l,0,0,[]⟩,-1)]):=by show _=_;rw[HRW.out];unfold Lw.last;rw[ay (by omega)];rfl
        have Ab:=aQ (⟨w4.heap.size,ha,hc,some ⟨gE,0,none⟩,cE,ba,bc,fs,F,E,O,H⟩:LX) w4 wr v2 wI (Lw.df fs F E O H F.b.length).1 P (Nat.le_refl _) WO ⟨10,0,F.a+F.l,0,0,[]⟩ none 0 0 (OI.nil _ _) (fun g e=>by cases e) (-1) (by omega)
        clear WO
        go_wp2_with fail
        refine Ab.mono ?_
        rintro e XF ⟨vF,gF,rfl,K4,F4⟩
        dsimp only
        rw[←HRW.out]at K4
        have U0:=af (WQ.out XF vF gF K4 F4)
        clear Ab r2 q2 r3 K4 F4 WQ
       all_goals have WS:1<=R.length:=by{rw[HRW.out];simp};obtain⟨WT,eD,-⟩:=U0.out.row;obtain⟨gv,cv,rfl⟩:∃gv cv,vF= .slice (some ⟨gv,0,none⟩) R.length cv:=by{rcases eD.2 with⟨-,h0⟩|⟨g',cap',cur,h',-⟩;{omega};exact⟨g',cap',h'⟩};have KC:=U0.out.zX;have EE:=U0.out.UT;unfold OI at KC EE;rw[List.length_map]at KC;rw[UZ.out]at EE;obtain⟨ga,gc,rfl⟩:=bf KC;obtain⟨sa,sc,rfl⟩:=bf EE;clear eD KC EE;have hRZ:(R.length:Int)<=1000:=by{omega};go_wp2;go_loopw [17] (fun vi wx=>∃i:Nat,vi= .int .i64 (i:Int)/\i<=R.length/\PK (⟨w4.heap.size,ha,hc,some ⟨gE,0,none⟩,cE,ba,bc,fs,F,E,O,H⟩:LX) w4 wx (.slice (some ⟨gv,0,none⟩) R.length cv) (.slice ga R.length gc) (.slice sa F.b.length sc) R st i) (fun vi _=>R.length-(intOf vi).toNat);(case atStart=>exact⟨0,rfl,Nat.zero_le _,U0.out⟩);case round=>obtain⟨i3,rfl,hi3,hP⟩:=hrel;have q0:wr.cell? ⟨w4.heap.size,0,none⟩=some (.slice (some ⟨gv,0,none⟩) R.length cv):=(hP.box.2 0 _ rfl).1;have q1:wr.cell? ⟨w4.heap.size,1,none⟩=some (.slice ga R.length gc):=(hP.box.2 1 _ rfl).1;have U1:w4.heap.size<wr.heap.size:=hP.sz;by_cases hlt3:i3<R.length;{have U2:(i3:Int)<(R.length:Int):=by{omega};have hmem:R.getD i3 (.z,0)∈R:=by{rw[ai,aj hlt3];exact List.getElem_mem hlt3};have wK:=hRG.out _ hmem;have cG:∃b o,ga=some ⟨b,o,none⟩/\b<wr.heap.size/\wr.cell? ⟨b,o+i3,none⟩=some (.int .i64 (R.getD i3 (.z,0)).2):=by{have hil:=(OI.il hP.zX).2;obtain⟨hl,-,h3|⟨b,o,e,hb,hh⟩⟩:=hil;{omega};refine⟨b,o,e,hb,?_⟩;rw[hh i3 hlt3,ai,ai,List.getElem?_map,aj hlt3];rfl};obtain⟨gb,go,rfl,lG,cG⟩:=cG;obtain⟨tg,U3⟩:∃tg,(R.getD i3 (.z,0)).2=tg:=⟨_,rfl⟩;by_cases ht0:0<=tg;{have cT:∃b o,sa=some ⟨b,o,none⟩/\b<wr.heap.size/\wr.cell? ⟨b,o+tg.toNat,none⟩=some (.int .i64 (st.getD tg.toNat 0)):=by{have hil:=(OI.il hP.UT).2;obtain⟨hl,-,h3|⟨b,o,e,hb,hh⟩⟩:=hil;{omega};exact⟨b,o,e,hb,hh tg.toNat (by omega)⟩};obtain⟨sb,so,rfl,lS,cT⟩:=cT;have Dq:=af (fun(X:World) hX=>PK.fill (hP.kept (W':=X) hX) (Nat.le_refl _) hlt3 (by rw[U3];exact ht0));rw[U3]at Dq cG wK;obtain⟨tn,rfl⟩:=Int.eq_ofNat_of_zero_le ht0;rw[aA]at cT Dq;obtain⟨y,hy⟩:∃y,st.getD tn 0=y:=⟨_,rfl⟩;rw[hy]at cT Dq;have agV:(tn:Int)<(F.b.length:Int):=by{omega};obtain⟨vs1,Dr,abl,-⟩:=hP.row;have hgv:=(aV Dr rfl).2;have g4:=(kC vs1 i3 (by omega)).2.2.2.2.1;have c4:=(Dr.cellAt (i3*6+4) (by omega)).trans g4;have f4:=Dr.frozenAt (i3*6+4);obtain⟨z4,hz4⟩:∃z,(vs1.getD i3 fM).2.2.2.2.1=z:=⟨_,rfl⟩;rw[hz4]at c4;have b0:∀p:dB wr,p.to.cell? ⟨w4.heap.size,0,none⟩=some (.slice (some ⟨gv,0,none⟩) R.length cv):=fun p=>(p.h.cell (p:=⟨w4.heap.size,0,none⟩) U1).trans q0;have b1:∀p:dB wr,p.to.cell? ⟨w4.heap.size,1,none⟩=some (.slice (some ⟨gb,go,none⟩) R.length gc):=fun p=>(p.h.cell (p:=⟨w4.heap.size,1,none⟩) U1).trans q1;have b2:∀p:dB wr,p.to.cell? ⟨gb,go+i3,none⟩=some (.int .i64 (tn:Int)):=fun p=>(p.h.cell (p:=⟨gb,go+i3,none⟩) lG).trans cG;have b3:∀p:dB wr,p.to.cell? ⟨sb,so+tn,none⟩=some (.int .i64 y):=fun p=>(p.h.cell (p:=⟨sb,so+tn,none⟩) lS).trans cT;have HC4:Hid (∀p:dB wr,p.to.cell? ⟨gv,i3*6+4,none⟩=some (.int .i64 z4)/\p.to.frozen? ⟨gv,i3*6+4,none⟩=false):=fun p=>⟨(p.h.cell (p:=⟨gv,i3*6+4,none⟩) hgv).trans c4,(p.h.frozen (p:=⟨gv,i3*6+4,none⟩) hgv).trans f4⟩;have hne:=dB.any wr;clear hP Dr abl c4 f4 g4 hz4 hy U3 hmem cT;go_wp2;refine dV 17 (by kernel_rfl) (by kernel_rfl) ?_;simp only[List.take_succ_cons,List.take_zero,List.drop_succ_cons,List.drop_zero];(repeat(go_big_quiet_step (fail)));refine wpQuiet_nil ?_;rintro _ ⟨pw,rfl⟩;have hc4:=(HC4.out pw).1;have hf4:=(HC4.out pw).2;have HFin:=af (Dq.out _ pw.h);clear b0 b1 b2 b3 hne HC4 Dq q0 q1 cG;obtain⟨X3,hX3⟩:∃X3,pw.to=X3:=⟨_,rfl⟩;rw[hX3]at hc4 hf4 HFin ⊢;clear hX3;go_wp2;go_roundw;(case rel=>exact⟨i3+1,by simp,hlt3,HFin.out⟩);case measure=>simp[intOf];omega};have HFin:=af (hP.skip hlt3 (by omega));rw[U3]at cG;clear hP U3 hmem wK;go_wp2;go_roundw;(case rel=>exact⟨i3+1,by simp,hlt3,HFin.out⟩);case measure=>simp[intOf];omega};have NV:i3=R.length:=by{omega};have U2:¬(i3:Int)<(R.length:Int):=by{omega};have hBf:=HC.out.2.2.2.2.1.trans (hP.bQ.mono HC.out.2.2.2.2.1.size);have hw4:=HC.out.2.2.2.2.1.size;by_cases NW:R.length<=300;{have U4:¬(300:Int)<(R.length:Int):=by{omega};have HF:Hid (tK wr w.heap.size (.slice (some ⟨gv,0,none⟩) R.length cv) (Lw.func fs F E O H)):=by{obtain⟨vs,h1,h2,h3⟩:=hP.row;have e:Lw.part st R i3=R.map (Lw.fJ st):=by{unfold Lw.part;rw[NV,List.take_length,List.drop_length];simp};rw[e]at h3;have eL:(Lw.func fs F E O H).length=R.length:=by{rw[HFN.out,az NW,List.length_map]};refine⟨gv,cv,vs,by rw[eL],?_,?_⟩;{rw[eL];exact kr h1 (by show w.heap.size<=w4.heap.size+1;omega)};rw[eL,HFN.out,az NW];exact h3.mono (by show w.heap.size<=w4.heap.size+1;omega)};clear hP NV;go_wp2;go_ret;exact⟨_,rfl,HF.out,hBf⟩};have U4:(300:Int)<(R.length:Int):=by{omega};have tT:=aB wr (.cells #[] 41);have hBg:=hBf.trans (tT.mono hBf.size);have HF:Hid (tK (wr.alloc (.cells #[] 41)) w.heap.size (.slice (some ⟨wr.heap.size,0,none⟩) 0 0) (Lw.func fs F E O H)):=by{show tK _ _ _ _;rw[HFN.out,ay NW];exact⟨wr.heap.size,0,[],rfl,⟨rfl, .inr ⟨wr.heap.size,0,#[],rfl,by omega,World.alloc_heap_new wr _,Nat.le_refl _,by simp[maxLen],rfl,rfl⟩⟩,fun j hj=>by simp at hj⟩};clear hP NV tT;go_wp2;go_ret;exact⟨_,rfl,HF.out,hBg⟩
end Go.Proofs.YtellfmhljjdjbaaGreatDoor
