/-
  Own texts for a law: Low8 Low9 Dl3 Dl4 Dl5 NxD Hd
-/
import Derived.Test.YtpipjiinmhopmaaGreatMA16
import Derived.Test.YtpipjiinmhopmaaGreatMA22
namespace Go.Proofs.YtpipjiinmhopmaaGreat
open Go.RowKit Go.Shelf
set_option linter.all false
set_option maxRecDepth 100000
set_option maxHeartbeats 16000000
theorem Lw.Pq {fs:List Fn}{d:ByteArray}(h:Hg.valid fs d=true){k:Nat}(hk:k<fs.length):Md.ok fs d=true/\∃mo,Hg.iA fs (Mn.fn fs k)=some (Mn.tq fs k,mo):=by unfold Hg.valid at h;rw[au]at h;refine⟨h.1,?_⟩;have h2:=List.all_eq_true.1 h.2 k (List.mem_range.2 hk);unfold Hg.iy at h2;rw[ay ⟨h.1,by omega,by omega⟩]at h2;simp only[az]at h2;unfold Mn.tq Mn.fn;rcases e:Hg.iA fs (fs.getD k .z)with _|⟨H,mo⟩;{rw[e]at h2;cases h2};exact⟨mo,rfl⟩
theorem Lw.xR {fs:List Fn}{f:Fn}{x:List Int×Int}(h:Hg.iA fs f=some x):aG.isOk f.b=true:=by unfold Hg.iA at h;split at h;{assumption};cases h
def Lw.part (st:List Int)(R:List (Ln×Int))(i:Nat):List Ln:=(R.take i).map (Lw.Kw st)++(R.drop i).map (·.1)
theorem Lw.Bf (st:List Int)(R:List (Ln×Int))(i:Nat):(Lw.part st R i).length=R.length:=by unfold Lw.part;simp only[List.length_append,List.length_map,List.length_take,List.length_drop];omega
theorem Lw.xE {st:List Int}{R:List (Ln×Int)}{i:Nat}(hi:i<R.length):Lw.part st R (i+1)=(Lw.part st R i).set i (Lw.Kw st (R.getD i (.z,0))):=by unfold Lw.part;rw[List.take_add_one,ai hi,ah,ai hi,List.drop_eq_getElem_cons hi];simp only[Option.toList_some,Option.getD_some,List.map_append,List.map_cons,List.map_nil];rw[List.set_append_right _ _ (by simp only[List.length_map,List.length_take];omega)];simp[Nat.min_eq_left (Nat.le_of_lt hi)]
theorem Lw.Er {st:List Int}{R:List (Ln×Int)}{i:Nat}(hi:i<R.length):(Lw.part st R i).getD i .z=(R.getD i (.z,0)).1:=by unfold Lw.part;rw[ah,List.getElem?_append_right (by simp only[List.length_map,List.length_take];omega)];rw[ah,ai hi];simp[Nat.min_eq_left (Nat.le_of_lt hi),ai hi]
theorem Lw.CP {f:Fn}{i:Nat}(hi:i<f.l.toNat):(Lw.first f).take (i+1)=(Lw.first f).take i++[(⟨1,f.a+(i:Int),0,0,0,[]⟩,-1)]:=by rw[List.take_add_one];congr 1;unfold Lw.first;simp[hi]
theorem Lw.Gj (f:Fn):(Lw.first f).length=f.l.toNat:=by unfold Lw.first;simp
theorem PN {p:Prop}(h:Hid p):p:=h
theorem xX {W:World}{n₀ n₁:Nat}{e k:Nat}{v:Value}{n:Nat}{xs:List Value}(h:W.ownsRow n₁ e k v n xs)(hn:n₀<=n₁):W.ownsRow n₀ e k v n xs:=by refine⟨h.1,?_⟩;rcases h.2 with h'|⟨g',cap',cur,h',hb,r⟩;{exact .inl h'};exact .inr ⟨g',cap',cur,h',Nat.le_trans hn hb,r⟩
theorem MK.other {c:LX}{W0 W W':World}{v vg:Value}{out:List (Ln×Int)}{P:Nat->Prop}{row:Option Nat}(h:MK c W0 W v vg out P)(hW:W0.heap.size<=c.B)(hg:W.grownBy W' row)(hr:∀g,row=some g->c.B+1<=g/\v.ownBlock≠some g/\vg.ownBlock≠some g/\¬P g):MK c W0 W' v vg out P:=by obtain⟨vs,h1,h2,h3,h4⟩:=h.row;refine⟨dG h.eZ hg (fun g e=>by have:=(hr g e).1;omega),h.box.bT hg (fun e=>by have:=(hr _ e).1;omega),Nat.le_trans h.sz hg.size,⟨vs,cZ h1 hg (fun g e e2=>(hr g e2).2.1 e),h2,h3.bT hg (fun j hj g e e2=>(hr g e2).2.2.2 (h4 j hj g e).2),h4⟩,cZ h.Cb hg (fun g e e2=>(hr g e2).2.2.1 e)⟩
theorem MK.tight {c:LX}{W0 W:World}{v vg:Value}{out:List (Ln×Int)}{P:Nat->Prop}(h:MK c W0 W v vg out P):MK c W0 W v vg out (fun g=>P g/\g<W.heap.size):=by obtain⟨vs,h1,h2,h3,h4⟩:=h.row;exact⟨h.eZ,h.box,h.sz,⟨vs,h1,h2,h3,fun j hj g e=>⟨(h4 j hj g e).1,(h4 j hj g e).2,(bX (h3 j hj).2.2.2.2.2 e).2⟩⟩,h.Cb⟩
structure PK (c:LX)(W0 W:World)(v vg sv:Value)(R:List (Ln×Int))(st:List Int)(i:Nat):Prop where
 eZ:Below W0.heap.size W0 W
 box:bu W c.B (c.eF v vg)
 sz:c.B+1<=W.heap.size
 row:∃vs:List Lv,W.ownsRow (c.B+1) 67 6 v R.length (bV vs)/\vs.length=R.length/\gy W (c.B+1) R.length vs (Lw.part st R i)
 Cb:OI W (c.B+1) vg (R.map (·.2))
 Yl:OI W (c.B+1) sv st
theorem PK.of {c:LX}{W0 W:World}{v vg sv:Value}{R:List (Ln×Int)}{st:List Int}{P:Nat->Prop}(h:MK c W0 W v vg R P)(hs:OI W (c.B+1) sv st):PK c W0 W v vg sv R st 0:=by obtain⟨vs,h1,h2,h3,-⟩:=h.row;exact⟨h.eZ,h.box,h.sz,⟨vs,h1,h2,h3⟩,h.Cb,hs⟩
theorem PK.kept {c:LX}{W0 W W':World}{v vg sv:Value}{R:List (Ln×Int)}{st:List Int}{i:Nat}(h:PK c W0 W v vg sv R st i)(hB:Below W.heap.size W W'):PK c W0 W' v vg sv R st i:=by obtain⟨vs,h1,h2,h3⟩:=h.row;exact⟨h.eZ.trans (hB.mono h.eZ.size),h.box.kept hB,Nat.le_trans h.sz hB.size,⟨vs,aI h1 hB,h2,h3.kept hB⟩,h.Cb.kept hB,h.Yl.kept hB⟩
theorem PK.skip {c:LX}{W0 W:World}{v vg sv:Value}{R:List (Ln×Int)}{st:List Int}{i:Nat}(h:PK c W0 W v vg sv R st i)(hi:i<R.length)(hn:(R.getD i (.z,0)).2<0):PK c W0 W v vg sv R st (i+1):=by have e:Lw.part st R (i+1)=Lw.part st R i:=by{rw[Lw.xE hi,Lw.Kw,ax (by omega),←Lw.Er (st:=st) hi];apply List.ext_getElem?;intro j;rw[List.getElem?_set];split;{rename_i e;subst e;have hl:i<(Lw.part st R i).length:=by{rw[Lw.Bf];exact hi};rw[ay hl,ah,ai hl];rfl};rfl};obtain⟨vs,h1,h2,h3⟩:=h.row;exact⟨h.eZ,h.box,h.sz,⟨vs,h1,h2,by rw[e];exact h3⟩,h.Cb,h.Yl⟩
theorem PK.fill {c:LX}{W0 W:World}{g cv:Nat}{vg sv:Value}{R:List (Ln×Int)}{st:List Int}{i:Nat}(h:PK c W0 W (.slice (some ⟨g,0,none⟩) R.length cv) vg sv R st i)(hW:W0.heap.size<=c.B)(hi:i<R.length)(hn:0<=(R.getD i (.z,0)).2):PK c W0 (W.setCell ⟨g,i*6+4,none⟩ (.int .i64 (st.getD (R.getD i (.z,0)).2.toNat 0))) (.slice (some ⟨g,0,none⟩) R.length cv) vg sv R st (i+1):=by obtain⟨vs,h1,h2,h3⟩:=h.row;have hg:c.B+1<=g/\g<W.heap.size:=bX h1 rfl;have hst:=h1.stored (i*6+4) (.int .i64 (st.getD (R.getD i (.z,0)).2.toNat 0));have gs:=hst.2;have hint:2≠67:=by{decide};have hgs:∀{u:Value}{xs:List Int},OI W (c.B+1) u xs->OI (W.setCell ⟨g,i*6+4,none⟩ (.int .i64 (st.getD (R.getD i (.z,0)).2.toNat 0))) (c.B+1) u xs:=fun{u xs} hu=>cZ hu gs (fun g' e e2=>eU hu h1 hint e e2);refine⟨dG h.eZ gs (fun g' e=>by cases e;omega),h.box.bT gs (fun e=>by cases e;omega),Nat.le_trans h.sz gs.size,⟨vs.set i ((vs.getD i dQ).1,(vs.getD i dQ).2.1,(vs.getD i dQ).2.2.1,(vs.getD i dQ).2.2.2.1,st.getD (R.getD i (.z,0)).2.toNat 0,(vs.getD i dQ).2.2.2.2.2),?_,by simp[h2],fun j hj=>?_⟩,hgs h.Cb,hgs h.Yl⟩;{rw[uT vs i _ (by omega)];exact hst.1};obtain⟨t0,t1,t2,t3,t4,t5⟩:=h3 j hj;rw[Lw.xE hi];by_cases e:j=i;{subst e;have e1:(vs.set j ((vs.getD j dQ).1,(vs.getD j dQ).2.1,(vs.getD j dQ).2.2.1,(vs.getD j dQ).2.2.2.1,st.getD (R.getD j (.z,0)).2.toNat 0,(vs.getD j dQ).2.2.2.2.2)).getD j dQ=((vs.getD j dQ).1,(vs.getD j dQ).2.1,(vs.getD j dQ).2.2.1,(vs.getD j dQ).2.2.2.1,st.getD (R.getD j (.z,0)).2.toNat 0,(vs.getD j dQ).2.2.2.2.2):=by{rw[ah,List.getElem?_set_self (by omega)];rfl};have e2:((Lw.part st R j).set j (Lw.Kw st (R.getD j (.z,0)))).getD j .z=Lw.Kw st (R.getD j (.z,0)):=by{rw[ah,List.getElem?_set_self (by rw[Lw.Bf];exact hi)];rfl};rw[e1,e2,Lw.Kw,ay hn];rw[Lw.Er hi]at t0 t1 t2 t3 t5;exact⟨t0,t1,t2,t3,rfl,hgs t5⟩};have e1:(vs.set i ((vs.getD i dQ).1,(vs.getD i dQ).2.1,(vs.getD i dQ).2.2.1,(vs.getD i dQ).2.2.2.1,st.getD (R.getD i (.z,0)).2.toNat 0,(vs.getD i dQ).2.2.2.2.2)).getD j dQ=vs.getD j dQ:=by{rw[ah,List.getElem?_set_ne (by omega),←ah]};have e2:((Lw.part st R i).set i (Lw.Kw st (R.getD i (.z,0)))).getD j .z=(Lw.part st R i).getD j .z:=by{rw[ah,List.getElem?_set_ne (by omega),←ah]};rw[e1,e2];exact⟨t0,t1,t2,t3,t4,hgs t5⟩
theorem rQ (a:Option Addr) (len cap:Nat) (fs:List Fn) (d:ByteArray) (hv:Hg.valid fs d=true) (k:Nat) (hk:k<len) (w:World) (hs:FL w a len fs):Calls Tryz.prog 99 #[.agg #[.slice a len cap, .string d], .int .i64 k] w fun e w'=>∃v,e= .returned v/\nE w' w.heap.size v (Lw.func fs (Mn.fn fs k) (aG.ends (Mn.fn fs k).b) (aG.aT (Mn.fn fs k).b) (Mn.tq fs k))/\Below w.heap.size w w':=by
 have hl:=hs.1
 have V:=Mn.Jk hv
 obtain⟨Ym,mo,hres⟩:=Lw.Pq hv (k:=k) (by omega)
 have hA:=V.acc k (by omega)
 have nk:=Lw.xR hres
 have GZ:=Mn.NH V (k:=k) (by omega)
 have hall:St.bD (Mn.fn fs k).b=true:=by have:=Md.aU V.all (j:=k) (by omega);simp only[Md.sJ,au]at this;exact this.2.2.2.2
 have hl4:len<=4:=by have:=V.len.2;omega
 obtain⟨F,hF⟩:∃F,Mn.fn fs k=F:=⟨_,rfl⟩
 obtain⟨H,hH⟩:∃H,Mn.tq fs k=H:=⟨_,rfl⟩
 obtain⟨E,hE⟩:∃E,aG.ends F.b=E:=⟨_,rfl⟩
 obtain⟨O,hO⟩:∃O,aG.aT F.b=O:=⟨_,rfl⟩
 rw[hF,hH]at hres
 rw[hF]at nk GZ hall
 rw[hF,hH]at hA
 rw[hE,hO]at hA
 rw[hF,hH,hE,hO]
 have MB:(k:Int)<(len:Int):=by omega
 have hB1:=aA w (.cells #[.slice a len cap, .string d] 97)
 have hM1:gP (w.alloc (.cells #[.slice a len cap, .string d] 97)) w.heap.size 97 [.slice a len cap, .string d]:=heap_alloc_last w _
 obtain⟨W1,hW1⟩:∃X,w.alloc (.cells #[.slice a len cap, .string d] 97)=X:=⟨_,rfl⟩
 rw[hW1]at hB1 hM1
 have hs1:=hs.kept hB1
 have hcell:∃b off,a=some ⟨b,off,none⟩/\∃ba bl bc,W1.cell? ⟨b,off+k*4,none⟩=some (.int .i64 F.a)/\W1.cell? ⟨b,off+k*4+1,none⟩=some (.int .i64 F.l)/\W1.cell? ⟨b,off+k*4+2,none⟩=some (.int .i64 F.g)/\W1.cell? ⟨b,off+k*4+3,none⟩=some (.slice ba bl bc)/\SL W1 ba bl F.b:=by obtain⟨-,-,h0|⟨b,off,e,hb,hx⟩⟩:=hs1;{omega};obtain⟨x0,x1,x2,ba,bl,bc,x3,hsl⟩:=hx k hk;have e2:fs.getD k .z=F:=hF;rw[e2]at x0 x1 x2 hsl;exact⟨b,off,e,ba,bl,bc,x0,x1,x2,x3,hsl⟩
 obtain⟨fb,fo,rfl,ba,bl,bc,x0,x1,x2,x3,hsl⟩:=hcell
 have hbl:F.b.length=bl:=hsl.1
 subst hbl
 have m0:=hM1.cell (j:=0) rfl
 have hB2:=aA W1 (.cells #[.int .i64 F.a, .int .i64 F.l, .int .i64 F.g, .slice ba F.b.length bc] 134)
 have hF2:gP (W1.alloc (.cells #[.int .i64 F.a, .int .i64 F.l, .int .i64 F.g, .slice ba F.b.length bc] 134)) W1.heap.size 134 [.int .i64 F.a, .int .i64 F.l, .int .i64 F.g, .slice ba F.b.length bc]:=heap_alloc_last W1 _
 obtain⟨W2,hW2⟩:∃X,W1.alloc (.cells #[.int .i64 F.a, .int .i64 F.l, .int .i64 F.g, .slice ba F.b.length bc] 134)=X:=⟨_,rfl⟩
 rw[hW2]at hB2 hF2
 have hM2:=hM1.kept hB2
 have n0:=hM2.cell (j:=0) rfl
 have n1:=hM2.cell (j:=1) rfl
 have pK:=hB1.trans (hB2.mono hB1.size)
 have mg:=lY (some ⟨fb,fo,none⟩) len cap fs d k hk Ym W2 (hs1.kept hB2)
 have e2:fs.getD k .z=F:=hF
 rw[e2,hres]at mg
 go_enter Tryz.func99,Tryz.ntmps99
 go_wp2_with fail
 refine mg.mono ?_
 rintro e w3 ⟨v3,mo3,rfl,ho3,hB3⟩
 dsimp only
 obtain⟨ho3,-⟩:=ho3 H mo rfl
 obtain⟨ha,hc,rfl,-⟩:=ho3.slice
 have hHl:H.length=F.b.length:=hA.lH
 have hF3:=hF2.kept hB3
 have f3:=hF3.cell (j:=3) rfl
 have fT:=(hsl.kept hB2).kept hB3
 have bF:=qX ba F.b.length bc F.b (by omega) w3 fT
 rw[nk,hE,hO]at bF
 clear mg x0 x1 x2 x3 m0 n0 n1
 go_wp2_with fail
 refine bF.mono ?_
 rintro e w4 ⟨gE,cE,gO,cO,rfl,hEO,hB4⟩
 dsimp only
 obtain⟨Z5,Yi⟩:=hEO trivial
 have Q0:=hF3.kept hB4
 have f0:=Q0.cell (j:=0) rfl
 have f1:=Q0.cell (j:=1) rfl
 have f2:=Q0.cell (j:=2) rfl
 have f3':=Q0.cell (j:=3) rfl
 have bE:=aA w4 (.cells #[.slice none 0 0, .slice none 0 0, .int .i64 (F.a+F.l), .slice ha F.b.length hc, .slice (some ⟨gE,0,none⟩) F.b.length cE, .slice ba F.b.length bc, .int .i64 F.g] 168)
 have hbx:bu (w4.alloc (.cells #[.slice none 0 0, .slice none 0 0, .int .i64 (F.a+F.l), .slice ha F.b.length hc, .slice (some ⟨gE,0,none⟩) F.b.length cE, .slice ba F.b.length bc, .int .i64 F.g] 168)) w4.heap.size [.slice none 0 0, .slice none 0 0, .int .i64 (F.a+F.l), .slice ha F.b.length hc, .slice (some ⟨gE,0,none⟩) F.b.length cE, .slice ba F.b.length bc, .int .i64 F.g]:=bu.new w4 _ _
 have hz5:w4.heap.size+1<=(w4.alloc (.cells #[.slice none 0 0, .slice none 0 0, .int .i64 (F.a+F.l), .slice ha F.b.length hc, .slice (some ⟨gE,0,none⟩) F.b.length cE, .slice ba F.b.length bc, .int .i64 F.g] 168)).heap.size:=by simp
 obtain⟨W5,hW5⟩:∃X,w4.alloc (.cells #[.slice none 0 0, .slice none 0 0, .int .i64 (F.a+F.l), .slice ha F.b.length hc, .slice (some ⟨gE,0,none⟩) F.b.length cE, .slice ba F.b.length bc, .int .i64 F.g] 168)=X:=⟨_,rfl⟩
 rw[hW5]at bE hbx hz5
 rw[hHl]at ho3
 have DV:=hB3.trans (hB4.mono hB3.size)
 have Yn:IL w4 ha F.b.length H:=((OI.il ho3).2).kept hB4
 have Yo:IL w4 (some ⟨gE,0,none⟩) F.b.length E:=(OI.il Z5).2
 have Yp:IL w4 (some ⟨gO,0,none⟩) F.b.length O:=(OI.il Yi).2
 have Yq:=fT.kept hB4
 have hs4:=((hs1.kept hB2).kept hB3).kept hB4
 have T:TX (⟨w4.heap.size,ha,hc,some ⟨gE,0,none⟩,cE,ba,bc,fs,F,E,O,H⟩:LX) w4:=⟨Nat.le_refl _,Yn,Yo,Yq,hA,GZ,hall,V⟩
 have K5:MK (⟨w4.heap.size,ha,hc,some ⟨gE,0,none⟩,cE,ba,bc,fs,F,E,O,H⟩:LX) w4 W5 (.slice none 0 0) (.slice none 0 0) [] (fun _=>False):=⟨bE,hbx,hz5,⟨[],World.ownsRow_nil _ _ _ _,rfl,fun j hj=>by simp at hj,fun j hj=>by simp at hj⟩,OI.nil _ _⟩
 have HM4:=hM2.kept DV
 have hBw:=pK.trans (DV.mono pK.size)
 have g0:=(Q0.kept bE).cell (j:=0) rfl
 obtain⟨ln,hln⟩:=Int.eq_ofNat_of_zero_le GZ.2.2.1
 have Yr:F.l.toNat=ln:=by omega
 have HC:=ae (ak T (ak K5 (ak Q0 (ak HM4 (ak hBw (ak hs4 (ak Yp (ak Yr hln))))))))
 have hF5:-1<=F.a/\F.a<=3:=by omega
 have hl5:-1<=F.l/\F.l<=3:=by omega
 have aka:=GZ.2.2.2.2.2
 have M5:=GZ.2.2.2.2.1
 clear bF f3 hbx hz5 bE Yn Yo Yp Yq hs4 T K5 HM4 hBw DV Q0 hF3 fT hF2 hM2 hM1 ho3 Z5 Yi hB3 hB4 hB2 pK hB1 hs1 hs hsl hall nk hres Ym hv V hA GZ e2 hF hH hE hO hln Yr hEO
 go_wp2
 go_loopw [13] (fun vi wr=>∃(i:Nat)(v vg:Value),vi= .int .i64 (F.a+(i:Int))/\i<=ln/\MK (⟨w4.heap.size,ha,hc,some ⟨gE,0,none⟩,cE,ba,bc,fs,F,E,O,H⟩:LX) w4 wr v vg ((Lw.first F).take i) (fun _=>False)) (fun vi _=>(F.a+F.l-intOf vi).toNat)
 case atStart=>exact⟨0,_,_,by simp,Nat.zero_le _,HC.out.2.1⟩
 case round=>
  obtain⟨i,v,vg,rfl,hi,K⟩:=hrel
  have hll:=HC.out.2.2.2.2.2.2.2.2
  have q2:wr.cell? ⟨w4.heap.size,2,none⟩=some (.int .i64 (F.a+F.l)):=(K.box.2 2 _ rfl).1
  have hlB:w4.heap.size<wr.heap.size:=K.sz
  by_cases hlt:i<ln
  · have bN:F.a+(i:Int)<F.a+F.l:=by{omega};have hfl:((Lw.first F).take i).length<=1000:=by{rw[List.length_take];omega};have hadd:=aL (⟨w4.heap.size,ha,hc,some ⟨gE,0,none⟩,cE,ba,bc,fs,F,E,O,H⟩:LX) w4 wr v vg ((Lw.first F).take i) (fun _=>False) (Nat.le_refl _) K ⟨1,F.a+(i:Int),0,0,0,[]⟩ none 0 0 (OI.nil _ _) (fun g e=>by cases e) (-1) hfl;have HFM:=ae (Lw.CP (f:=F) (i:=i) (by rw[HC.out.2.2.2.2.2.2.2.1];exact hlt));clear K hfl hll;go_wp2_with fail;refine hadd.mono ?_;rintro e X1 ⟨v1,ja,rfl,K1,-⟩;dsimp only;rw[←HFM.out]at K1;clear hadd q2;go_wp2;go_roundw;(case rel=>exact⟨i+1,v1,ja,by simp;omega,hlt,K1⟩);case measure=>simp[intOf];omega
  · have hie:i=ln:=by omega
    have bN:¬F.a+(i:Int)<F.a+F.l:=by omega
    have K2:MK (⟨w4.heap.size,ha,hc,some ⟨gE,0,none⟩,cE,ba,bc,fs,F,E,O,H⟩:LX) w4 wr v vg (Lw.fe fs F E O H 0).1 (fun _=>False):=by have e:(Lw.first F).take i=Lw.first F:=List.take_of_length_le (by rw[Lw.Gj,HC.out.2.2.2.2.2.2.2.1];omega);rw[e]at K;exact K
    have OH:=HC.out.2.2.1.kept K2.eZ
    have r3:=OH.cell (j:=3) rfl
    have pM:=aA wr (.cells #[] 2)
    have HK:=ae (K2.kept pM)
    have HO:Hid (OI (wr.alloc (.cells #[] 2)) (w4.heap.size+1) (.slice (some ⟨wr.heap.size,0,none⟩) 0 0) []):=OI.mono (OI.empty wr) hlB
    have fD:Hid (∀g,(Value.slice (some ⟨wr.heap.size,0,none⟩) 0 0).ownBlock=some g->v.ownBlock≠some g/\vg.ownBlock≠some g/\¬False):=fun g e=>by simp only[Value.ownBlock,af]at e;subst e;obtain⟨vs,h1,-⟩:=K2.row;exact⟨fun e=>by have:=(bX h1 e).2;omega,fun e=>by have:=(bX K2.Cb e).2;omega,fun h=>h⟩
    have r3':=(OH.kept pM).cell (j:=3) rfl
    clear K K2 pM OH hie hll
    go_wp2
    clear q2 r3 r3'
    go_loopw [14,15] (fun vs vi wx=>∃(i:Nat)(v vg sv:Value)(P:Nat->Prop),vs=sv/\vi= .int .i64 (i:Int)/\i<=F.b.length/\MK (⟨w4.heap.size,ha,hc,some ⟨gE,0,none⟩,cE,ba,bc,fs,F,E,O,H⟩:LX) w4 wx v vg (Lw.fe fs F E O H i).1 P/\OI wx (w4.heap.size+1) sv (Lw.fe fs F E O H i).2/\(∀g,sv.ownBlock=some g->v.ownBlock≠some g/\vg.ownBlock≠some g/\¬P g)/\(∀g,P g->g<wx.heap.size)) (fun _ vi _=>F.b.length-(intOf vi).toNat)
    case atStart=>exact⟨0,v,vg,_,_,rfl,rfl,Nat.zero_le _,HK.out,HO.out,fD.out,fun g h=>h.elim⟩
    case round=>
     obtain⟨i2,v2,x8,sv,P,hse,rfl,hi2,K,hsv,hap,hPb⟩:=hrel
     have ae5:=hse.symm
     clear hse
     subst ae5
     clear HK HO fD
     obtain⟨j0,hj,hy0,hy1,hy2⟩:=info_parts cz
     have OH:=HC.out.2.2.1.kept K.eZ
     have r3:=OH.cell (j:=3) rfl
     have akc:w4.heap.size<wr.heap.size:=K.sz
     have MX:=Lw.sV fs F E O H i2
     have ae6:=HC.out.2.2.2.2.2.2.2.1
     by_cases hlt:i2<F.b.length
     · have bN:(i2:Int)<(F.b.length:Int):=by{omega};obtain⟨vs,hrow,-⟩:=K.row;obtain⟨va,vc,rfl⟩:=dw hrow;have q0:wr.cell? ⟨w4.heap.size,0,none⟩=some (.slice va (Lw.fe fs F E O H i2).1.length vc):=(K.box.2 0 _ rfl).1;have Q3:wr.ownsRow (w4.heap.size+1) 2 1 sv i2 ((Lw.fe fs F E O H i2).2.map iv):=by{unfold OI at hsv;rwa [MX.2]at hsv};obtain⟨sa,sc,rfl⟩:=dw Q3;obtain⟨un,hun⟩:∃un,(Lw.fe fs F E O H i2).1.length=un:=⟨_,rfl⟩;have pM:=aA wr (.cells #[.int .i64 (un:Int)] 2);have HSV:=ae (aI Q3 pM);have Z6:=ae (K.kept pM);have ae8:un<=900:=by{omega};have Kk:=ae (ak hun MX.2);have fD:=ae hap;have HPB:=ae hPb;rw[hun]at q0;have Z7:∃b o,ha=some ⟨b,o,none⟩/\b<w4.heap.size/\w4.cell? ⟨b,o+i2,none⟩=some (.int .i64 (H.getD i2 0)):=by{obtain⟨hl,-,h3|⟨b,o,e,hb,hh⟩⟩:=HC.out.1.hH;{have:F.b.length=0:=h3;omega};exact⟨b,o,e,hb,hh i2 hlt⟩};obtain⟨hb',ho',rfl,lH,Z7⟩:=Z7;have HHC:Hid (∀X:World,Below w4.heap.size w4 X->X.cell? ⟨hb',ho'+i2,none⟩=some (.int .i64 (H.getD i2 0))):=fun X hX=>(hX.cell (p:=⟨hb',ho'+i2,none⟩) lH).trans Z7;obtain⟨u,hu⟩:∃u,H.getD i2 0=u:=⟨_,rfl⟩;have HU:=ae hu;rw[hu]at HHC;have aeY:=K.sz;have ae9:=pM.size;clear K hsv Q3 hap hPb hrow OH hun MX Z7 hu pM ae6;go_wp2_with(at_builtin;refine wpList_append_own_at _ rfl _ _ 26 rfl (w4.heap.size+1) 2 j0 (.int .i64 0) 1 8 Tryz.underlying26 hj hy0 hy1 hy2 rfl (by decide) (.slice sa i2 sc) i2 _ rfl HSV.out ⟨wr.heap.size,0,none⟩ 1 1 [.int .i64 (un:Int)] rfl rfl (cell_one_new _ _ _) (by simp[Value.oneCell']) (by simp only[maxLen];omega) (by omega) (by simp;omega) ?_;intro sv' wB hown2 hgrow2 _ Ke;obtain⟨g2,cap2,rfl⟩:=ownsRow_succ hown2;have KB:=Z6.out.other (Nat.le_refl _) hgrow2 (fun g e=>⟨(bX HSV.out e).1,(fD.out g e).1,(fD.out g e).2.1,(fD.out g e).2.2⟩);have cB:=HHC.out wB KB.eZ;have kR:=ae (ak hown2 (ak hgrow2 (ak Ke KB)));have m0:=(HC.out.2.2.2.1.kept KB.eZ).cell (j:=0) rfl;have m1:=(HC.out.2.2.2.1.kept KB.eZ).cell (j:=1) rfl;clear hown2 hgrow2 Ke KB;refine PN ?_);unfold Hid;obtain⟨o1,o2,o3,KB⟩:=kR.out;have Na:Hid (∀g,(Value.slice (some ⟨g2,0,none⟩) (i2+1) cap2).ownBlock=some g->Value.ownBlock (.slice va un vc)≠some g/\x8.ownBlock≠some g/\¬P g/\g<wB.heap.size):=fun g e=>by{have hlt2:=(bX o1 e).2;rcases o3 with e'|e';{rw[e']at e;have:=fD.out g e;rw[Kk.out.1]at this;exact⟨this.1,this.2.1,this.2.2,hlt2⟩};rw[e']at e;simp only[af]at e;obtain⟨vs',hr',-⟩:=Z6.out.row;rw[Kk.out.1]at hr';have hgg:=(bX hr' (g:=g));have hgo:=fun e2=>(bX Z6.out.Cb (g:=g) e2).2;refine⟨fun e2=>by have:=(hgg e2).2;omega,fun e2=>by have:=hgo e2;omega,fun h=>by have:=HPB.out g h;simp only[World.size_alloc]at e;omega,hlt2⟩};rw[Kk.out.1]at KB;have Yk:Hid (OI wB (w4.heap.size+1) (.slice (some ⟨g2,0,none⟩) (i2+1) cap2) ((Lw.fe fs F E O H i2).2++[(un:Int)])):=by{show World.ownsRow _ _ _ _ _ _ _;rw[List.length_append,Kk.out.2,List.length_singleton,List.map_append];exact o1};have ZN:=ae KB;have Ux:Hid (wr.heap.size<=wB.heap.size):=Nat.le_trans ae9 o2.size;clear o1 o2 o3 KB kR HSV Z6 fD;by_cases hu0:0<=u;{have hcon:=yx HC.out.1 ZN.out (some ⟨fb,fo,none⟩) len cap d (some ⟨gO,0,none⟩) cO HC.out.2.2.2.2.2.1 HC.out.2.2.2.2.2.2.1 i2 hlt (by show 0<=H.getD i2 0;rw[HU.out];exact hu0) (by rw[Kk.out.1];exact ae8);go_wp2_with fail;refine hcon.mono ?_;rintro e X1 ⟨v3,Yd,rfl,K3,F3⟩;dsimp only;have Um:=ae (ak K3.tight F3);clear hcon K3 F3 m0 m1 cB;go_wp2;go_roundw;(case rel=>obtain⟨K3,F3⟩:=Um.out;refine⟨i2+1,v3,Yd,_,(fun g=>(P g\/wB.heap.size<=g)/\g<X1.heap.size),rfl,by simp,hlt,?_,?_,fun g e=>?_,fun g h=>h.2⟩;{show MK _ _ _ _ _ ((Lw.fe fs F E O H i2).1++(if 0<=H.getD i2 0 then Lw.step fs F E O H i2 else[])) _;rw[ay (by rw[HU.out];exact hu0)];exact K3};{show OI _ _ _ ((Lw.fe fs F E O H i2).2++[((Lw.fe fs F E O H i2).1.length:Int)]);rw[Kk.out.1];exact F3.rows Yk.out (fun g e=>⟨by have:=(bX Yk.out e).1;show g≠w4.heap.size;omega,(Na.out g e).1,(Na.out g e).2.1⟩)};have h2:=Na.out g e;refine⟨?_,?_,fun h=>?_⟩;{rcases F3.v1 with e'|⟨g',e',hg'⟩;{rw[e'];exact h2.1};rw[e'];simp only[ne_eq,af];omega};{rcases F3.g1 with e'|⟨g',e',hg'⟩;{rw[e'];exact h2.2.1};rw[e'];simp only[ne_eq,af];omega};rcases h.1 with h'|h';{exact h2.2.2.1 h'};omega);case measure=>simp[intOf];omega};clear m0 m1;go_wp2;go_roundw;(case rel=>refine⟨i2+1, .slice va un vc,x8,_,P,rfl,by simp,hlt,?_,?_,fun g e=>?_,fun g h=>?_⟩;{show MK _ _ _ _ _ ((Lw.fe fs F E O H i2).1++(if 0<=H.getD i2 0 then Lw.step fs F E O H i2 else[])) _;rw[ax (by rw[HU.out];exact hu0),List.append_nil];exact ZN.out};{show OI _ _ _ ((Lw.fe fs F E O H i2).2++[((Lw.fe fs F E O H i2).1.length:Int)]);rw[Kk.out.1];exact Yk.out};{have h2:=Na.out g e;exact⟨h2.1,h2.2.1,h2.2.2.1⟩};have:=HPB.out g h;have:=Ux.out;omega);case measure=>simp[intOf];omega
     · have Q4:i2=F.b.length:=by omega
       have bN:¬(i2:Int)<(F.b.length:Int):=by omega
       have r2:=OH.cell (j:=2) rfl
       have q2:wr.cell? ⟨w4.heap.size,2,none⟩=some (.int .i64 (F.a+F.l)):=(K.box.2 2 _ rfl).1
       have Z8:MK (⟨w4.heap.size,ha,hc,some ⟨gE,0,none⟩,cE,ba,bc,fs,F,E,O,H⟩:LX) w4 wr v2 x8 (Lw.fe fs F E O H F.b.length).1 P:=by rw[←Q4];exact K
       have Q5:OI wr (w4.heap.size+1) sv (Lw.qf fs F E O H):=by unfold Lw.qf;rw[←Q4];exact hsv
       have afa:=Lw.sV fs F E O H F.b.length
       have hRG:=ae (Lw.Ic HC.out.1.acc)
       have HRW:Hid (Lw.raw fs F E O H=(Lw.fe fs F E O H F.b.length).1++Lw.last F):=rfl
       have Yt:Hid ((Lw.qf fs F E O H).length=F.b.length):=afa.2
       have Nb:Hid (∀(XX:World)(vx Nc:Value),MK (⟨w4.heap.size,ha,hc,some ⟨gE,0,none⟩,cE,ba,bc,fs,F,E,O,H⟩:LX) w4 XX vx Nc (Lw.raw fs F E O H) P->FX (⟨w4.heap.size,ha,hc,some ⟨gE,0,none⟩,cE,ba,bc,fs,F,E,O,H⟩:LX) v2 x8 vx Nc wr XX->OI XX (w4.heap.size+1) sv (Lw.qf fs F E O H)):=fun XX vx Nc hK hX=>hX.rows Q5 (fun g e=>⟨by have:=(bX Q5 e).1;show g≠w4.heap.size;omega,(hap g e).1,(hap g e).2.1⟩)
       obtain⟨R,hR⟩:∃R,Lw.raw fs F E O H=R:=⟨_,rfl⟩
       obtain⟨st,hst⟩:∃st,Lw.qf fs F E O H=st:=⟨_,rfl⟩
       have HFN:Hid (Lw.func fs F E O H=if R.length<=300 then R.map (Lw.Kw st)else[]):=by show _=_;unfold Lw.func;rw[hR,hst]
       have hRl:R.length<=1000:=by rw[←hR,HRW.out,List.length_append];(have:(Lw.last F).length<=2:=by unfold Lw.last;split<;>simp);omega
       rw[hR]at hRG HRW Nb
       rw[hst]at Yt Nb
       clear K hsv OH Q5 MX Q4 hR hst hap
       have Z9:Hid (∀(XX:World)(vx Nc:Value),MK (⟨w4.heap.size,ha,hc,some ⟨gE,0,none⟩,cE,ba,bc,fs,F,E,O,H⟩:LX) w4 XX vx Nc R P->FX (⟨w4.heap.size,ha,hc,some ⟨gE,0,none⟩,cE,ba,bc,fs,F,E,O,H⟩:LX) v2 x8 vx Nc wr XX->PK (⟨w4.heap.size,ha,hc,some ⟨gE,0,none⟩,cE,ba,bc,fs,F,E,O,H⟩:LX) w4 XX vx Nc sv R st 0):=fun XX vx Nc hK hX=>PK.of hK (Nb.out XX vx Nc hK hX)
       clear Nb
       rcases M5 with hg|hg
       case' inl=>
        rw[hg]at r2
        replace HRW:Hid (R=(Lw.fe fs F E O H F.b.length).1++[(⟨1,F.a+F.l+20,0,0,0,[]⟩,-1)]++[(⟨10,0,F.a+F.l+20,0,0,[]⟩,-1)]):=by show _=_;rw[HRW.out];unfold Lw.last;rw[ay hg,List.append_assoc];rfl
        have Cg:=aL (⟨w4.heap.size,ha,hc,some ⟨gE,0,none⟩,cE,ba,bc,fs,F,E,O,H⟩:LX) w4 wr v2 x8 (Lw.fe fs F E O H F.b.length).1 P (Nat.le_refl _) Z8 ⟨1,F.a+F.l+20,0,0,0,[]⟩ none 0 0 (OI.nil _ _) (fun g e=>by cases e) (-1) (by omega)
        clear Z8
        go_wp2_with fail
        refine Cg.mono ?_
        rintro e X1 ⟨v3,Yd,rfl,K3,F3⟩
        dsimp only
        have OJ:=aL (⟨w4.heap.size,ha,hc,some ⟨gE,0,none⟩,cE,ba,bc,fs,F,E,O,H⟩:LX) w4 X1 v3 Yd _ P (Nat.le_refl _) K3 ⟨10,0,F.a+F.l+20,0,0,[]⟩ none 0 0 (OI.nil _ _) (fun g e=>by cases e) (-1) (by rw[List.length_append,List.length_singleton];omega)
        clear Cg r2 q2 r3
        go_wp2_with fail
        refine OJ.mono ?_
        rintro e XF ⟨vF,gF,rfl,K4,F4⟩
        dsimp only
        rw[←HRW.out]at K4
        have Yu:=ae (Z9.out XF vF gF K4 (F3.trans F4))
        clear OJ K3 F3 K4 F4 Z9
       case' inr=>
        rw[hg]at r2
        replace HRW:Hid (R=(Lw.fe fs F E O H F.b.length).1++[(⟨10,0,F.a+F.l,0,0,[]⟩,-1)]):=by show _=_;rw[HRW.out];unfold Lw.last;rw[ax (by omega)];rfl
        have Cg:=aL (⟨w4.heap.size,ha,hc,some ⟨gE,0,none⟩,cE,ba,bc,fs,F,E,O,H⟩:LX) w4 wr v2 x8 (Lw.fe fs F E O H F.b.length).1 P (Nat.le_refl _) Z8 ⟨10,0,F.a+F.l,0,0,[]⟩ none 0 0 (OI.nil _ _) (fun g e=>by cases e) (-1) (by omega)
        clear Z8
        go_wp2_with fail
        refine Cg.mono ?_
        rintro e XF ⟨vF,gF,rfl,K4,F4⟩
        dsimp only
        rw[←HRW.out]at K4
        have Yu:=ae (Z9.out XF vF gF K4 F4)
        clear Cg r2 q2 r3 K4 F4 Z9
       all_goals have hR1:1<=R.length:=by{rw[HRW.out];simp};obtain⟨ZQ,OL,-⟩:=Yu.out.row;obtain⟨gv,cv,rfl⟩:∃gv cv,vF= .slice (some ⟨gv,0,none⟩) R.length cv:=by{rcases OL.2 with⟨-,h0⟩|⟨g',cap',cur,h',-⟩;{omega};exact⟨g',cap',h'⟩};have Nf:=Yu.out.Cb;have GU:=Yu.out.Yl;unfold OI at Nf GU;rw[List.length_map]at Nf;rw[Yt.out]at GU;obtain⟨ga,gc,rfl⟩:=dw Nf;obtain⟨sa,sc,rfl⟩:=dw GU;clear OL Nf GU;have hRZ:(R.length:Int)<=1000:=by{omega};go_wp2;go_loopw [17] (fun vi wx=>∃i:Nat,vi= .int .i64 (i:Int)/\i<=R.length/\PK (⟨w4.heap.size,ha,hc,some ⟨gE,0,none⟩,cE,ba,bc,fs,F,E,O,H⟩:LX) w4 wx (.slice (some ⟨gv,0,none⟩) R.length cv) (.slice ga R.length gc) (.slice sa F.b.length sc) R st i) (fun vi _=>R.length-(intOf vi).toNat);(case atStart=>exact⟨0,rfl,Nat.zero_le _,Yu.out⟩);case round=>obtain⟨i3,rfl,hi3,hP⟩:=hrel;have q0:wr.cell? ⟨w4.heap.size,0,none⟩=some (.slice (some ⟨gv,0,none⟩) R.length cv):=(hP.box.2 0 _ rfl).1;have q1:wr.cell? ⟨w4.heap.size,1,none⟩=some (.slice ga R.length gc):=(hP.box.2 1 _ rfl).1;have Yv:w4.heap.size<wr.heap.size:=hP.sz;by_cases hlt3:i3<R.length;{have Yw:(i3:Int)<(R.length:Int):=by{omega};have hmem:R.getD i3 (.z,0)∈R:=by{rw[ah,ai hlt3];exact List.getElem_mem hlt3};have OM:=hRG.out _ hmem;have cG:∃b o,ga=some ⟨b,o,none⟩/\b<wr.heap.size/\wr.cell? ⟨b,o+i3,none⟩=some (.int .i64 (R.getD i3 (.z,0)).2):=by{have hil:=(OI.il hP.Cb).2;obtain⟨hl,-,h3|⟨b,o,e,hb,hh⟩⟩:=hil;{omega};refine⟨b,o,e,hb,?_⟩;rw[hh i3 hlt3,ah,ah,List.getElem?_map,ai hlt3];rfl};obtain⟨gb,go,rfl,lG,cG⟩:=cG;obtain⟨tg,Yx⟩:∃tg,(R.getD i3 (.z,0)).2=tg:=⟨_,rfl⟩;by_cases ht0:0<=tg;{have cT:∃b o,sa=some ⟨b,o,none⟩/\b<wr.heap.size/\wr.cell? ⟨b,o+tg.toNat,none⟩=some (.int .i64 (st.getD tg.toNat 0)):=by{have hil:=(OI.il hP.Yl).2;obtain⟨hl,-,h3|⟨b,o,e,hb,hh⟩⟩:=hil;{omega};exact⟨b,o,e,hb,hh tg.toNat (by omega)⟩};obtain⟨sb,so,rfl,lS,cT⟩:=cT;have Yy:=ae (fun(X:World) hX=>PK.fill (hP.kept (W':=X) hX) (Nat.le_refl _) hlt3 (by rw[Yx];exact ht0));rw[Yx]at Yy cG OM;obtain⟨tn,rfl⟩:=Int.eq_ofNat_of_zero_le ht0;rw[az]at cT Yy;obtain⟨y,hy⟩:∃y,st.getD tn 0=y:=⟨_,rfl⟩;rw[hy]at cT Yy;have akd:(tn:Int)<(F.b.length:Int):=by{omega};obtain⟨vs1,Fj,afc,-⟩:=hP.row;have hgv:=(bX Fj rfl).2;have g4:=(eQ vs1 i3 (by omega)).2.2.2.2.1;have c4:=(Fj.cellAt (i3*6+4) (by omega)).trans g4;have f4:=Fj.frozenAt (i3*6+4);obtain⟨z4,hz4⟩:∃z,(vs1.getD i3 dQ).2.2.2.2.1=z:=⟨_,rfl⟩;rw[hz4]at c4;have b0:∀p:bW wr,p.to.cell? ⟨w4.heap.size,0,none⟩=some (.slice (some ⟨gv,0,none⟩) R.length cv):=fun p=>(p.h.cell (p:=⟨w4.heap.size,0,none⟩) Yv).trans q0;have b1:∀p:bW wr,p.to.cell? ⟨w4.heap.size,1,none⟩=some (.slice (some ⟨gb,go,none⟩) R.length gc):=fun p=>(p.h.cell (p:=⟨w4.heap.size,1,none⟩) Yv).trans q1;have b2:∀p:bW wr,p.to.cell? ⟨gb,go+i3,none⟩=some (.int .i64 (tn:Int)):=fun p=>(p.h.cell (p:=⟨gb,go+i3,none⟩) lG).trans cG;have b3:∀p:bW wr,p.to.cell? ⟨sb,so+tn,none⟩=some (.int .i64 y):=fun p=>(p.h.cell (p:=⟨sb,so+tn,none⟩) lS).trans cT;have QJ:Hid (∀p:bW wr,p.to.cell? ⟨gv,i3*6+4,none⟩=some (.int .i64 z4)/\p.to.frozen? ⟨gv,i3*6+4,none⟩=false):=fun p=>⟨(p.h.cell (p:=⟨gv,i3*6+4,none⟩) hgv).trans c4,(p.h.frozen (p:=⟨gv,i3*6+4,none⟩) hgv).trans f4⟩;have hne:=bW.any wr;clear hP Fj afc c4 f4 g4 hz4 hy Yx hmem cT;go_wp2;refine dW 17 (by kernel_rfl) (by kernel_rfl) ?_;simp only[List.take_succ_cons,List.take_zero,List.drop_succ_cons,List.drop_zero];(repeat(go_big_quiet_step (fail)));refine wpQuiet_nil ?_;rintro _ ⟨pw,rfl⟩;have hc4:=(QJ.out pw).1;have hf4:=(QJ.out pw).2;have HFin:=ae (Yy.out _ pw.h);clear b0 b1 b2 b3 hne QJ Yy q0 q1 cG;obtain⟨X3,hX3⟩:∃X3,pw.to=X3:=⟨_,rfl⟩;rw[hX3]at hc4 hf4 HFin ⊢;clear hX3;go_wp2;go_roundw;(case rel=>exact⟨i3+1,by simp,hlt3,HFin.out⟩);case measure=>simp[intOf];omega};have HFin:=ae (hP.skip hlt3 (by omega));rw[Yx]at cG;clear hP Yx hmem OM;go_wp2;go_roundw;(case rel=>exact⟨i3+1,by simp,hlt3,HFin.out⟩);case measure=>simp[intOf];omega};have Q6:i3=R.length:=by{omega};have Yw:¬(i3:Int)<(R.length:Int):=by{omega};have hBf:=HC.out.2.2.2.2.1.trans (hP.eZ.mono HC.out.2.2.2.2.1.size);have hw4:=HC.out.2.2.2.2.1.size;by_cases Q7:R.length<=300;{have Yz:¬(300:Int)<(R.length:Int):=by{omega};have HF:Hid (nE wr w.heap.size (.slice (some ⟨gv,0,none⟩) R.length cv) (Lw.func fs F E O H)):=by{obtain⟨vs,h1,h2,h3⟩:=hP.row;have e:Lw.part st R i3=R.map (Lw.Kw st):=by{unfold Lw.part;rw[Q6,List.take_length,List.drop_length];simp};rw[e]at h3;have eL:(Lw.func fs F E O H).length=R.length:=by{rw[HFN.out,ay Q7,List.length_map]};refine⟨gv,cv,vs,by rw[eL],?_,?_⟩;{rw[eL];exact xX h1 (by show w.heap.size<=w4.heap.size+1;omega)};rw[eL,HFN.out,ay Q7];exact h3.mono (by show w.heap.size<=w4.heap.size+1;omega)};clear hP Q6;go_wp2;go_ret;exact⟨_,rfl,HF.out,hBf⟩};have Yz:(300:Int)<(R.length:Int):=by{omega};have pM:=aA wr (.cells #[] 67);have hBg:=hBf.trans (pM.mono hBf.size);have HF:Hid (nE (wr.alloc (.cells #[] 67)) w.heap.size (.slice (some ⟨wr.heap.size,0,none⟩) 0 0) (Lw.func fs F E O H)):=by{show nE _ _ _ _;rw[HFN.out,ax Q7];exact⟨wr.heap.size,0,[],rfl,⟨rfl, .inr ⟨wr.heap.size,0,#[],rfl,by omega,World.alloc_heap_new wr _,Nat.le_refl _,by simp[maxLen],rfl,rfl⟩⟩,fun j hj=>by simp at hj⟩};clear hP Q6 pM;go_wp2;go_ret;exact⟨_,rfl,HF.out,hBg⟩
theorem nE.mono {W:World}{n₀ n₁:Nat}{v:Value}{fs:List Ln}(h:nE W n₁ v fs)(hn:n₀<=n₁):nE W n₀ v fs:=by obtain⟨g,cap,vs,e,h1,h2⟩:=h;exact⟨g,cap,vs,e,xX h1 hn,h2.mono hn⟩
theorem nE.none (W:World)(n₀:Nat)(hn:n₀<=W.heap.size):nE (W.alloc (.cells #[] 67)) n₀ (.slice (some ⟨W.heap.size,0,none⟩) 0 0) []:=
 ⟨W.heap.size,0,[],rfl,⟨rfl, .inr ⟨W.heap.size,0,#[],rfl,hn,World.alloc_heap_new W _,Nat.le_refl _,by simp[maxLen],rfl,rfl⟩⟩,fun j hj=>by simp at hj⟩
theorem zh (a:Option Addr)(len cap:Nat)(fs:List Fn)(d:ByteArray)(hd:d.size<=maxLen)(k:Int)(w:World)(hs:FL w a len fs):Calls Tryz.prog 67 #[.agg #[.slice a len cap, .string d], .int .i64 k] w fun e w'=>∃v,e= .returned v/\nE w' w.heap.size v (Lw.fO fs d k)/\Below w.heap.size w w':=by have hl:=hs.1;have hB1:=aA w (.cells #[.slice a len cap, .string d] 97);have hM1:gP (w.alloc (.cells #[.slice a len cap, .string d] 97)) w.heap.size 97 [.slice a len cap, .string d]:=heap_alloc_last w _;obtain⟨W1,hW1⟩:∃X,w.alloc (.cells #[.slice a len cap, .string d] 97)=X:=⟨_,rfl⟩;rw[hW1]at hB1 hM1;have hs1:=hs.kept hB1;have hcon:=DD a len cap fs d hd W1 hs1;have c0:=hM1.cell (j:=0) rfl;have c1:=hM1.cell (j:=1) rfl;have hm:=hs.2.1;unfold maxLen at hm;clear hs;have bad:∀(W2:World),Below w.heap.size w W2->Lw.fO fs d k=[]->nE (W2.alloc (.cells #[] 67)) w.heap.size (.slice (some ⟨W2.heap.size,0,none⟩) 0 0) (Lw.fO fs d k)/\Below w.heap.size w (W2.alloc (.cells #[] 67)):=fun W2 hB e=>by{rw[e];exact⟨nE.none W2 _ hB.size,hB.trans ((aA W2 _).mono hB.size)⟩};rcases hv:Hg.valid fs d with _|_;{have HE:Hid (Lw.fO fs d k=[]):=by{show _=_;unfold Lw.fO;rw[ax (by rw[hv];simp)]};rw[hv]at hcon;go_enter Tryz.func67,Tryz.ntmps67;go_wp2_with fail;refine hcon.mono ?_;rintro e w2 ⟨rfl,hB2⟩;dsimp only;have HF:=ae (bad w2 (hB1.trans (hB2.mono hB1.size)) HE.out);clear hcon c0 c1 bad hs1;go_wp2;go_ret;exact⟨_,rfl,HF.out.1,HF.out.2⟩};rw[hv]at hcon;by_cases hk0:k<0;{have HE:Hid (Lw.fO fs d k=[]):=by{show _=_;unfold Lw.fO;rw[ax (by omega)]};go_enter Tryz.func67,Tryz.ntmps67;go_wp2_with fail;refine hcon.mono ?_;rintro e w2 ⟨rfl,hB2⟩;dsimp only;have HF:=ae (bad w2 (hB1.trans (hB2.mono hB1.size)) HE.out);clear hcon c0 c1 bad hs1;go_wp2;go_ret;exact⟨_,rfl,HF.out.1,HF.out.2⟩};by_cases hk1:(len:Int)<=k;{have HE:Hid (Lw.fO fs d k=[]):=by{show _=_;unfold Lw.fO;rw[ax (by omega)]};go_enter Tryz.func67,Tryz.ntmps67;go_wp2_with fail;refine hcon.mono ?_;rintro e w2 ⟨rfl,hB2⟩;dsimp only;have HF:=ae (bad w2 (hB1.trans (hB2.mono hB1.size)) HE.out);have d0:=(hM1.kept hB2).cell (j:=0) rfl;clear hcon c0 c1 bad hs1 hl;go_wp2;go_ret;exact⟨_,rfl,HF.out.1,HF.out.2⟩};obtain⟨kn,rfl⟩:=Int.eq_ofNat_of_zero_le (show 0<=k by omega);have HE:Hid (Lw.fO fs d (kn:Int)=Lw.func fs (Mn.fn fs kn) (aG.ends (Mn.fn fs kn).b) (aG.aT (Mn.fn fs kn).b) (Mn.tq fs kn)):=by{show _=_;unfold Lw.fO;rw[ay ⟨hv,by omega,by omega⟩,az]};go_enter Tryz.func67,Tryz.ntmps67;go_wp2_with fail;refine hcon.mono ?_;rintro e w2 ⟨rfl,hB2⟩;dsimp only;have hB3:=hB1.trans (hB2.mono hB1.size);have bF:=rQ a len cap fs d hv kn (by omega) w2 (hs1.kept hB2);rw[←HE.out]at bF;have d0:=(hM1.kept hB2).cell (j:=0) rfl;have d1:=(hM1.kept hB2).cell (j:=1) rfl;clear hcon c0 c1 bad hs1 hl;go_wp2_with fail;refine bF.mono ?_;rintro e w4 ⟨v,rfl,ho,hB4⟩;dsimp only;have HF:=ae (ak (ho.mono hB3.size) (hB3.trans (hB4.mono hB3.size)));obtain⟨g,cap',rfl,-⟩:=ho.LL;clear bF ho hB4 d0 d1;go_wp2;go_ret;exact⟨_,rfl,HF.out.1,HF.out.2⟩
def KL (w:World)(B:Nat)(a:Option Addr)(len cap:Nat)(zs:List Int)(g c n:Nat)(W:World):Prop:=
 ∃vs ls,List.length ls=n/\List.length vs=n/\W.ownsRow w.heap.size 67 6 (.slice (some ⟨g,0,none⟩) n c) n (bV vs)/\gy W w.heap.size n vs ls/\aM w W B a len cap zs/\B<w.heap.size
section
variable {w W W' : World} {B : Nat} {a : Option Addr} {len cap : Nat} {zs : List Int} {g c n : Nat}
theorem KL.drawn (h:KL w B a len cap zs g c n W)(hd:aM W W' B a len cap zs):KL w B a len cap zs g c n W':=by obtain⟨vs,ls,h1,h2,h3,h4,h5,h6⟩:=h;exact⟨vs,ls,h1,h2,FZ h3 hd h6,h4.other hd.2 h6,h5.andThen hd,h6⟩
theorem KL.dr (h:KL w B a len cap zs g c n W):aM w W B a len cap zs:=by obtain⟨vs,ls,h1,h2,h3,h4,h5,h6⟩:=h;exact h5
theorem KL.Zj (h:KL w B a len cap zs g c n W):∃ls,nE W w.heap.size (.slice (some ⟨g,0,none⟩) n c) ls/\aM w W B a len cap zs:=by obtain⟨vs,ls,h1,h2,h3,h4,h5,h6⟩:=h;subst h1;exact⟨ls,⟨g,c,vs,rfl,h3,h4⟩,h5⟩
theorem KL.app {g' c':Nat}{x:Ln}{vl:Value}(h:KL w B a len cap zs g c n W)(ho:OI W w.heap.size vl x.l)(vs:List Lv)(hv:∀vs',W.ownsRow w.heap.size 67 6 (.slice (some ⟨g,0,none⟩) n c) n (bV vs')->True)(hg:(W.alloc (.cells #[.int .i64 x.k, .int .i64 x.d, .int .i64 x.a, .int .i64 x.b, .int .i64 x.n,vl] 67)).grownBy W' (Value.slice (some ⟨g,0,none⟩) n c).ownBlock)(hrow:W.ownsRow w.heap.size 67 6 (.slice (some ⟨g,0,none⟩) n c) n (bV vs))(hvl:vs.length=n)(ls:List Ln)(hls:ls.length=n)(ht:gy W w.heap.size n vs ls)(hn:W'.ownsRow w.heap.size 67 6 (.slice (some ⟨g',0,none⟩) (n+1) c') (n+1) (bV vs++[.int .i64 x.k, .int .i64 x.d, .int .i64 x.a, .int .i64 x.b, .int .i64 x.n,vl])):KL w B a len cap zs g' c' (n+1) W':=by obtain⟨-,-,-,-,-,-,h5,h6⟩:=h;have hB1:=aA W (.cells #[.int .i64 x.k, .int .i64 x.d, .int .i64 x.a, .int .i64 x.b, .int .i64 x.n,vl] 67);have hr1:=aI hrow hB1;have ht1:=ht.kept hB1;have ho1:=ho.kept hB1;have ne:∀{v:Value}{xs:List Int},OI (W.alloc (.cells #[.int .i64 x.k, .int .i64 x.d, .int .i64 x.a, .int .i64 x.b, .int .i64 x.n,vl] 67)) w.heap.size v xs->∀k,v.ownBlock=some k->(Value.slice (some ⟨g,0,none⟩) n c).ownBlock≠some k:=fun hoi k hk=>eU hoi hr1 (by decide) hk;have ht2:gy W' w.heap.size n vs ls:=ht1.bT hg (fun j hj k hk=>ne (ht1 j hj).2.2.2.2.2 k hk);have ho2:OI W' w.heap.size vl x.l:=cZ ho1 hg (fun k hk=>ne ho1 k hk);refine⟨vs++[(x.k,x.d,x.a,x.b,x.n,vl)],ls++[x],by simp[hls],by simp[hvl],by rw[oG];exact hn,fun j hj=>?_,(h5.alloc _).app h6 hr1 hg,h6⟩;by_cases e:j<n;{have e1:(vs++[(x.k,x.d,x.a,x.b,x.n,vl)]).getD j dQ=vs.getD j dQ:=by{rw[ah,List.getElem?_append_left (by omega),←ah]};have e2:(ls++[x]).getD j .z=ls.getD j .z:=by{rw[ah,List.getElem?_append_left (by omega),←ah]};rw[e1,e2];exact ht2 j e};have hjn:j=n:=by{omega};subst hjn;have e1:(vs++[(x.k,x.d,x.a,x.b,x.n,vl)]).getD j dQ=(x.k,x.d,x.a,x.b,x.n,vl):=by{rw[ah,List.getElem?_append_right (by omega),hvl];simp};have e2:(ls++[x]).getD j .z=x:=by{rw[ah,List.getElem?_append_right (by omega),hls];simp};rw[e1,e2];exact⟨rfl,rfl,rfl,rfl,rfl,ho2⟩
theorem KL.set {k:Nat}{vl:Value}(x:Ln)(h:KL w B a len cap zs g c n W)(hk:k<n)(ho:OI W w.heap.size vl x.l):KL w B a len cap zs g c n ((((((W.setCell ⟨g,k*6,none⟩ (.int .i64 x.k)).setCell ⟨g,k*6+1,none⟩ (.int .i64 x.d)).setCell ⟨g,k*6+2,none⟩ (.int .i64 x.a)).setCell ⟨g,k*6+3,none⟩ (.int .i64 x.b)).setCell ⟨g,k*6+4,none⟩ (.int .i64 x.n)).setCell ⟨g,k*6+5,none⟩ vl):=by obtain⟨vs,ls,h1,h2,h3,h4,h5,h6⟩:=h;have iC:=h3.stored (k*6) (.int .i64 x.k);have pF:=iC.1.stored (k*6+1) (.int .i64 x.d);have wN:=pF.1.stored (k*6+2) (.int .i64 x.a);have wO:=wN.1.stored (k*6+3) (.int .i64 x.b);have wP:=wO.1.stored (k*6+4) (.int .i64 x.n);have qN:=wP.1.stored (k*6+5) vl;have hgr:=(aO (aO (aO (aO (aO iC.2 pF.2) wN.2) wO.2) wP.2) qN.2);have ne:∀{v:Value}{xs:List Int},OI W w.heap.size v xs->∀k,v.ownBlock=some k->(some g:Option Nat)≠some k:=fun hoi k hk=>eU hoi h3 (by decide) hk;have ht2:=h4.bT hgr (fun j hj k hk=>ne (h4 j hj).2.2.2.2.2 k hk);have ho2:=cZ ho hgr (fun k hk=>ne ho k hk);have hlt:=World.ownsRow.lt h3 g rfl;rw[←jN vs k (x.k,x.d,x.a,x.b,x.n,vl)]at qN;refine⟨vs.set k (x.k,x.d,x.a,x.b,x.n,vl),ls.set k x,by simp[h1],by simp[h2],qN.1,fun j hj=>?_,h5.fresh h6 hgr hlt.1,h6⟩;by_cases e:j=k;{subst e;have e1:(vs.set j (x.k,x.d,x.a,x.b,x.n,vl)).getD j dQ=(x.k,x.d,x.a,x.b,x.n,vl):=by{rw[ah,List.getElem?_set_self (by omega)];rfl};have e2:(ls.set j x).getD j .z=x:=by{rw[ah,List.getElem?_set_self (by omega)];rfl};rw[e1,e2];exact⟨rfl,rfl,rfl,rfl,rfl,ho2⟩};have e1:(vs.set k (x.k,x.d,x.a,x.b,x.n,vl)).getD j dQ=vs.getD j dQ:=by{rw[ah,List.getElem?_set_ne (by omega),←ah]};have e2:(ls.set k x).getD j .z=ls.getD j .z:=by{rw[ah,List.getElem?_set_ne (by omega),←ah]};rw[e1,e2];exact ht2 j hj
theorem KL.at (h:KL w B a len cap zs g c n W){k:Nat}(hk:k<n):(∃p0 p1 p2 p3 p4:Int,∃u,W.cell? ⟨g,k*6,none⟩=some (.int .i64 p0)/\W.cell? ⟨g,k*6+1,none⟩=some (.int .i64 p1)/\W.cell? ⟨g,k*6+2,none⟩=some (.int .i64 p2)/\W.cell? ⟨g,k*6+3,none⟩=some (.int .i64 p3)/\W.cell? ⟨g,k*6+4,none⟩=some (.int .i64 p4)/\W.cell? ⟨g,k*6+5,none⟩=some u)/\W.frozen? ⟨g,k*6,none⟩=false/\W.frozen? ⟨g,k*6+1,none⟩=false/\W.frozen? ⟨g,k*6+2,none⟩=false/\W.frozen? ⟨g,k*6+3,none⟩=false/\W.frozen? ⟨g,k*6+4,none⟩=false/\W.frozen? ⟨g,k*6+5,none⟩=false/\g<W.heap.size/\n<=c:=by obtain⟨vs,ls,h1,h2,h3,h4,h5,h6⟩:=h;obtain⟨g0,g1,g2,g3,g4,g5⟩:=eQ vs k (by omega);exact⟨⟨_,_,_,_,_,_,(World.ownsRow.cellAt h3 (k*6) (by omega)).trans g0,(World.ownsRow.cellAt h3 (k*6+1) (by omega)).trans g1,(World.ownsRow.cellAt h3 (k*6+2) (by omega)).trans g2,(World.ownsRow.cellAt h3 (k*6+3) (by omega)).trans g3,(World.ownsRow.cellAt h3 (k*6+4) (by omega)).trans g4,(World.ownsRow.cellAt h3 (k*6+5) (by omega)).trans g5⟩,h3.frozenAt _,h3.frozenAt _,h3.frozenAt _,h3.frozenAt _,h3.frozenAt _,h3.frozenAt _,(World.ownsRow.lt h3 g rfl).2,oP h3⟩
theorem nE.dr {v:Value}{ls:List Ln}(h:nE W n v ls)(hg:W.grownBy W' (some B))(hB:B<n):nE W' n v ls:=by obtain⟨g,cap,vs,e,h1,h2⟩:=h;exact⟨g,cap,vs,e,cZ h1 hg (fun k hk=>by have:=(World.ownsRow.lt h1 k hk).1;simp only[ne_eq,af];omega),h2.other hg hB⟩
end
theorem Ti {W:World}{M F nf:Nat}{q:Prop}(h:∀j,j<nf->AB W M F j q)(hF:F<W.heap.size)(hn:nf<=3):∃fs,FL W (some ⟨F,0,none⟩) nf fs:=by
 have H:∀m,m<=nf->∃fs:List Fn,fs.length=m/\∀j,j<m->W.cell? ⟨F,0+j*4,none⟩=some (.int .i64 (fs.getD j .z).a)/\W.cell? ⟨F,0+j*4+1,none⟩=some (.int .i64 (fs.getD j .z).l)/\W.cell? ⟨F,0+j*4+2,none⟩=some (.int .i64 (fs.getD j .z).g)/\
     ∃ba bl bc,W.cell? ⟨F,0+j*4+3,none⟩=some (.slice ba bl bc)/\SL W ba bl (fs.getD j .z).b:=by
   intro m
   induction m with
   |zero=>exact fun _=>⟨[],rfl,fun j hj=>by omega⟩
   | succ m ih=>
     intro hm
     obtain⟨fs,hl,hx⟩:=ih (by omega)
     obtain⟨p,q,g,ba,bl,bc,xs,-,-,k0,k1,k2,k3,k4,-⟩:=h m (by omega)
     refine⟨fs++[(⟨p,q,g,xs⟩:Fn)],by simp[hl],fun j hj=>?_⟩
     by_cases e:j<m
     · have e1:(fs++[(⟨p,q,g,xs⟩:Fn)]).getD j .z=fs.getD j .z:=by rw[ah,ah,List.getElem?_append_left (by omega)]
       rw[e1]
       exact hx j e
     · have e':j=m:=by omega
       subst e'
       have e1:(fs++[(⟨p,q,g,xs⟩:Fn)]).getD j .z=⟨p,q,g,xs⟩:=by
         rw[ah,List.getElem?_append_right (by omega),hl,Nat.sub_self]
         rfl
       rw[e1]
       simp only[Nat.zero_add]
       exact⟨k0,k1,k2,ba,bl,bc,k3,k4.sl⟩
 obtain⟨fs,hl,hx⟩:=H nf (Nat.le_refl _)
 exact⟨fs,hl,by simp only[maxLen];omega, .inr ⟨F,0,rfl,hF,hx⟩⟩
structure DA (w:World)(B:Nat)(a:Option Addr)(len cap:Nat)(zs:List Int)(M F nf cv Mb:Nat)(d:ByteArray)(x:World):Prop where
 ix:B<w.heap.size/\w.heap.size<=M/\M<F/\F<x.heap.size/\w.heap.size<=Mb
 nb:nf<=3
 fd:∀j,j<nf->AB x M F j True
 bM:bu x Mb [.slice (some ⟨F,0,none⟩) nf cv, .string d]
 dr:aM w x B a len cap zs
theorem DA.drawn {w x x':World}{B:Nat}{a:Option Addr}{len cap:Nat}{zs:List Int}{M F nf cv Mb:Nat}{d:ByteArray}(h:DA w B a len cap zs M F nf cv Mb d x)(hd:aM x x' B a len cap zs):DA w B a len cap zs M F nf cv Mb d x':=by have ix:=h.ix;have hs:=hd.2.size;exact⟨by omega,h.nb,fun j hj=>(h.fd j hj).of hs (fun k hk hMk=>hd.2.block k hk (by simp only[ne_eq,af];omega)) ix.2.2.2.1 ix.2.2.1,h.bM.dr hd (by omega),h.dr.andThen hd⟩
theorem DA.kept {w x x':World}{B:Nat}{a:Option Addr}{len cap:Nat}{zs:List Int}{M F nf cv Mb:Nat}{d:ByteArray}(h:DA w B a len cap zs M F nf cv Mb d x)(hB:Below x.heap.size x x'):DA w B a len cap zs M F nf cv Mb d x':=by have ix:=h.ix;have hs:=hB.size;exact⟨by omega,h.nb,fun j hj=>(h.fd j hj).of hs (fun k hk _=>hB.block k hk) ix.2.2.2.1 ix.2.2.1,h.bM.kept hB,h.dr.plain ⟨hB.os,hB.tape,hB.output,hB.size,fun k hk _=>hB.block k hk⟩⟩
def RB (B M F nf cv N:Nat)(d:ByteArray):Nat->Value->World->Prop
 |0,y,_=>y= .agg #[.slice (some ⟨F,0,none⟩) nf cv, .string d]
 |1,y,_=>y= .pointer (some ⟨B,0,none⟩)
 |2,y,_=>y= .pointer (some ⟨M,0,none⟩)
 |3,y,_=>y= .slice (some ⟨F,0,none⟩) nf cv
 |4,y,_=>y= .int .i64 nf
 |5,y,_=>∃p:Int,y= .int .i64 p
 |6,y,x=>∃ls,nE x N y ls
 |_,_,_=>True
theorem RB.fJ {B M F nf cv N:Nat}{d:ByteArray}(hN:B<N){k:Nat}{y:Value}{x x':World}(hr:x.grownBy x' (some B))(hf:RB B M F nf cv N d k y x):RB B M F nf cv N d k y x':=by
 unfold RB at hf ⊢
 split at hf
 all_goals first
   |exact hf
   |(obtain⟨ls,h⟩:=hf;exact⟨ls,h.dr hr hN⟩)
theorem lK (B:Nat)(a:Option Addr)(len cap:Nat)(zs:List Int)(hlen:len<=4096)(w:World)(hc:ib w B a len cap zs):Calls Tryz.prog 38 #[.pointer (some ⟨B,0,none⟩)] w fun e w'=>∃v ls,e= .returned v/\nE w' w.heap.size v ls/\aM w w' B a len cap zs:=by have hBw:=hc.1;obtain⟨i0,hi,hz0,hz1,hz2⟩:=info_parts mP;go_enter Tryz.func38,Tryz.ntmps38;go_wp2_with fail;refine(dz B a len cap zs 3 _ hc).mono ?_;rintro e w1 ⟨o,rfl,hd1⟩;clear hc;cases o;{go_wp2_with fail;refine(Dz B a len cap zs hlen _ hd1.1).mono ?_;rintro e w2 ⟨F,nf,cv,d,rfl,D5,M,hM1,hM2,hM3,⟨hn1,hn2,hn3,hn4⟩,hfd,-,hd2⟩;dsimp only;have hs1:=hd1.2.size;have da:DA w B a len cap zs M F nf cv w2.heap.size d (w2.alloc (.cells #[.slice (some ⟨F,0,none⟩) nf cv, .string d] 97)):=⟨by simp;omega,hn2,fun j hj=>(hfd j hj).of (by simp) (fun k hk _=>(aA w2 _).block k hk) hM3 hM2,bu.new w2 [.slice (some ⟨F,0,none⟩) nf cv, .string d] 97,(hd1.andThen hd2).alloc _⟩;have ake:(nf:Int)<=(cv:Int):=by{omega};clear hfd hd1 hd2 hM3;go_wp2_with fail;skip;refine dI 7 [12,13,14,15,16,17,18] (fun x=>DA w B a len cap zs M F nf cv w2.heap.size d x) (fun x x'=>x.grownBy x' (some B)) (RB B w2.heap.size F nf cv w.heap.size d) (by kernel_rfl) (by kernel_rfl) (by simp) (da.kept (Below.refl _ _).drew) (fun k y x x' hr hf=>RB.fJ hBw hr hf) ?_ ?_;{simp only[List.take_succ_cons,List.take_zero];refine⟨?_,?_,?_,?_,?_,?_,?_,trivial⟩;{intro b x hA hfr aV;unfold Oper.wp;generalize hK:(fun(b':Act) (x':World)=>∃y,_/\_)=K;have e3:b.tmps[3]?.getD undef= .pointer (some ⟨w2.heap.size,0,none⟩):=aN (hfr 3 (by decide));have m0:=(hA.bM.2 0 _ rfl).1;have m1:=(hA.bM.2 1 _ rfl).1;simp only[execOp];go_simp;rw[←hK];exact⟨_,rfl,hA,rfl,World.grownBy.refl _ _⟩};{intro b x hA hfr aV;unfold Oper.wp;generalize hK:(fun(b':Act) (x':World)=>∃y,_/\_)=K;have e0:b.tmps[0]?.getD undef= .pointer (some ⟨B,0,none⟩):=aN (hfr 0 (by decide));simp only[execOp];go_simp;rw[←hK];exact⟨_,rfl,hA,rfl,World.grownBy.refl _ _⟩};{intro b x hA hfr aV;unfold Oper.wp;generalize hK:(fun(b':Act) (x':World)=>∃y,_/\_)=K;have e3:b.tmps[3]?.getD undef= .pointer (some ⟨w2.heap.size,0,none⟩):=aN (hfr 3 (by decide));simp only[execOp];go_simp;rw[←hK];exact⟨_,rfl,hA,rfl,World.grownBy.refl _ _⟩};{intro b x hA hfr aV;unfold Oper.wp;generalize hK:(fun(b':Act) (x':World)=>∃y,_/\_)=K;have e14:b.tmps[14]?.getD undef= .pointer (some ⟨w2.heap.size,0,none⟩):=aN (aV 2 (by kernel_rfl));have m0:=(hA.bM.2 0 _ rfl).1;simp only[execOp];go_simp;rw[←hK];exact⟨_,rfl,hA,rfl,World.grownBy.refl _ _⟩};{intro b x hA hfr aV;unfold Oper.wp;generalize hK:(fun(b':Act) (x':World)=>∃y,_/\_)=K;have e15:b.tmps[15]?.getD undef= .slice (some ⟨F,0,none⟩) nf cv:=aN (aV 3 (by kernel_rfl));simp only[execOp];go_simp;rw[←hK];exact⟨_,rfl,hA,rfl,World.grownBy.refl _ _⟩};{intro b x hA hfr aV;unfold Oper.wp;generalize hK:(fun(b':Act) (x':World)=>∃y,_/\_)=K;have e13:b.tmps[13]?.getD undef= .pointer (some ⟨B,0,none⟩):=aN (aV 1 (by kernel_rfl));have e16:b.tmps[16]?.getD undef= .int .i64 nf:=aN (aV 4 (by kernel_rfl));simp only[execOp];go_simp;refine(aF B a len cap zs nf x hA.dr.1).mono ?_;rintro e w' ⟨y,rfl,y0,ym,y1,hd⟩;rw[←hK];exact⟨_,rfl,hA.drawn hd,⟨y,rfl⟩,hd.2⟩};intro b x hA hfr aV;unfold Oper.wp;generalize hK:(fun(b':Act) (x':World)=>∃y,_/\_)=K;have e12:b.tmps[12]?.getD undef= .agg #[.slice (some ⟨F,0,none⟩) nf cv, .string d]:=aN (aV 0 (by kernel_rfl));obtain⟨p,q1⟩:=aV 5 (by kernel_rfl);have e17:b.tmps[17]?.getD undef= .int .i64 p:=by{simpa[Act.eval]using q1};obtain⟨fs,hfl⟩:=Ti hA.fd hA.ix.2.2.2.1 hA.nb;simp only[execOp];go_simp;refine(zh (some ⟨F,0,none⟩) nf cv fs d (by simp only[maxLen];omega) p x hfl).mono ?_;rintro e w' ⟨v,rfl,hol,hBl⟩;rw[←hK];exact⟨_,rfl,hA.kept hBl,⟨_,hol.mono hA.dr.2.size⟩,⟨hBl.os,hBl.tape,hBl.output,hBl.size,fun k hk _=>hBl.block k hk⟩⟩};intro b x hA hF hb;obtain⟨ls,e18⟩:=hF 6 (by decide);obtain⟨z12,e12⟩:∃z,b.eval (.tmp 12)=z:=⟨_,rfl⟩;obtain⟨z13,e13⟩:∃z,b.eval (.tmp 13)=z:=⟨_,rfl⟩;obtain⟨z14,e14⟩:∃z,b.eval (.tmp 14)=z:=⟨_,rfl⟩;obtain⟨z15,e15⟩:∃z,b.eval (.tmp 15)=z:=⟨_,rfl⟩;obtain⟨z16,e16⟩:∃z,b.eval (.tmp 16)=z:=⟨_,rfl⟩;obtain⟨z17,e17⟩:∃z,b.eval (.tmp 17)=z:=⟨_,rfl⟩;obtain⟨v,ev⟩:∃z,b.eval (.tmp 18)=z:=⟨_,rfl⟩;have hol:nE x w.heap.size v ls:=by{rw[←ev];exact e18};simp only[List.foldl,e12,e13,e14,e15,e16,e17,ev]at hb;have HD:=ae (ak hol hA.dr);obtain⟨g,c,hv,-⟩:=hol.LL;subst hv;clear hF e12 e13 e14 e15 e16 e17 e18 ev hol hA da;subst hb;simp only[Act.put,List.setIfInBounds_toArray,List.set_cons_succ,List.set_cons_zero,List.drop_succ_cons,List.drop_zero];go_wp2;go_ret;exact⟨_,ls,rfl,HD.out.1,HD.out.2⟩};go_wp2_with fail;refine(aF B a len cap zs 12 _ hd1.1).mono ?_;rintro e w2 ⟨x,rfl,hx0,hx1,hx2,hd2⟩;have hx3:x<12:=by{omega};have hd3:=hd1.andThen hd2;obtain⟨m,rfl⟩:∃m:Nat,x=m:=⟨x.toNat,by omega⟩;have h0:KL w B a len cap zs w2.heap.size 0 0 (w2.alloc (.cells #[] 67)):=⟨[],[],rfl,rfl,⟨rfl, .inr ⟨w2.heap.size,0,#[],rfl,hd3.2.size,World.alloc_heap_new w2 _,Nat.le_refl _,by simp[maxLen],rfl,rfl⟩⟩,fun j hj=>by omega,hd3.alloc _,hBw⟩;clear hd1 hd2 hd3 hx0 hx1 hx2;go_wp2;(try rw[show(1+(m:Int))=(m:Int)+1 by omega]);go_loopw [5,6] (fun v i wr=>∃(k g c:Nat),i= .int .i64 k/\k<=m+1/\v= .slice (some ⟨g,0,none⟩) k c/\KL w B a len cap zs g c k wr) (fun _ i _=>m+1-(intOf i).toNat);(case atStart=>exact⟨0,_,_,rfl,by omega,rfl,h0⟩);case round=>obtain⟨k,g,c,rfl,hk,rfl,h⟩:=hrel;clear h0;by_cases hlt:k<m+1;{have bN:(k:Int)<(m:Int)+1:=by{omega};go_wp2_with fail;refine(ui B a len cap zs ((m:Int)+1) _ h.dr.1).mono ?_;rintro e w3 ⟨⟨xk,xd,xa,xb,xn,xl⟩,vl,rfl,hxl,ho,hd⟩;dsimp only at hxl ho ⊢;have ho2:=ho.mono h.dr.2.size;replace h:=h.drawn hd;obtain⟨ad,cv,hvs,-⟩:=ho.slice;subst hvs;have HK:=ae h;obtain⟨vs,ls,k1,k2,k3,k4,k5,k6⟩:=h;have HRW:=ae (aI k3 (aA w3 (.cells #[.int .i64 xk, .int .i64 xd, .int .i64 xa, .int .i64 xb, .int .i64 xn, .slice ad xl.length cv] 67)));have HR:=ae (ak k1 (ak k2 (ak k3 (ak k4 ho2))));have hsz:=k5.2.size;clear hd ho ho2 k1 k2 k3 k4 k5 k6;go_wp2_with(at_builtin;refine wpList_append_own _ rfl _ _ 24 rfl w.heap.size 67 i0 (.agg #[.int .i64 0, .int .i64 0, .int .i64 0, .int .i64 0, .int .i64 0, .slice none 0 0]) 6 64 Tryz.underlying24 hi hz0 hz1 hz2 rfl (by decide) _ _ _ rfl HRW.out ⟨w3.heap.size,0,none⟩ 1 1 [.int .i64 xk, .int .i64 xd, .int .i64 xa, .int .i64 xb, .int .i64 xn, .slice ad xl.length cv] rfl rfl (xP w3 _ _ _ _ _ _ _ _ w3.heap.size rfl (fun i=>rfl)) (by simp[Value.oneCell']) (by simp only[maxLen];omega) (by omega) (by simp;omega) ?_;intro v' wA hown' hgrow _;obtain⟨g',cap',rfl⟩:=ownsRow_succ hown');go_roundw;(case rel=>obtain⟨k1,k2,k3,k4,ho2⟩:=HR.out;exact⟨k+1,g',cap',by simp,by omega,rfl,HK.out.app (x:=⟨xk,xd,xa,xb,xn,xl⟩) ho2 vs (fun _ _=>trivial) hgrow k3 k2 ls k1 k4 hown'⟩);case measure=>simp[intOf];omega};have hke:k=m+1:=by{omega};subst hke;have bN:¬((m:Int)+1<(m:Int)+1):=by{omega};go_wp2_with fail;refine(dz B a len cap zs 8 _ h.dr.1).mono ?_;rintro e w4 ⟨o1,rfl,hd⟩;(try dsimp only);replace h:=h.drawn hd;clear hd hlt;cases o1;{go_wp2_with fail;refine(aF B a len cap zs 8 _ h.dr.1).mono ?_;rintro e w5 ⟨y8,rfl,hy0,hy1,hy2,hd⟩;(try dsimp only);replace h:=h.drawn hd;clear hd hy0 hy1 hy2;obtain⟨⟨p0,p1,p2,p3,p4,u,c0,c1,c2,c3,c4,c5⟩,f0,f1,f2,f3,f4,f5,hgl,hnc⟩:=h.at (k:=m) (by omega);have HN:=ae (h.set (k:=m) (vl:= .slice none 0 0) ⟨10,0,y8,0,0,[]⟩ (by omega) (OI.nil _ _));clear h;dsimp only at HN;go_wp2_with fail;have h:=HN.out;clear HN;clear c0 c1 c2 c3 c4 c5 f0 f1 f2 f3 f4 f5 hgl hnc;refine(dz B a len cap zs 12 _ h.dr.1).mono ?_;rintro e Y0 ⟨o2,rfl,hd⟩;(try dsimp only);replace h:=h.drawn hd;clear hd;cases o2;{have HN:=ae h;clear h;go_wp2;go_ret;obtain⟨ls,hol,hdd⟩:=HN.out.Zj;exact⟨_,ls,rfl,hol,hdd⟩};go_wp2_with fail;refine(aF B a len cap zs ((m:Int)+1) _ h.dr.1).mono ?_;rintro e Y1 ⟨y,rfl,hy0,hy1,hy2,hd⟩;(try dsimp only);replace h:=h.drawn hd;have hy3:y<(m:Int)+1:=by{omega};clear hd hy2 hy1;obtain⟨j,rfl⟩:∃j:Nat,y=j:=⟨y.toNat,by omega⟩;go_wp2_with fail;refine(nL B a len cap zs _ h.dr.1).mono ?_;rintro e Y2 ⟨⟨xk,xd,xa,xb,xn,xl⟩,vl,rfl,hxl,ho,hd⟩;dsimp only at hxl ho ⊢;have ho2:=ho.mono h.dr.2.size;replace h:=h.drawn hd;obtain⟨ad,cv,hvs,-⟩:=ho.slice;subst hvs;clear hd ho;obtain⟨⟨p0,p1,p2,p3,p4,u,c0,c1,c2,c3,c4,c5⟩,f0,f1,f2,f3,f4,f5,hgl,hnc⟩:=h.at (k:=j) (by omega);have HN:=ae (h.set (k:=j) (vl:= .slice ad xl.length cv) ⟨xk,xd,xa,xb,xn,xl⟩ (by omega) ho2);clear h;dsimp only at HN;clear ho2;go_wp2;go_ret;obtain⟨ls,hol,hdd⟩:=HN.out.Zj;exact⟨_,ls,rfl,hol,hdd⟩};go_wp2_with fail;refine(dz B a len cap zs 12 _ h.dr.1).mono ?_;rintro e Y0 ⟨o2,rfl,hd⟩;(try dsimp only);replace h:=h.drawn hd;clear hd;cases o2;{have HN:=ae h;clear h;go_wp2;go_ret;obtain⟨ls,hol,hdd⟩:=HN.out.Zj;exact⟨_,ls,rfl,hol,hdd⟩};go_wp2_with fail;refine(aF B a len cap zs ((m:Int)+1) _ h.dr.1).mono ?_;rintro e Y1 ⟨y,rfl,hy0,hy1,hy2,hd⟩;(try dsimp only);replace h:=h.drawn hd;have hy3:y<(m:Int)+1:=by{omega};clear hd hy2 hy1;obtain⟨j,rfl⟩:∃j:Nat,y=j:=⟨y.toNat,by omega⟩;go_wp2_with fail;refine(nL B a len cap zs _ h.dr.1).mono ?_;rintro e Y2 ⟨⟨xk,xd,xa,xb,xn,xl⟩,vl,rfl,hxl,ho,hd⟩;dsimp only at hxl ho ⊢;have ho2:=ho.mono h.dr.2.size;replace h:=h.drawn hd;obtain⟨ad,cv,hvs,-⟩:=ho.slice;subst hvs;clear hd ho;obtain⟨⟨p0,p1,p2,p3,p4,u,c0,c1,c2,c3,c4,c5⟩,f0,f1,f2,f3,f4,f5,hgl,hnc⟩:=h.at (k:=j) (by omega);have HN:=ae (h.set (k:=j) (vl:= .slice ad xl.length cv) ⟨xk,xd,xa,xb,xn,xl⟩ (by omega) ho2);clear h;dsimp only at HN;clear ho2;go_wp2;go_ret;obtain⟨ls,hol,hdd⟩:=HN.out.Zj;exact⟨_,ls,rfl,hol,hdd⟩
theorem aaz {w w1 w2:World}{C:Nat}(h1:w.grownBy w1 none)(h2:w1.grownBy w2 (some C))(hC:w.heap.size<=C):Below w.heap.size w w2:=
 ⟨h2.os.trans h1.os,h2.tape.trans h1.tape,h2.output.trans h1.output,Nat.le_trans h1.size h2.size,fun k hk=>(h2.block k (aj hk h1.size) (by simp only[ne_eq,af];omega)).trans (h1.block k hk (by simp))⟩
theorem rU (a:Option Addr)(len cap:Nat)(zs:List Int)(hlen:len<=4096)(w:World)(hb:Bytes w a len zs):Calls Tryz.prog 28 #[.slice a len cap] w fun e w'=>∃v ls,e= .returned v/\nE w' w.heap.size v ls/\Below w.heap.size w w':=by go_enter Tryz.func28,Tryz.ntmps28;go_wp2_with fail;refine(qA a len cap zs _ hb).mono ?_;rintro e w1 ⟨rfl,hc,hg⟩;(try dsimp only);go_wp2_with fail;refine(lK w.heap.size a len cap zs hlen _ hc).mono ?_;rintro e w2 ⟨v,ls,rfl,ho,hd⟩;(try dsimp only);have HF:=ae (ak (ho.mono hg.size) (aaz hg hd.2 (Nat.le_refl _)));obtain⟨g,c,rfl,-⟩:=ho.LL;clear hc hd ho hg;go_wp2;go_ret;exact⟨_,ls,rfl,HF.out.1,HF.out.2⟩
def Up (xs:List Int):Prop:=∀i,i+1<xs.length->xs.getD i 0<xs.getD (i+1) 0
theorem Up.of {xs:List Int}(h:xs.Pairwise (·<·)):Up xs:=fun i hi=>by
 have:=List.pairwise_iff_getElem.1 h i (i+1) (by omega) hi (by omega)
 rw[ah,ah,ai (by omega),ai hi]
 exact this
theorem nE.fQ {W W':World}{n₀ B:Nat}{v:Value}{fs:List Ln}(h:nE W n₀ v fs)(hg:W.grownBy W' (some B))(hB:B<n₀):nE W' n₀ v fs:=by obtain⟨g,cap,vs,e,h1,h2⟩:=h;subst e;have hlt:=World.ownsRow.lt h1 g rfl;exact⟨g,cap,vs,rfl,h1.kept hg (.inr (by simp only[Value.ownBlock,ne_eq,af];omega)),h2.other hg hB⟩
theorem ib.under {w w':World}{B:Nat}{a:Option Addr}{len cap:Nat}{zs:List Int}(h:ib w B a len cap zs)(hB:Below w.heap.size w w'):ib w' B a len cap zs:=
 h.kept (row:=none) ⟨hB.os,hB.tape,hB.output,hB.size,fun k hk _=>hB.block k hk⟩ (by simp) (.inr (by simp))
theorem OG.aaH (W:World)(n₀:Nat)(hn:n₀<=W.heap.size)(a b c d e f g:Int):OG (W.alloc (.cells #[.int .i64 a, .int .i64 b, .int .i64 c, .int .i64 d, .int .i64 e, .int .i64 f, .int .i64 g] 2)) n₀ W.heap.size 7 7 [a,b,c,d,e,f,g]:=
 ⟨rfl,rfl, .inr ⟨W.heap.size,7,#[.int .i64 a, .int .i64 b, .int .i64 c, .int .i64 d, .int .i64 e, .int .i64 f, .int .i64 g],rfl,hn,World.alloc_heap_new W _,Nat.le_refl _,by simp[maxLen],rfl,rfl⟩⟩
theorem OG.aas (W:World)(n₀:Nat)(hn:n₀<=W.heap.size)(a b c d e f g h:Int):OG (W.alloc (.cells #[.int .i64 a, .int .i64 b, .int .i64 c, .int .i64 d, .int .i64 e, .int .i64 f, .int .i64 g, .int .i64 h] 2)) n₀ W.heap.size 8 8 [a,b,c,d,e,f,g,h]:=
 ⟨rfl,rfl, .inr ⟨W.heap.size,8,#[.int .i64 a, .int .i64 b, .int .i64 c, .int .i64 d, .int .i64 e, .int .i64 f, .int .i64 g, .int .i64 h],rfl,hn,World.alloc_heap_new W _,Nat.le_refl _,by simp[maxLen],rfl,rfl⟩⟩
theorem nC (a:Option Addr)(len cap:Nat)(zs:List Int)(hlen:len<=4096)(w:World)(hb:Bytes w a len zs):Calls Tryz.prog 7 #[.slice a len cap] w fun e w'=>∃v ls,e= .returned v/\nE w' w.heap.size v ls/\Below w.heap.size w w':=by go_enter Tryz.func7,Tryz.ntmps7;go_wp2_with fail;refine(rU a len cap zs hlen _ hb).mono ?_;rintro e w2 ⟨v,ls,rfl,ho,hB⟩;dsimp only;have HF:=ae (ak ho hB);obtain⟨g,c,rfl,-⟩:=ho.LL;clear ho hB hb;go_wp2;go_ret;exact⟨_,ls,rfl,HF.out.1,HF.out.2⟩
theorem nY (a:Option Addr)(len cap:Nat)(zs:List Int)(w:World)(hb:Bytes w a len zs):Calls Tryz.prog 10 #[.slice a len cap] w fun e w'=>∃g n c xs,e= .returned (.slice (some ⟨g,0,none⟩) n c)/\OG w' w.heap.size g n c xs/\n<=8/\Below w.heap.size w w':=by go_enter Tryz.func10,Tryz.ntmps10;go_wp2_with fail;refine(qA a len cap zs _ hb).mono ?_;rintro e w1 ⟨rfl,hc,hg⟩;(try dsimp only);have hB1:Below w.heap.size w w1:=⟨hg.os,hg.tape,hg.output,hg.size,fun k hk=>hg.block k hk (by simp)⟩;have hC:w.heap.size<w1.heap.size:=hc.1;have hal:=aA w1 (.cells #[] 2);have hc2:=hc.under hal;have HO:=ae (ak (OG.empty w1 w1.heap.size (Nat.le_refl _)) (hB1.trans (hal.mono hB1.size)));clear hb hg hc hB1 hal;go_wp2_with fail;refine(aF w.heap.size a len cap zs 9 _ hc2).mono ?_;rintro e w2 ⟨x,rfl,hx0,-,hx9,hd2⟩;dsimp only;have GI:=hd2.2;have HX:=ae (ak (HO.out.1.bT GI (by omega)) (ak hd2.1 (di HO.out.2 hd2 (Nat.le_refl _) HO.out.2.size)));have hxs:x<9:=by{omega};obtain⟨xn,rfl⟩:=Int.eq_ofNat_of_zero_le hx0;have hx8:xn<=8:=by{omega};clear HO hc2 hd2 GI hx0 hx9 hxs;go_wp2;go_loopg [4,5] xn (fun gk vo vn wr=>∃(k g n c:Nat)(xs:List Int),gk=k/\k<=8/\vo= .slice (some ⟨g,0,none⟩) n c/\vn= .int .i64 (k:Int)/\n+k<=8/\OG wr w1.heap.size g n c xs/\ib wr w.heap.size a len cap zs/\Below w.heap.size w wr);(case atStart=>exact⟨xn,_,0,0,[],rfl,hx8,rfl,rfl,by omega,HX.out.1,HX.out.2.1,HX.out.2.2⟩);case round=>obtain⟨k,g,n,c,xs,nP,hk8,rfl,rfl,hnk,ho,Oj,hB⟩:=hrel;obtain⟨w3,rfl⟩:∃x,x=wr:=⟨_,rfl⟩;clear HX;by_cases hk:0<k;{have MB:(0:Int)<(k:Int):=by{omega};have hgo:=ho.lt;have hwB:=Oj.1;have hal:=aA w3 (.cells #[.int .i64 (-1), .int .i64 0, .int .i64 4, .int .i64 99, .int .i64 100, .int .i64 101, .int .i64 4611686018427387904] 2);have hc3:=Oj.under hal;have HT:=ae (ak (OG.aaH w3 w1.heap.size (by omega) (-1) 0 4 99 100 101 4611686018427387904) (ak (ho.kept hal) (hB.trans (hal.mono hB.size))));have akh:=hB.size;clear ho Oj hB hal;go_wp2_with fail;refine(aF w.heap.size a len cap zs 7 _ hc3).mono ?_;rintro e w4 ⟨x,rfl,hx0,-,hx9,hd4⟩;dsimp only;have hg4:=hd4.2;have hT4:=HT.out.1.bT hg4 (by omega);have hx7:x<7:=by{omega};obtain⟨xm,rfl⟩:=Int.eq_ofNat_of_zero_le hx0;have hx6:xm<7:=by{omega};have hcl:=hT4.cell hx6;generalize([-1,0,4,99,100,101,4611686018427387904]:List Int).getD xm 0=y at hcl;have hal:=aA w4 (.cells #[.int .i64 y] 2);have hB4:=di HT.out.2.2 hd4 (Nat.le_refl _) HT.out.2.2.size;have nN:=HT.out.2.1.bT hg4 (by omega);have hs4:=hg4.size;simp at hs4;have aff:w1.heap.size<=w4.heap.size:=by{omega};have HY:=ae (ak (OG.one w4 w1.heap.size aff y) (ak (nN.kept hal) (ak (hd4.1.under hal) (hB4.trans (hal.mono hB4.size)))));clear hT4 hd4 hg4 hal hB4 nN HT hc3 hx0 hx9;go_wp2_with(at_builtin;refine dB _ rfl _ _ rfl w1.heap.size _ _ _ _ rfl HY.out.2.1 w4.heap.size 0 1 1 [y] rfl rfl (fun j hj=>by rw[Nat.zero_add];exact HY.out.1.cell hj) (by omega) (by simp;omega) ?_;intro g5 c5 N5 w5 Oy nQ hg5;have HF:=ae (ak nQ (ak (Oy.out) (ak (HY.out.2.2.1.kept hg5 (by simp only[ne_eq,af];omega) (HY.out.2.2.1.2.1.imp_right fun h9 z9 e9=>by have:=h9 z9 e9;simp only[ne_eq,af];omega)) (aC HY.out.2.2.2 hg5 (by omega)))));clear nQ hg5 Oy);go_roundg (k-1);(case measure=>omega);case rel=>exact⟨k-1,g5,N5,c5,_,rfl,by omega,rfl,(by rw[show((k-1:Nat):Int)=(k:Int)-1 by omega]),by have:=HF.out.2.1;omega,HF.out.1,HF.out.2.2.1,HF.out.2.2.2⟩};have hk0:k=0:=by{omega};subst hk0;have HF:=ae (ak (ho.mono (Nat.le_of_lt hC)) hB);clear ho Oj hB;go_wp2;go_ret;exact⟨g,n,c,xs,rfl,HF.out.1,by omega,HF.out.2⟩
theorem lW {W:World}{n₀ gl cl nl:Nat}{ls:List Ln}(h:nE W n₀ (.slice (some ⟨gl,0,none⟩) nl cl) ls)(hn:ls.length=nl):LL W (some ⟨gl,0,none⟩) ls.length ls:=by obtain⟨g,c,e,-,-,h2⟩:=h.LL;cases e;exact h2
def O5 (w w':World)(e:Ending):Prop:=∃gl cl ls sl n c xs,e= .returned (.tuple #[.slice (some ⟨gl,0,none⟩) (ls:List Ln).length cl, .slice sl n c])/\LL w' (some ⟨gl,0,none⟩) ls.length ls/\IL w' sl n xs/\Below w.heap.size w w'
theorem Bv {W W1 W2:World}{r:Option Nat}(h:W.grownBy W1 r)(hB:Below W1.heap.size W1 W2):W.grownBy W2 r:=
 ⟨hB.os.trans h.os,hB.tape.trans h.tape,hB.output.trans h.output,Nat.le_trans h.size hB.size,fun k hk hne=>(hB.block k (aj hk h.size)).trans (h.block k hk hne)⟩
theorem Pm {W W1 W2:World}{r:Option Nat}{b:Nat}(h:W.grownBy W1 r)(hg:W1.grownBy W2 (some b))(hb:W.heap.size<=b):W.grownBy W2 r:=
 ⟨hg.os.trans h.os,hg.tape.trans h.tape,hg.output.trans h.output,Nat.le_trans h.size hg.size,fun k hk hne=>(hg.block k (aj hk h.size) (by simp only[ne_eq,af];omega)).trans (h.block k hk hne)⟩
theorem EO {W:World}{n₀ g n c:Nat}{xs:List Int}(h:OG W n₀ g n c xs)(hn:0<n):IL W (some ⟨g,1,none⟩) (n-1) (xs.drop 1):=by have hc:=h.cap;refine⟨by rw[List.length_drop,h.1],by omega, .inr ⟨g,1,rfl,h.lt.2,fun j hj=>?_⟩⟩;have h2:=h.cell (j:=1+j) (by omega);rw[h2,ah,ah,List.getElem?_drop]
theorem rV (a:Option Addr) (len cap:Nat) (zs:List Int) (hlen:len<=4096) (w:World) (hb:Bytes w a len zs):Calls Tryz.prog 9 #[.slice a len cap] w fun e w'=>O5 w w' e:=by
 go_enter Tryz.func9,Tryz.ntmps9
 go_wp2_with fail
 refine(qA a len cap zs _ hb).mono ?_
 rintro e w1 ⟨rfl,hc,hg⟩
 (try dsimp only)
 have hB1:Below w.heap.size w w1:=⟨hg.os,hg.tape,hg.output,hg.size,fun k hk=>hg.block k hk (by simp)⟩
 have hC:w.heap.size<w1.heap.size:=hc.1
 clear hb hg
 go_wp2_with fail
 refine(lK w.heap.size a len cap zs hlen _ hc).mono ?_
 rintro e w2 ⟨v,ls,rfl,hol,hd2⟩
 dsimp only
 have hB2:=di hB1 hd2 (Nat.le_refl _) hB1.size
 obtain⟨gl,cl,rfl,hg1,hg2,hll⟩:=hol.LL
 obtain⟨nl,hnl⟩:∃n,ls.length=n:=⟨_,rfl⟩
 rw[hnl]at hll hol ⊢
 have qK:=ae hnl
 have aki:=hd2.2.size
 have YA:=hd2.1
 clear hnl hB1 hc hd2
 go_wp2_with fail
 refine(kI (some ⟨gl,0,none⟩) nl cl ls w2 hll).mono ?_
 rintro e w3 ⟨gh,n,ch,rfl,qI,hB3⟩
 dsimp only
 have YB:=Hm.mU ls
 rw[qI.1]at YB
 have YC:=YA.under hB3
 have YD:=Bv (World.grownBy.refl w2 (some w.heap.size)) hB3
 have HOL:=ae hol
 have hBw3:=hB2.trans (hB3.mono hB2.size)
 generalize Hm.homes ls=xs at qI
 have hgh:=qI.lt
 have hch:=qI.cap
 have hnZ:(n:Int)<=1000:=by omega
 have HO:=ae (ak qI (ak YD (ak YC hBw3)))
 clear hll hol hB2 YA qI hB3 YC YD hBw3
 by_cases hn0:0<n
 rotate_left
 · have afh:¬(0:Int)<(n:Int):=by{omega};go_wp2_with fail;refine(dz w.heap.size a len cap zs 14 _ HO.out.2.2.1).mono ?_;rintro e w8 ⟨o2,rfl,D5⟩;dsimp only;have Kl:=D5.2;have HZ:=ae (ak (HO.out.1.bT Kl (by omega)) (ak ((HOL.out.fQ (HO.out.2.1.trans Kl) hC).mono (Nat.le_of_lt hC)) (di HO.out.2.2.2 D5 (Nat.le_refl _) HO.out.2.2.2.size)));clear D5 Kl;have DL:=HZ.out.1.lt;have hcz:=HZ.out.1.cap;cases o2;{go_wp2;go_ret2;unfold O5;exact⟨gl,cl,ls,some ⟨gh,0,none⟩,n,ch,_,(by rw[qK.out]<;>rfl),lW HZ.out.2.1 qK.out,(OI.il HZ.out.1.oi).2,HZ.out.2.2⟩};go_wp2;go_ret2;unfold O5;exact⟨gl,cl,ls,some ⟨gh,0,none⟩,n,ch,_,(by rw[qK.out]<;>rfl),lW HZ.out.2.1 qK.out,(OI.il HZ.out.1.oi).2,HZ.out.2.2⟩
 have afh:(0:Int)<(n:Int):=by omega
 go_wp2_with fail
 refine(dz w.heap.size a len cap zs 2 _ HO.out.2.2.1).mono ?_
 rintro e w4 ⟨o,rfl,hd4⟩
 dsimp only
 have hg4:=hd4.2
 have YE:=HO.out.2.1.trans hg4
 have HP:=ae (ak (HO.out.1.bT hg4 (by omega)) (ak YE (ak hd4.1 (di HO.out.2.2.2 hd4 (Nat.le_refl _) HO.out.2.2.2.size))))
 clear hd4 hg4 HO YE
 cases o
 · skip
   go_wp2_with fail
   refine(dz w.heap.size a len cap zs 14 _ HP.out.2.2.1).mono ?_
   rintro e w8 ⟨o2,rfl,D5⟩
   dsimp only
   have Kl:=D5.2
   have HZ:=ae (ak (HP.out.1.bT Kl (by omega)) (ak ((HOL.out.fQ (HP.out.2.1.trans Kl) hC).mono (Nat.le_of_lt hC)) (di HP.out.2.2.2 D5 (Nat.le_refl _) HP.out.2.2.2.size)))
   clear D5 Kl
   have DL:=HZ.out.1.lt
   have hcz:=HZ.out.1.cap
   cases o2
   · go_wp2;go_ret2;unfold O5;exact⟨gl,cl,ls,some ⟨gh,0,none⟩,n,ch,_,(by rw[qK.out]<;>rfl),lW HZ.out.2.1 qK.out,(OI.il HZ.out.1.oi).2,HZ.out.2.2⟩
   · have hnc:1<=ch:=by omega
     have afi:(1:Int)<=(ch:Int):=by omega
     have afj:(1:Int)<=(n:Int):=by omega
     have HT:=ae (EO HZ.out.1 hn0)
     have HT0:=ae (fun(h:ch=1)=>show n-1=0 by omega)
     go_wp2
     all_goals
      go_ret2
      unfold O5
      first
        |exact⟨gl,cl,ls,some ⟨gh,1,none⟩,n-1,ch-1,_,(show Ending.returned (.tuple #[.slice (some ⟨gl,0,none⟩) nl cl, .slice (some ⟨gh,1,none⟩) (n-1) (ch-1)])=_ from by rw[qK.out]),lW HZ.out.2.1 qK.out,HT.out,HZ.out.2.2⟩
        |exact⟨gl,cl,ls,some ⟨gh,0,none⟩,n-1,0,[],(show Ending.returned (.tuple #[.slice (some ⟨gl,0,none⟩) nl cl, .slice (some ⟨gh,0,none⟩) (n-1) 0])=_ from by rw[qK.out]),lW HZ.out.2.1 qK.out,⟨by rw[HT0.out h];rfl,by rw[HT0.out h];simp[maxLen], .inl (HT0.out h)⟩,HZ.out.2.2⟩
 · go_wp2_with fail
   refine(aF w.heap.size a len cap zs (n:Int) _ HP.out.2.2.1).mono ?_
   rintro e w5 ⟨x,rfl,hx0,-,hxn,hd5⟩
   dsimp only
   obtain⟨xn,rfl⟩:=Int.eq_ofNat_of_zero_le hx0
   have hxl:xn<n:=by omega
   have hxZ:(xn:Int)<(n:Int):=by omega
   have hg5:=hd5.2
   have Q8:=HP.out.1.bT hg5 (by omega)
   have YF:=HP.out.2.1.trans hg5
   have Q9:=hd5.1
   have oq:=di HP.out.2.2.2 hd5 (Nat.le_refl _) HP.out.2.2.2.size
   have hal:=aA w5 (.cells #[.int .i64 (-1), .int .i64 0, .int .i64 1, .int .i64 4, .int .i64 5, .int .i64 100, .int .i64 101, .int .i64 164] 2)
   have hwB:=Q9.1
   have akk:=Q8.lt
   have HT:=ae (ak (OG.aas w5 w5.heap.size (Nat.le_refl _) (-1) 0 1 4 5 100 101 164) (ak (Q8.kept hal) (ak (Bv YF hal) (ak (Q9.under hal) (oq.trans (hal.mono oq.size))))))
   clear hd5 hg5 Q8 YF Q9 oq hal HP hx0 hxn
   go_wp2_with fail
   refine(aF w.heap.size a len cap zs 8 _ HT.out.2.2.2.1).mono ?_
   rintro e w6 ⟨y,rfl,hy0,-,hyn,hd6⟩
   dsimp only
   obtain⟨yn,rfl⟩:=Int.eq_ofNat_of_zero_le hy0
   have hyl:yn<8:=by omega
   have hyZ:(yn:Int)<8:=by omega
   have zX:=hd6.2
   have ht6:=HT.out.1.bT zX (by omega)
   have hcl:=ht6.cell hyl
   generalize([-1,0,1,4,5,100,101,164]:List Int).getD yn 0=u at hcl
   have Km:=HT.out.2.1.bT zX (by omega)
   have YG:=HT.out.2.2.1.trans zX
   have YH:=di HT.out.2.2.2.2 hd6 (Nat.le_refl _) HT.out.2.2.2.2.size
   have htl:=ht6.lt
   have akm:=Km.lt
   have akn:=Km.cell hxl
   have hfz:=fun j=>World.ownsRow.frozenAt Km.2 j
   have hgs:=aB w6 ⟨gh,xn,none⟩ (.int .i64 u)
   have HP:=ae (ak (OG.Ev Km xn u) (ak (Pm YG hgs (show w2.heap.size<=gh by omega)) (ak (hd6.1.kept hgs (by simp only[ne_eq,af];omega) (hd6.1.2.1.imp_right fun h9 z9 e9=>by have:=h9 z9 e9;simp only[ne_eq,af];omega)) (aC YH hgs (show w.heap.size<=gh by omega)))))
   clear hd6 zX ht6 Km YG YH HT hgs hy0 hyn
   go_wp2_with fail
   refine(dz w.heap.size a len cap zs 14 _ HP.out.2.2.1).mono ?_
   rintro e w8 ⟨o2,rfl,D5⟩
   dsimp only
   have Kl:=D5.2
   have HZ:=ae (ak (HP.out.1.bT Kl (by omega)) (ak ((HOL.out.fQ (HP.out.2.1.trans Kl) hC).mono (Nat.le_of_lt hC)) (di HP.out.2.2.2 D5 (Nat.le_refl _) HP.out.2.2.2.size)))
   clear D5 Kl
   have DL:=HZ.out.1.lt
   have hcz:=HZ.out.1.cap
   cases o2
   · go_wp2;go_ret2;unfold O5;exact⟨gl,cl,ls,some ⟨gh,0,none⟩,n,ch,_,(by rw[qK.out]<;>rfl),lW HZ.out.2.1 qK.out,(OI.il HZ.out.1.oi).2,HZ.out.2.2⟩
   · have hnc:1<=ch:=by omega
     have afi:(1:Int)<=(ch:Int):=by omega
     have afj:(1:Int)<=(n:Int):=by omega
     have HT:=ae (EO HZ.out.1 hn0)
     have HT0:=ae (fun(h:ch=1)=>show n-1=0 by omega)
     go_wp2
     all_goals
      go_ret2
      unfold O5
      first
        |exact⟨gl,cl,ls,some ⟨gh,1,none⟩,n-1,ch-1,_,(show Ending.returned (.tuple #[.slice (some ⟨gl,0,none⟩) nl cl, .slice (some ⟨gh,1,none⟩) (n-1) (ch-1)])=_ from by rw[qK.out]),lW HZ.out.2.1 qK.out,HT.out,HZ.out.2.2⟩
        |exact⟨gl,cl,ls,some ⟨gh,0,none⟩,n-1,0,[],(show Ending.returned (.tuple #[.slice (some ⟨gl,0,none⟩) nl cl, .slice (some ⟨gh,0,none⟩) (n-1) 0])=_ from by rw[qK.out]),lW HZ.out.2.1 qK.out,⟨by rw[HT0.out h];rfl,by rw[HT0.out h];simp[maxLen], .inl (HT0.out h)⟩,HZ.out.2.2⟩
end Go.Proofs.YtpipjiinmhopmaaGreat
