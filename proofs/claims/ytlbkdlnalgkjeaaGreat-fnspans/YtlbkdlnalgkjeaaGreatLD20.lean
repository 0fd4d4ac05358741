/-
  Own texts for a law: Low8 Low9 Dl3 Dl4 Dl5 NxD
-/
import Derived.Test.YtlbkdlnalgkjeaaGreatLD13
import Derived.Test.YtlbkdlnalgkjeaaGreatLD19
namespace Go.Proofs.YtlbkdlnalgkjeaaGreat
open Go.RowKit Go.Shelf
set_option linter.all false
set_option maxRecDepth 100000
set_option maxHeartbeats 16000000
theorem Lw.Ga {fs:List Fn}{d:ByteArray}(h:Hg.valid fs d=true){k:Nat}(hk:k<fs.length):Md.ok fs d=true/\∃mo,Hg.fP fs (Mn.fn fs k)=some (Mn.wP fs k,mo):=by unfold Hg.valid at h;rw[au]at h;refine⟨h.1,?_⟩;have h2:=List.all_eq_true.1 h.2 k (List.mem_range.2 hk);unfold Hg.fQ at h2;rw[ay ⟨h.1,by omega,by omega⟩]at h2;simp only[az]at h2;unfold Mn.wP Mn.fn;rcases e:Hg.fP fs (fs.getD k .z)with _|⟨H,mo⟩;{rw[e]at h2;cases h2};exact⟨mo,rfl⟩
theorem Lw.rM {fs:List Fn}{f:Fn}{x:List Int×Int}(h:Hg.fP fs f=some x):aG.isOk f.b=true:=by unfold Hg.fP at h;split at h;{assumption};cases h
def Lw.part (st:List Int)(R:List (Ln×Int))(i:Nat):List Ln:=(R.take i).map (Lw.CZ st)++(R.drop i).map (·.1)
theorem Lw.uS (st:List Int)(R:List (Ln×Int))(i:Nat):(Lw.part st R i).length=R.length:=by unfold Lw.part;simp only[List.length_append,List.length_map,List.length_take,List.length_drop];omega
theorem Lw.rq {st:List Int}{R:List (Ln×Int)}{i:Nat}(hi:i<R.length):Lw.part st R (i+1)=(Lw.part st R i).set i (Lw.CZ st (R.getD i (.z,0))):=by unfold Lw.part;rw[List.take_add_one,ai hi,ah,ai hi,List.drop_eq_getElem_cons hi];simp only[Option.toList_some,Option.getD_some,List.map_append,List.map_cons,List.map_nil];rw[List.set_append_right _ _ (by simp only[List.length_map,List.length_take];omega)];simp[Nat.min_eq_left (Nat.le_of_lt hi)]
theorem Lw.x8 {st:List Int}{R:List (Ln×Int)}{i:Nat}(hi:i<R.length):(Lw.part st R i).getD i .z=(R.getD i (.z,0)).1:=by unfold Lw.part;rw[ah,List.getElem?_append_right (by simp only[List.length_map,List.length_take];omega)];rw[ah,ai hi];simp[Nat.min_eq_left (Nat.le_of_lt hi),ai hi]
theorem Lw.xB {f:Fn}{i:Nat}(hi:i<f.l.toNat):(Lw.first f).take (i+1)=(Lw.first f).take i++[(⟨1,f.a+(i:Int),0,0,0,[]⟩,-1)]:=by rw[List.take_add_one];congr 1;unfold Lw.first;simp[hi]
theorem Lw.zk (f:Fn):(Lw.first f).length=f.l.toNat:=by unfold Lw.first;simp
theorem FQ {p:Prop}(h:Hid p):p:=h
theorem qY {W:World}{n₀ n₁:Nat}{e k:Nat}{v:Value}{n:Nat}{xs:List Value}(h:W.ownsRow n₁ e k v n xs)(hn:n₀<=n₁):W.ownsRow n₀ e k v n xs:=by refine⟨h.1,?_⟩;rcases h.2 with h'|⟨g',cap',cur,h',hb,r⟩;{exact .inl h'};exact .inr ⟨g',cap',cur,h',Nat.le_trans hn hb,r⟩
theorem MK.other {c:LX}{W0 W W':World}{v vg:Value}{out:List (Ln×Int)}{P:Nat->Prop}{row:Option Nat}(h:MK c W0 W v vg out P)(hW:W0.heap.size<=c.B)(hg:W.grownBy W' row)(hr:∀g,row=some g->c.B+1<=g/\v.ownBlock≠some g/\vg.ownBlock≠some g/\¬P g):MK c W0 W' v vg out P:=by obtain⟨vs,h1,h2,h3,h4⟩:=h.row;refine⟨bZ h.dS hg (fun g e=>by have:=(hr g e).1;omega),h.box.dB hg (fun e=>by have:=(hr _ e).1;omega),Nat.le_trans h.sz hg.size,⟨vs,bX h1 hg (fun g e e2=>(hr g e2).2.1 e),h2,h3.dB hg (fun j hj g e e2=>(hr g e2).2.2.2 (h4 j hj g e).2),h4⟩,bX h.wH hg (fun g e e2=>(hr g e2).2.2.1 e)⟩
theorem MK.tight {c:LX}{W0 W:World}{v vg:Value}{out:List (Ln×Int)}{P:Nat->Prop}(h:MK c W0 W v vg out P):MK c W0 W v vg out (fun g=>P g/\g<W.heap.size):=by obtain⟨vs,h1,h2,h3,h4⟩:=h.row;exact⟨h.dS,h.box,h.sz,⟨vs,h1,h2,h3,fun j hj g e=>⟨(h4 j hj g e).1,(h4 j hj g e).2,(bE (h3 j hj).2.2.2.2.2 e).2⟩⟩,h.wH⟩
structure PK (c:LX)(W0 W:World)(v vg sv:Value)(R:List (Ln×Int))(st:List Int)(i:Nat):Prop where
 dS:Below W0.heap.size W0 W
 box:aU W c.B (c.dV v vg)
 sz:c.B+1<=W.heap.size
 row:∃vs:List Lv,W.ownsRow (c.B+1) 40 6 v R.length (bS vs)/\vs.length=R.length/\fO W (c.B+1) R.length vs (Lw.part st R i)
 wH:OI W (c.B+1) vg (R.map (·.2))
 Oc:OI W (c.B+1) sv st
theorem PK.of {c:LX}{W0 W:World}{v vg sv:Value}{R:List (Ln×Int)}{st:List Int}{P:Nat->Prop}(h:MK c W0 W v vg R P)(hs:OI W (c.B+1) sv st):PK c W0 W v vg sv R st 0:=by obtain⟨vs,h1,h2,h3,-⟩:=h.row;exact⟨h.dS,h.box,h.sz,⟨vs,h1,h2,h3⟩,h.wH,hs⟩
theorem PK.kept {c:LX}{W0 W W':World}{v vg sv:Value}{R:List (Ln×Int)}{st:List Int}{i:Nat}(h:PK c W0 W v vg sv R st i)(hB:Below W.heap.size W W'):PK c W0 W' v vg sv R st i:=by obtain⟨vs,h1,h2,h3⟩:=h.row;exact⟨h.dS.trans (hB.mono h.dS.size),h.box.kept hB,Nat.le_trans h.sz hB.size,⟨vs,aH h1 hB,h2,h3.kept hB⟩,h.wH.kept hB,h.Oc.kept hB⟩
theorem PK.skip {c:LX}{W0 W:World}{v vg sv:Value}{R:List (Ln×Int)}{st:List Int}{i:Nat}(h:PK c W0 W v vg sv R st i)(hi:i<R.length)(hn:(R.getD i (.z,0)).2<0):PK c W0 W v vg sv R st (i+1):=by have e:Lw.part st R (i+1)=Lw.part st R i:=by{rw[Lw.rq hi,Lw.CZ,ax (by omega),←Lw.x8 (st:=st) hi];apply List.ext_getElem?;intro j;rw[List.getElem?_set];split;{rename_i e;subst e;have hl:i<(Lw.part st R i).length:=by{rw[Lw.uS];exact hi};rw[ay hl,ah,ai hl];rfl};rfl};obtain⟨vs,h1,h2,h3⟩:=h.row;exact⟨h.dS,h.box,h.sz,⟨vs,h1,h2,by rw[e];exact h3⟩,h.wH,h.Oc⟩
theorem PK.fill {c:LX}{W0 W:World}{g cv:Nat}{vg sv:Value}{R:List (Ln×Int)}{st:List Int}{i:Nat}(h:PK c W0 W (.slice (some ⟨g,0,none⟩) R.length cv) vg sv R st i)(hW:W0.heap.size<=c.B)(hi:i<R.length)(hn:0<=(R.getD i (.z,0)).2):PK c W0 (W.setCell ⟨g,i*6+4,none⟩ (.int .i64 (st.getD (R.getD i (.z,0)).2.toNat 0))) (.slice (some ⟨g,0,none⟩) R.length cv) vg sv R st (i+1):=by obtain⟨vs,h1,h2,h3⟩:=h.row;have hg:c.B+1<=g/\g<W.heap.size:=bE h1 rfl;have hst:=h1.stored (i*6+4) (.int .i64 (st.getD (R.getD i (.z,0)).2.toNat 0));have gs:=hst.2;have hint:2≠40:=by{decide};have hgs:∀{u:Value}{xs:List Int},OI W (c.B+1) u xs->OI (W.setCell ⟨g,i*6+4,none⟩ (.int .i64 (st.getD (R.getD i (.z,0)).2.toNat 0))) (c.B+1) u xs:=fun{u xs} hu=>bX hu gs (fun g' e e2=>fe hu h1 hint e e2);refine⟨bZ h.dS gs (fun g' e=>by cases e;omega),h.box.dB gs (fun e=>by cases e;omega),Nat.le_trans h.sz gs.size,⟨vs.set i ((vs.getD i ek).1,(vs.getD i ek).2.1,(vs.getD i ek).2.2.1,(vs.getD i ek).2.2.2.1,st.getD (R.getD i (.z,0)).2.toNat 0,(vs.getD i ek).2.2.2.2.2),?_,by simp[h2],fun j hj=>?_⟩,hgs h.wH,hgs h.Oc⟩;{rw[nP vs i _ (by omega)];exact hst.1};obtain⟨t0,t1,t2,t3,t4,t5⟩:=h3 j hj;rw[Lw.rq hi];by_cases e:j=i;{subst e;have e1:(vs.set j ((vs.getD j ek).1,(vs.getD j ek).2.1,(vs.getD j ek).2.2.1,(vs.getD j ek).2.2.2.1,st.getD (R.getD j (.z,0)).2.toNat 0,(vs.getD j ek).2.2.2.2.2)).getD j ek=((vs.getD j ek).1,(vs.getD j ek).2.1,(vs.getD j ek).2.2.1,(vs.getD j ek).2.2.2.1,st.getD (R.getD j (.z,0)).2.toNat 0,(vs.getD j ek).2.2.2.2.2):=by{rw[ah,List.getElem?_set_self (by omega)];rfl};have e2:((Lw.part st R j).set j (Lw.CZ st (R.getD j (.z,0)))).getD j .z=Lw.CZ st (R.getD j (.z,0)):=by{rw[ah,List.getElem?_set_self (by rw[Lw.uS];exact hi)];rfl};rw[e1,e2,Lw.CZ,ay hn];rw[Lw.x8 hi]at t0 t1 t2 t3 t5;exact⟨t0,t1,t2,t3,rfl,hgs t5⟩};have e1:(vs.set i ((vs.getD i ek).1,(vs.getD i ek).2.1,(vs.getD i ek).2.2.1,(vs.getD i ek).2.2.2.1,st.getD (R.getD i (.z,0)).2.toNat 0,(vs.getD i ek).2.2.2.2.2)).getD j ek=vs.getD j ek:=by{rw[ah,List.getElem?_set_ne (by omega),←ah]};have e2:((Lw.part st R i).set i (Lw.CZ st (R.getD i (.z,0)))).getD j .z=(Lw.part st R i).getD j .z:=by{rw[ah,List.getElem?_set_ne (by omega),←ah]};rw[e1,e2];exact⟨t0,t1,t2,t3,t4,hgs t5⟩
theorem nu (a:Option Addr) (len cap:Nat) (fs:List Fn) (d:ByteArray) (hv:Hg.valid fs d=true) (k:Nat) (hk:k<len) (w:World) (hs:FL w a len fs):Calls Tryz.prog 68 #[.agg #[.slice a len cap, .string d], .int .i64 k] w fun e w'=>∃v,e= .returned v/\lX w' w.heap.size v (Lw.func fs (Mn.fn fs k) (aG.ends (Mn.fn fs k).b) (aG.aS (Mn.fn fs k).b) (Mn.wP fs k))/\Below w.heap.size w w':=by
 have hl:=hs.1
 have V:=Mn.GG hv
 obtain⟨Od,mo,hres⟩:=Lw.Ga hv (k:=k) (by omega)
 have hA:=V.acc k (by omega)
 have kK:=Lw.rM hres
 have Al:=Mn.EO V (k:=k) (by omega)
 have hall:St.bi (Mn.fn fs k).b=true:=by have:=Md.bf V.all (j:=k) (by omega);simp only[Md.qA,au]at this;exact this.2.2.2.2
 have hl4:len<=4:=by have:=V.len.2;omega
 obtain⟨F,hF⟩:∃F,Mn.fn fs k=F:=⟨_,rfl⟩
 obtain⟨H,hH⟩:∃H,Mn.wP fs k=H:=⟨_,rfl⟩
 obtain⟨E,hE⟩:∃E,aG.ends F.b=E:=⟨_,rfl⟩
 obtain⟨O,hO⟩:∃O,aG.aS F.b=O:=⟨_,rfl⟩
 rw[hF,hH]at hres
 rw[hF]at kK Al hall
 rw[hF,hH]at hA
 rw[hE,hO]at hA
 rw[hF,hH,hE,hO]
 have PE:(k:Int)<(len:Int):=by omega
 have hB1:=aA w (.cells #[.slice a len cap, .string d] 87)
 have hM1:iX (w.alloc (.cells #[.slice a len cap, .string d] 87)) w.heap.size 87 [.slice a len cap, .string d]:=heap_alloc_last w _
 obtain⟨W1,hW1⟩:∃X,w.alloc (.cells #[.slice a len cap, .string d] 87)=X:=⟨_,rfl⟩
 rw[hW1]at hB1 hM1
 have hs1:=hs.kept hB1
 have hcell:∃b off,a=some ⟨b,off,none⟩/\∃ba bl bc,W1.cell? ⟨b,off+k*4,none⟩=some (.int .i64 F.a)/\W1.cell? ⟨b,off+k*4+1,none⟩=some (.int .i64 F.l)/\W1.cell? ⟨b,off+k*4+2,none⟩=some (.int .i64 F.g)/\W1.cell? ⟨b,off+k*4+3,none⟩=some (.slice ba bl bc)/\SL W1 ba bl F.b:=by obtain⟨-,-,h0|⟨b,off,e,hb,hx⟩⟩:=hs1;{omega};obtain⟨x0,x1,x2,ba,bl,bc,x3,hsl⟩:=hx k hk;have e2:fs.getD k .z=F:=hF;rw[e2]at x0 x1 x2 hsl;exact⟨b,off,e,ba,bl,bc,x0,x1,x2,x3,hsl⟩
 obtain⟨fb,fo,rfl,ba,bl,bc,x0,x1,x2,x3,hsl⟩:=hcell
 have hbl:F.b.length=bl:=hsl.1
 subst hbl
 have m0:=hM1.cell (j:=0) rfl
 have hB2:=aA W1 (.cells #[.int .i64 F.a, .int .i64 F.l, .int .i64 F.g, .slice ba F.b.length bc] 104)
 have hF2:iX (W1.alloc (.cells #[.int .i64 F.a, .int .i64 F.l, .int .i64 F.g, .slice ba F.b.length bc] 104)) W1.heap.size 104 [.int .i64 F.a, .int .i64 F.l, .int .i64 F.g, .slice ba F.b.length bc]:=heap_alloc_last W1 _
 obtain⟨W2,hW2⟩:∃X,W1.alloc (.cells #[.int .i64 F.a, .int .i64 F.l, .int .i64 F.g, .slice ba F.b.length bc] 104)=X:=⟨_,rfl⟩
 rw[hW2]at hB2 hF2
 have hM2:=hM1.kept hB2
 have n0:=hM2.cell (j:=0) rfl
 have n1:=hM2.cell (j:=1) rfl
 have He:=hB1.trans (hB2.mono hB1.size)
 have jM:=jy (some ⟨fb,fo,none⟩) len cap fs d k hk Od W2 (hs1.kept hB2)
 have e2:fs.getD k .z=F:=hF
 rw[e2,hres]at jM
 go_enter Tryz.func68,Tryz.ntmps68
 go_wp2_with fail
 refine jM.mono ?_
 rintro e w3 ⟨v3,mo3,rfl,ho3,hB3⟩
 dsimp only
 obtain⟨ho3,-⟩:=ho3 H mo rfl
 obtain⟨ha,hc,rfl,-⟩:=ho3.slice
 have Vl:H.length=F.b.length:=hA.lH
 have Vz:=hF2.kept hB3
 have f3:=Vz.cell (j:=3) rfl
 have eU:=(hsl.kept hB2).kept hB3
 have aY:=mV ba F.b.length bc F.b (by omega) w3 eU
 rw[kK,hE,hO]at aY
 clear jM x0 x1 x2 x3 m0 n0 n1
 go_wp2_with fail
 refine aY.mono ?_
 rintro e w4 ⟨gE,cE,gO,cO,rfl,X6,hB4⟩
 dsimp only
 obtain⟨PZ,N8⟩:=X6 trivial
 have Hf:=Vz.kept hB4
 have f0:=Hf.cell (j:=0) rfl
 have f1:=Hf.cell (j:=1) rfl
 have f2:=Hf.cell (j:=2) rfl
 have f3':=Hf.cell (j:=3) rfl
 have bO:=aA w4 (.cells #[.slice none 0 0, .slice none 0 0, .int .i64 (F.a+F.l), .slice ha F.b.length hc, .slice (some ⟨gE,0,none⟩) F.b.length cE, .slice ba F.b.length bc, .int .i64 F.g] 145)
 have hbx:aU (w4.alloc (.cells #[.slice none 0 0, .slice none 0 0, .int .i64 (F.a+F.l), .slice ha F.b.length hc, .slice (some ⟨gE,0,none⟩) F.b.length cE, .slice ba F.b.length bc, .int .i64 F.g] 145)) w4.heap.size [.slice none 0 0, .slice none 0 0, .int .i64 (F.a+F.l), .slice ha F.b.length hc, .slice (some ⟨gE,0,none⟩) F.b.length cE, .slice ba F.b.length bc, .int .i64 F.g]:=aU.new w4 _ _
 have VA:w4.heap.size+1<=(w4.alloc (.cells #[.slice none 0 0, .slice none 0 0, .int .i64 (F.a+F.l), .slice ha F.b.length hc, .slice (some ⟨gE,0,none⟩) F.b.length cE, .slice ba F.b.length bc, .int .i64 F.g] 145)).heap.size:=by simp
 obtain⟨W5,Oe⟩:∃X,w4.alloc (.cells #[.slice none 0 0, .slice none 0 0, .int .i64 (F.a+F.l), .slice ha F.b.length hc, .slice (some ⟨gE,0,none⟩) F.b.length cE, .slice ba F.b.length bc, .int .i64 F.g] 145)=X:=⟨_,rfl⟩
 rw[Oe]at bO hbx VA
 rw[Vl]at ho3
 have xW:=hB3.trans (hB4.mono hB3.size)
 have Og:IL w4 ha F.b.length H:=((OI.il ho3).2).kept hB4
 have Oh:IL w4 (some ⟨gE,0,none⟩) F.b.length E:=(OI.il PZ).2
 have Oj:IL w4 (some ⟨gO,0,none⟩) F.b.length O:=(OI.il N8).2
 have Ol:=eU.kept hB4
 have hs4:=((hs1.kept hB2).kept hB3).kept hB4
 have T:TX (⟨w4.heap.size,ha,hc,some ⟨gE,0,none⟩,cE,ba,bc,fs,F,E,O,H⟩:LX) w4:=⟨Nat.le_refl _,Og,Oh,Ol,hA,Al,hall,V⟩
 have K5:MK (⟨w4.heap.size,ha,hc,some ⟨gE,0,none⟩,cE,ba,bc,fs,F,E,O,H⟩:LX) w4 W5 (.slice none 0 0) (.slice none 0 0) [] (fun _=>False):=⟨bO,hbx,VA,⟨[],World.ownsRow_nil _ _ _ _,rfl,fun j hj=>by simp at hj,fun j hj=>by simp at hj⟩,OI.nil _ _⟩
 have X7:=hM2.kept xW
 have hBw:=He.trans (xW.mono He.size)
 have g0:=(Hf.kept bO).cell (j:=0) rfl
 obtain⟨ln,hln⟩:=Int.eq_ofNat_of_zero_le Al.2.2.1
 have Om:F.l.toNat=ln:=by omega
 have HC:=ae (ak T (ak K5 (ak Hf (ak X7 (ak hBw (ak hs4 (ak Oj (ak Om hln))))))))
 have hF5:-1<=F.a/\F.a<=3:=by omega
 have hl5:-1<=F.l/\F.l<=3:=by omega
 have aaB:=Al.2.2.2.2.2
 have Ee:=Al.2.2.2.2.1
 clear aY f3 hbx VA bO Og Oh Oj Ol hs4 T K5 X7 hBw xW Hf Vz eU hF2 hM2 hM1 ho3 PZ N8 hB3 hB4 hB2 He hB1 hs1 hs hsl hall kK hres Od hv V hA Al e2 hF hH hE hO hln Om X6
 go_wp2
 go_loopw [13] (fun vi wr=>∃(i:Nat)(v vg:Value),vi= .int .i64 (F.a+(i:Int))/\i<=ln/\MK (⟨w4.heap.size,ha,hc,some ⟨gE,0,none⟩,cE,ba,bc,fs,F,E,O,H⟩:LX) w4 wr v vg ((Lw.first F).take i) (fun _=>False)) (fun vi _=>(F.a+F.l-intOf vi).toNat)
 case atStart=>exact⟨0,_,_,by simp,Nat.zero_le _,HC.out.2.1⟩
 case round=>
  obtain⟨i,v,vg,rfl,hi,K⟩:=hrel
  have hll:=HC.out.2.2.2.2.2.2.2.2
  have q2:wr.cell? ⟨w4.heap.size,2,none⟩=some (.int .i64 (F.a+F.l)):=(K.box.2 2 _ rfl).1
  have hlB:w4.heap.size<wr.heap.size:=K.sz
  by_cases hlt:i<ln
  · have bJ:F.a+(i:Int)<F.a+F.l:=by{omega};have hfl:((Lw.first F).take i).length<=1000:=by{rw[List.length_take];omega};have hadd:=aM (⟨w4.heap.size,ha,hc,some ⟨gE,0,none⟩,cE,ba,bc,fs,F,E,O,H⟩:LX) w4 wr v vg ((Lw.first F).take i) (fun _=>False) (Nat.le_refl _) K ⟨1,F.a+(i:Int),0,0,0,[]⟩ none 0 0 (OI.nil _ _) (fun g e=>by cases e) (-1) hfl;have HFM:=ae (Lw.xB (f:=F) (i:=i) (by rw[HC.out.2.2.2.2.2.2.2.1];exact hlt));clear K hfl hll;go_wp2_with fail;refine hadd.mono ?_;rintro e X1 ⟨v1,gP,rfl,K1,-⟩;dsimp only;rw[←HFM.out]at K1;clear hadd q2;go_wp2;go_roundw;(case rel=>exact⟨i+1,v1,gP,by simp;omega,hlt,K1⟩);case measure=>simp[intOf];omega
  · have hie:i=ln:=by omega
    have bJ:¬F.a+(i:Int)<F.a+F.l:=by omega
    have K2:MK (⟨w4.heap.size,ha,hc,some ⟨gE,0,none⟩,cE,ba,bc,fs,F,E,O,H⟩:LX) w4 wr v vg (Lw.dR fs F E O H 0).1 (fun _=>False):=by have e:(Lw.first F).take i=Lw.first F:=List.take_of_length_le (by rw[Lw.zk,HC.out.2.2.2.2.2.2.2.1];omega);rw[e]at K;exact K
    have Fu:=HC.out.2.2.1.kept K2.dS
    have r3:=Fu.cell (j:=3) rfl
    have lM:=aA wr (.cells #[] 2)
    have HK:=ae (K2.kept lM)
    have HO:Hid (OI (wr.alloc (.cells #[] 2)) (w4.heap.size+1) (.slice (some ⟨wr.heap.size,0,none⟩) 0 0) []):=OI.mono (OI.empty wr) hlB
    have eF:Hid (∀g,(Value.slice (some ⟨wr.heap.size,0,none⟩) 0 0).ownBlock=some g->v.ownBlock≠some g/\vg.ownBlock≠some g/\¬False):=fun g e=>by simp only[Value.ownBlock,af]at e;subst e;obtain⟨vs,h1,-⟩:=K2.row;exact⟨fun e=>by have:=(bE h1 e).2;omega,fun e=>by have:=(bE K2.wH e).2;omega,fun h=>h⟩
    have r3':=(Fu.kept lM).cell (j:=3) rfl
    clear K K2 lM Fu hie hll
    go_wp2
    clear q2 r3 r3'
    go_loopw [14,15] (fun vs vi wx=>∃(i:Nat)(v vg sv:Value)(P:Nat->Prop),vs=sv/\vi= .int .i64 (i:Int)/\i<=F.b.length/\MK (⟨w4.heap.size,ha,hc,some ⟨gE,0,none⟩,cE,ba,bc,fs,F,E,O,H⟩:LX) w4 wx v vg (Lw.dR fs F E O H i).1 P/\OI wx (w4.heap.size+1) sv (Lw.dR fs F E O H i).2/\(∀g,sv.ownBlock=some g->v.ownBlock≠some g/\vg.ownBlock≠some g/\¬P g)/\(∀g,P g->g<wx.heap.size)) (fun _ vi _=>F.b.length-(intOf vi).toNat)
    case atStart=>exact⟨0,v,vg,_,_,rfl,rfl,Nat.zero_le _,HK.out,HO.out,eF.out,fun g h=>h.elim⟩
    case round=>
     obtain⟨i2,v2,rT,sv,P,hse,rfl,hi2,K,hsv,hap,X8⟩:=hrel
     have VB:=hse.symm
     clear hse
     subst VB
     clear HK HO eF
     obtain⟨j0,hj,hy0,hy1,hy2⟩:=info_parts bN
     have Fu:=HC.out.2.2.1.kept K.dS
     have r3:=Fu.cell (j:=3) rfl
     have aaD:w4.heap.size<wr.heap.size:=K.sz
     have P7:=Lw.om fs F E O H i2
     have VC:=HC.out.2.2.2.2.2.2.2.1
     by_cases hlt:i2<F.b.length
     · have bJ:(i2:Int)<(F.b.length:Int):=by{omega};obtain⟨vs,hrow,-⟩:=K.row;obtain⟨va,vc,rfl⟩:=cz hrow;have q0:wr.cell? ⟨w4.heap.size,0,none⟩=some (.slice va (Lw.dR fs F E O H i2).1.length vc):=(K.box.2 0 _ rfl).1;have Hl:wr.ownsRow (w4.heap.size+1) 2 1 sv i2 ((Lw.dR fs F E O H i2).2.map iv):=by{unfold OI at hsv;rwa [P7.2]at hsv};obtain⟨sa,sc,rfl⟩:=cz Hl;obtain⟨un,hun⟩:∃un,(Lw.dR fs F E O H i2).1.length=un:=⟨_,rfl⟩;have lM:=aA wr (.cells #[.int .i64 (un:Int)] 2);have VD:=ae (aH Hl lM);have P8:=ae (K.kept lM);have VE:un<=900:=by{omega};have CE:=ae (ak hun P7.2);have eF:=ae hap;have X9:=ae X8;rw[hun]at q0;have P9:∃b o,ha=some ⟨b,o,none⟩/\b<w4.heap.size/\w4.cell? ⟨b,o+i2,none⟩=some (.int .i64 (H.getD i2 0)):=by{obtain⟨hl,-,h3|⟨b,o,e,hb,hh⟩⟩:=HC.out.1.hH;{have:F.b.length=0:=h3;omega};exact⟨b,o,e,hb,hh i2 hlt⟩};obtain⟨hb',ho',rfl,lH,P9⟩:=P9;have Ya:Hid (∀X:World,Below w4.heap.size w4 X->X.cell? ⟨hb',ho'+i2,none⟩=some (.int .i64 (H.getD i2 0))):=fun X hX=>(hX.cell (p:=⟨hb',ho'+i2,none⟩) lH).trans P9;obtain⟨u,hu⟩:∃u,H.getD i2 0=u:=⟨_,rfl⟩;have HU:=ae hu;rw[hu]at Ya;have Vp:=K.sz;have VF:=lM.size;clear K hsv Hl hap X8 hrow Fu hun P7 P9 hu lM VC;go_wp2_with(at_builtin;refine wpList_append_own_at _ rfl _ _ 35 rfl (w4.heap.size+1) 2 j0 (.int .i64 0) 1 8 Tryz.underlying35 hj hy0 hy1 hy2 rfl (by decide) (.slice sa i2 sc) i2 _ rfl VD.out ⟨wr.heap.size,0,none⟩ 1 1 [.int .i64 (un:Int)] rfl rfl (cell_one_new _ _ _) (by simp[Value.oneCell']) (by simp only[maxLen];omega) (by omega) (by simp;omega) ?_;intro sv' wB hown2 hgrow2 _ Cw;obtain⟨g2,cap2,rfl⟩:=ownsRow_succ hown2;have KB:=P8.out.other (Nat.le_refl _) hgrow2 (fun g e=>⟨(bE VD.out e).1,(eF.out g e).1,(eF.out g e).2.1,(eF.out g e).2.2⟩);have cB:=Ya.out wB KB.dS;have ja:=ae (ak hown2 (ak hgrow2 (ak Cw KB)));have m0:=(HC.out.2.2.2.1.kept KB.dS).cell (j:=0) rfl;have m1:=(HC.out.2.2.2.1.kept KB.dS).cell (j:=1) rfl;clear hown2 hgrow2 Cw KB;refine FQ ?_);unfold Hid;obtain⟨o1,o2,o3,KB⟩:=ja.out;have Ep:Hid (∀g,(Value.slice (some ⟨g2,0,none⟩) (i2+1) cap2).ownBlock=some g->Value.ownBlock (.slice va un vc)≠some g/\rT.ownBlock≠some g/\¬P g/\g<wB.heap.size):=fun g e=>by{have hlt2:=(bE o1 e).2;rcases o3 with e'|e';{rw[e']at e;have:=eF.out g e;rw[CE.out.1]at this;exact⟨this.1,this.2.1,this.2.2,hlt2⟩};rw[e']at e;simp only[af]at e;obtain⟨vs',hr',-⟩:=P8.out.row;rw[CE.out.1]at hr';have hgg:=(bE hr' (g:=g));have hgo:=fun e2=>(bE P8.out.wH (g:=g) e2).2;refine⟨fun e2=>by have:=(hgg e2).2;omega,fun e2=>by have:=hgo e2;omega,fun h=>by have:=X9.out g h;simp only[World.size_alloc]at e;omega,hlt2⟩};rw[CE.out.1]at KB;have Oa:Hid (OI wB (w4.heap.size+1) (.slice (some ⟨g2,0,none⟩) (i2+1) cap2) ((Lw.dR fs F E O H i2).2++[(un:Int)])):=by{show World.ownsRow _ _ _ _ _ _ _;rw[List.length_append,CE.out.2,List.length_singleton,List.map_append];exact o1};have Yb:=ae KB;have HSZ:Hid (wr.heap.size<=wB.heap.size):=Nat.le_trans VF o2.size;clear o1 o2 o3 KB ja VD P8 eF;by_cases hu0:0<=u;{have hcon:=r9 HC.out.1 Yb.out (some ⟨fb,fo,none⟩) len cap d (some ⟨gO,0,none⟩) cO HC.out.2.2.2.2.2.1 HC.out.2.2.2.2.2.2.1 i2 hlt (by show 0<=H.getD i2 0;rw[HU.out];exact hu0) (by rw[CE.out.1];exact VE);go_wp2_with fail;refine hcon.mono ?_;rintro e X1 ⟨v3,NV,rfl,K3,F3⟩;dsimp only;have Oo:=ae (ak K3.tight F3);clear hcon K3 F3 m0 m1 cB;go_wp2;go_roundw;(case rel=>obtain⟨K3,F3⟩:=Oo.out;refine⟨i2+1,v3,NV,_,(fun g=>(P g\/wB.heap.size<=g)/\g<X1.heap.size),rfl,by simp,hlt,?_,?_,fun g e=>?_,fun g h=>h.2⟩;{show MK _ _ _ _ _ ((Lw.dR fs F E O H i2).1++(if 0<=H.getD i2 0 then Lw.step fs F E O H i2 else[])) _;rw[ay (by rw[HU.out];exact hu0)];exact K3};{show OI _ _ _ ((Lw.dR fs F E O H i2).2++[((Lw.dR fs F E O H i2).1.length:Int)]);rw[CE.out.1];exact F3.rows Oa.out (fun g e=>⟨by have:=(bE Oa.out e).1;show g≠w4.heap.size;omega,(Ep.out g e).1,(Ep.out g e).2.1⟩)};have h2:=Ep.out g e;refine⟨?_,?_,fun h=>?_⟩;{rcases F3.v1 with e'|⟨g',e',hg'⟩;{rw[e'];exact h2.1};rw[e'];simp only[ne_eq,af];omega};{rcases F3.g1 with e'|⟨g',e',hg'⟩;{rw[e'];exact h2.2.1};rw[e'];simp only[ne_eq,af];omega};rcases h.1 with h'|h';{exact h2.2.2.1 h'};omega);case measure=>simp[intOf];omega};clear m0 m1;go_wp2;go_roundw;(case rel=>refine⟨i2+1, .slice va un vc,rT,_,P,rfl,by simp,hlt,?_,?_,fun g e=>?_,fun g h=>?_⟩;{show MK _ _ _ _ _ ((Lw.dR fs F E O H i2).1++(if 0<=H.getD i2 0 then Lw.step fs F E O H i2 else[])) _;rw[ax (by rw[HU.out];exact hu0),List.append_nil];exact Yb.out};{show OI _ _ _ ((Lw.dR fs F E O H i2).2++[((Lw.dR fs F E O H i2).1.length:Int)]);rw[CE.out.1];exact Oa.out};{have h2:=Ep.out g e;exact⟨h2.1,h2.2.1,h2.2.2.1⟩};have:=X9.out g h;have:=HSZ.out;omega);case measure=>simp[intOf];omega
     · have Hm:i2=F.b.length:=by omega
       have bJ:¬(i2:Int)<(F.b.length:Int):=by omega
       have r2:=Fu.cell (j:=2) rfl
       have q2:wr.cell? ⟨w4.heap.size,2,none⟩=some (.int .i64 (F.a+F.l)):=(K.box.2 2 _ rfl).1
       have Qa:MK (⟨w4.heap.size,ha,hc,some ⟨gE,0,none⟩,cE,ba,bc,fs,F,E,O,H⟩:LX) w4 wr v2 rT (Lw.dR fs F E O H F.b.length).1 P:=by rw[←Hm];exact K
       have Ho:OI wr (w4.heap.size+1) sv (Lw.lZ fs F E O H):=by unfold Lw.lZ;rw[←Hm];exact hsv
       have VG:=Lw.om fs F E O H F.b.length
       have Yc:=ae (Lw.Ch HC.out.1.acc)
       have HRW:Hid (Lw.raw fs F E O H=(Lw.dR fs F E O H F.b.length).1++Lw.last F):=rfl
       have Oq:Hid ((Lw.lZ fs F E O H).length=F.b.length):=VG.2
       have Er:Hid (∀(XX:World)(vx Es:Value),MK (⟨w4.heap.size,ha,hc,some ⟨gE,0,none⟩,cE,ba,bc,fs,F,E,O,H⟩:LX) w4 XX vx Es (Lw.raw fs F E O H) P->FX (⟨w4.heap.size,ha,hc,some ⟨gE,0,none⟩,cE,ba,bc,fs,F,E,O,H⟩:LX) v2 rT vx Es wr XX->OI XX (w4.heap.size+1) sv (Lw.lZ fs F E O H)):=fun XX vx Es hK hX=>hX.rows Ho (fun g e=>⟨by have:=(bE Ho e).1;show g≠w4.heap.size;omega,(hap g e).1,(hap g e).2.1⟩)
       obtain⟨R,hR⟩:∃R,Lw.raw fs F E O H=R:=⟨_,rfl⟩
       obtain⟨st,hst⟩:∃st,Lw.lZ fs F E O H=st:=⟨_,rfl⟩
       have VH:Hid (Lw.func fs F E O H=if R.length<=300 then R.map (Lw.CZ st)else[]):=by show _=_;unfold Lw.func;rw[hR,hst]
       have hRl:R.length<=1000:=by rw[←hR,HRW.out,List.length_append];(have:(Lw.last F).length<=2:=by unfold Lw.last;split<;>simp);omega
       rw[hR]at Yc HRW Er
       rw[hst]at Oq Er
       clear K hsv Fu Ho P7 Hm hR hst hap
       have Qb:Hid (∀(XX:World)(vx Es:Value),MK (⟨w4.heap.size,ha,hc,some ⟨gE,0,none⟩,cE,ba,bc,fs,F,E,O,H⟩:LX) w4 XX vx Es R P->FX (⟨w4.heap.size,ha,hc,some ⟨gE,0,none⟩,cE,ba,bc,fs,F,E,O,H⟩:LX) v2 rT vx Es wr XX->PK (⟨w4.heap.size,ha,hc,some ⟨gE,0,none⟩,cE,ba,bc,fs,F,E,O,H⟩:LX) w4 XX vx Es sv R st 0):=fun XX vx Es hK hX=>PK.of hK (Er.out XX vx Es hK hX)
       clear Er
       rcases Ee with hg|hg
       case' inl=>
        rw[hg]at r2
        replace HRW:Hid (R=(Lw.dR fs F E O H F.b.length).1++[(⟨1,F.a+F.l+20,0,0,0,[]⟩,-1)]++[(⟨10,0,F.a+F.l+20,0,0,[]⟩,-1)]):=by show _=_;rw[HRW.out];unfold Lw.last;rw[ay hg,List.append_assoc];rfl
        have wJ:=aM (⟨w4.heap.size,ha,hc,some ⟨gE,0,none⟩,cE,ba,bc,fs,F,E,O,H⟩:LX) w4 wr v2 rT (Lw.dR fs F E O H F.b.length).1 P (Nat.le_refl _) Qa ⟨1,F.a+F.l+20,0,0,0,[]⟩ none 0 0 (OI.nil _ _) (fun g e=>by cases e) (-1) (by omega)
        clear Qa
        go_wp2_with fail
        refine wJ.mono ?_
        rintro e X1 ⟨v3,NV,rfl,K3,F3⟩
        dsimp only
        have Fw:=aM (⟨w4.heap.size,ha,hc,some ⟨gE,0,none⟩,cE,ba,bc,fs,F,E,O,H⟩:LX) w4 X1 v3 NV _ P (Nat.le_refl _) K3 ⟨10,0,F.a+F.l+20,0,0,[]⟩ none 0 0 (OI.nil _ _) (fun g e=>by cases e) (-1) (by rw[List.length_append,List.length_singleton];omega)
        clear wJ r2 q2 r3
        go_wp2_with fail
        refine Fw.mono ?_
        rintro e XF ⟨vF,gF,rfl,K4,F4⟩
        dsimp only
        rw[←HRW.out]at K4
        have Ot:=ae (Qb.out XF vF gF K4 (F3.trans F4))
        clear Fw K3 F3 K4 F4 Qb
       case' inr=>
        rw[hg]at r2
        replace HRW:Hid (R=(Lw.dR fs F E O H F.b.length).1++[(⟨10,0,F.a+F.l,0,0,[]⟩,-1)]):=by show _=_;rw[HRW.out];unfold Lw.last;rw[ax (by omega)];rfl
        have wJ:=aM (⟨w4.heap.size,ha,hc,some ⟨gE,0,none⟩,cE,ba,bc,fs,F,E,O,H⟩:LX) w4 wr v2 rT (Lw.dR fs F E O H F.b.length).1 P (Nat.le_refl _) Qa ⟨10,0,F.a+F.l,0,0,[]⟩ none 0 0 (OI.nil _ _) (fun g e=>by cases e) (-1) (by omega)
        clear Qa
        go_wp2_with fail
        refine wJ.mono ?_
        rintro e XF ⟨vF,gF,rfl,K4,F4⟩
        dsimp only
        rw[←HRW.out]at K4
        have Ot:=ae (Qb.out XF vF gF K4 F4)
        clear wJ r2 q2 r3 K4 F4 Qb
       all_goals have hR1:1<=R.length:=by{rw[HRW.out];simp};obtain⟨Rm,Fx,-⟩:=Ot.out.row;obtain⟨gv,cv,rfl⟩:∃gv cv,vF= .slice (some ⟨gv,0,none⟩) R.length cv:=by{rcases Fx.2 with⟨-,h0⟩|⟨g',cap',cur,h',-⟩;{omega};exact⟨g',cap',h'⟩};have Et:=Ot.out.wH;have Af:=Ot.out.Oc;unfold OI at Et Af;rw[List.length_map]at Et;rw[Oq.out]at Af;obtain⟨ga,gc,rfl⟩:=cz Et;obtain⟨sa,sc,rfl⟩:=cz Af;clear Fx Et Af;have hRZ:(R.length:Int)<=1000:=by{omega};go_wp2;go_loopw [17] (fun vi wx=>∃i:Nat,vi= .int .i64 (i:Int)/\i<=R.length/\PK (⟨w4.heap.size,ha,hc,some ⟨gE,0,none⟩,cE,ba,bc,fs,F,E,O,H⟩:LX) w4 wx (.slice (some ⟨gv,0,none⟩) R.length cv) (.slice ga R.length gc) (.slice sa F.b.length sc) R st i) (fun vi _=>R.length-(intOf vi).toNat);(case atStart=>exact⟨0,rfl,Nat.zero_le _,Ot.out⟩);case round=>obtain⟨i3,rfl,hi3,hP⟩:=hrel;have q0:wr.cell? ⟨w4.heap.size,0,none⟩=some (.slice (some ⟨gv,0,none⟩) R.length cv):=(hP.box.2 0 _ rfl).1;have q1:wr.cell? ⟨w4.heap.size,1,none⟩=some (.slice ga R.length gc):=(hP.box.2 1 _ rfl).1;have Ou:w4.heap.size<wr.heap.size:=hP.sz;by_cases hlt3:i3<R.length;{have Ov:(i3:Int)<(R.length:Int):=by{omega};have hmem:R.getD i3 (.z,0)∈R:=by{rw[ah,ai hlt3];exact List.getElem_mem hlt3};have Fy:=Yc.out _ hmem;have cG:∃b o,ga=some ⟨b,o,none⟩/\b<wr.heap.size/\wr.cell? ⟨b,o+i3,none⟩=some (.int .i64 (R.getD i3 (.z,0)).2):=by{have hil:=(OI.il hP.wH).2;obtain⟨hl,-,h3|⟨b,o,e,hb,hh⟩⟩:=hil;{omega};refine⟨b,o,e,hb,?_⟩;rw[hh i3 hlt3,ah,ah,List.getElem?_map,ai hlt3];rfl};obtain⟨gb,go,rfl,lG,cG⟩:=cG;obtain⟨tg,Ow⟩:∃tg,(R.getD i3 (.z,0)).2=tg:=⟨_,rfl⟩;by_cases ht0:0<=tg;{have cT:∃b o,sa=some ⟨b,o,none⟩/\b<wr.heap.size/\wr.cell? ⟨b,o+tg.toNat,none⟩=some (.int .i64 (st.getD tg.toNat 0)):=by{have hil:=(OI.il hP.Oc).2;obtain⟨hl,-,h3|⟨b,o,e,hb,hh⟩⟩:=hil;{omega};exact⟨b,o,e,hb,hh tg.toNat (by omega)⟩};obtain⟨sb,so,rfl,lS,cT⟩:=cT;have Ox:=ae (fun(X:World) hX=>PK.fill (hP.kept (W':=X) hX) (Nat.le_refl _) hlt3 (by rw[Ow];exact ht0));rw[Ow]at Ox cG Fy;obtain⟨tn,rfl⟩:=Int.eq_ofNat_of_zero_le ht0;rw[az]at cT Ox;obtain⟨y,hy⟩:∃y,st.getD tn 0=y:=⟨_,rfl⟩;rw[hy]at cT Ox;have aaF:(tn:Int)<(F.b.length:Int):=by{omega};obtain⟨vs1,yV,VI,-⟩:=hP.row;have hgv:=(bE yV rfl).2;have g4:=(jR vs1 i3 (by omega)).2.2.2.2.1;have c4:=(yV.cellAt (i3*6+4) (by omega)).trans g4;have f4:=yV.frozenAt (i3*6+4);obtain⟨z4,Yd⟩:∃z,(vs1.getD i3 ek).2.2.2.2.1=z:=⟨_,rfl⟩;rw[Yd]at c4;have b0:∀p:bU wr,p.to.cell? ⟨w4.heap.size,0,none⟩=some (.slice (some ⟨gv,0,none⟩) R.length cv):=fun p=>(p.h.cell (p:=⟨w4.heap.size,0,none⟩) Ou).trans q0;have b1:∀p:bU wr,p.to.cell? ⟨w4.heap.size,1,none⟩=some (.slice (some ⟨gb,go,none⟩) R.length gc):=fun p=>(p.h.cell (p:=⟨w4.heap.size,1,none⟩) Ou).trans q1;have b2:∀p:bU wr,p.to.cell? ⟨gb,go+i3,none⟩=some (.int .i64 (tn:Int)):=fun p=>(p.h.cell (p:=⟨gb,go+i3,none⟩) lG).trans cG;have b3:∀p:bU wr,p.to.cell? ⟨sb,so+tn,none⟩=some (.int .i64 y):=fun p=>(p.h.cell (p:=⟨sb,so+tn,none⟩) lS).trans cT;have Hq:Hid (∀p:bU wr,p.to.cell? ⟨gv,i3*6+4,none⟩=some (.int .i64 z4)/\p.to.frozen? ⟨gv,i3*6+4,none⟩=false):=fun p=>⟨(p.h.cell (p:=⟨gv,i3*6+4,none⟩) hgv).trans c4,(p.h.frozen (p:=⟨gv,i3*6+4,none⟩) hgv).trans f4⟩;have hne:=bU.any wr;clear hP yV VI c4 f4 g4 Yd hy Ow hmem cT;go_wp2;refine dG 17 (by kernel_rfl) (by kernel_rfl) ?_;simp only[List.take_succ_cons,List.take_zero,List.drop_succ_cons,List.drop_zero];(repeat(go_big_quiet_step (fail)));refine wpQuiet_nil ?_;rintro _ ⟨pw,rfl⟩;have hc4:=(Hq.out pw).1;have Eu:=(Hq.out pw).2;have HFin:=ae (Ox.out _ pw.h);clear b0 b1 b2 b3 hne Hq Ox q0 q1 cG;obtain⟨X3,Ye⟩:∃X3,pw.to=X3:=⟨_,rfl⟩;rw[Ye]at hc4 Eu HFin ⊢;clear Ye;go_wp2;go_roundw;(case rel=>exact⟨i3+1,by simp,hlt3,HFin.out⟩);case measure=>simp[intOf];omega};have HFin:=ae (hP.skip hlt3 (by omega));rw[Ow]at cG;clear hP Ow hmem Fy;go_wp2;go_roundw;(case rel=>exact⟨i3+1,by simp,hlt3,HFin.out⟩);case measure=>simp[intOf];omega};have Hr:i3=R.length:=by{omega};have Ov:¬(i3:Int)<(R.length:Int):=by{omega};have Oy:=HC.out.2.2.2.2.1.trans (hP.dS.mono HC.out.2.2.2.2.1.size);have hw4:=HC.out.2.2.2.2.1.size;by_cases Ht:R.length<=300;{have Oz:¬(300:Int)<(R.length:Int):=by{omega};have HF:Hid (lX wr w.heap.size (.slice (some ⟨gv,0,none⟩) R.length cv) (Lw.func fs F E O H)):=by{obtain⟨vs,h1,h2,h3⟩:=hP.row;have e:Lw.part st R i3=R.map (Lw.CZ st):=by{unfold Lw.part;rw[Hr,List.take_length,List.drop_length];simp};rw[e]at h3;have eL:(Lw.func fs F E O H).length=R.length:=by{rw[VH.out,ay Ht,List.length_map]};refine⟨gv,cv,vs,by rw[eL],?_,?_⟩;{rw[eL];exact qY h1 (by show w.heap.size<=w4.heap.size+1;omega)};rw[eL,VH.out,ay Ht];exact h3.mono (by show w.heap.size<=w4.heap.size+1;omega)};clear hP Hr;go_wp2;go_ret;exact⟨_,rfl,HF.out,Oy⟩};have Oz:(300:Int)<(R.length:Int):=by{omega};have lM:=aA wr (.cells #[] 40);have hBg:=Oy.trans (lM.mono Oy.size);have HF:Hid (lX (wr.alloc (.cells #[] 40)) w.heap.size (.slice (some ⟨wr.heap.size,0,none⟩) 0 0) (Lw.func fs F E O H)):=by{show lX _ _ _ _;rw[VH.out,ax Ht];exact⟨wr.heap.size,0,[],rfl,⟨rfl, .inr ⟨wr.heap.size,0,#[],rfl,by omega,World.alloc_heap_new wr _,Nat.le_refl _,by simp[maxLen],rfl,rfl⟩⟩,fun j hj=>by simp at hj⟩};clear hP Hr lM;go_wp2;go_ret;exact⟨_,rfl,HF.out,hBg⟩
theorem lX.mono {W:World}{n₀ n₁:Nat}{v:Value}{fs:List Ln}(h:lX W n₁ v fs)(hn:n₀<=n₁):lX W n₀ v fs:=by obtain⟨g,cap,vs,e,h1,h2⟩:=h;exact⟨g,cap,vs,e,qY h1 hn,h2.mono hn⟩
theorem lX.none (W:World)(n₀:Nat)(hn:n₀<=W.heap.size):lX (W.alloc (.cells #[] 40)) n₀ (.slice (some ⟨W.heap.size,0,none⟩) 0 0) []:=
 ⟨W.heap.size,0,[],rfl,⟨rfl, .inr ⟨W.heap.size,0,#[],rfl,hn,World.alloc_heap_new W _,Nat.le_refl _,by simp[maxLen],rfl,rfl⟩⟩,fun j hj=>by simp at hj⟩
theorem sN (a:Option Addr)(len cap:Nat)(fs:List Fn)(d:ByteArray)(hd:d.size<=maxLen)(k:Int)(w:World)(hs:FL w a len fs):Calls Tryz.prog 52 #[.agg #[.slice a len cap, .string d], .int .i64 k] w fun e w'=>∃v,e= .returned v/\lX w' w.heap.size v (Lw.eP fs d k)/\Below w.heap.size w w':=by have hl:=hs.1;have hB1:=aA w (.cells #[.slice a len cap, .string d] 87);have hM1:iX (w.alloc (.cells #[.slice a len cap, .string d] 87)) w.heap.size 87 [.slice a len cap, .string d]:=heap_alloc_last w _;obtain⟨W1,hW1⟩:∃X,w.alloc (.cells #[.slice a len cap, .string d] 87)=X:=⟨_,rfl⟩;rw[hW1]at hB1 hM1;have hs1:=hs.kept hB1;have hcon:=xx a len cap fs d hd W1 hs1;have c0:=hM1.cell (j:=0) rfl;have c1:=hM1.cell (j:=1) rfl;have hm:=hs.2.1;unfold maxLen at hm;clear hs;have bad:∀(W2:World),Below w.heap.size w W2->Lw.eP fs d k=[]->lX (W2.alloc (.cells #[] 40)) w.heap.size (.slice (some ⟨W2.heap.size,0,none⟩) 0 0) (Lw.eP fs d k)/\Below w.heap.size w (W2.alloc (.cells #[] 40)):=fun W2 hB e=>by{rw[e];exact⟨lX.none W2 _ hB.size,hB.trans ((aA W2 _).mono hB.size)⟩};rcases hv:Hg.valid fs d with _|_;{have HE:Hid (Lw.eP fs d k=[]):=by{show _=_;unfold Lw.eP;rw[ax (by rw[hv];simp)]};rw[hv]at hcon;go_enter Tryz.func52,Tryz.ntmps52;go_wp2_with fail;refine hcon.mono ?_;rintro e w2 ⟨rfl,hB2⟩;dsimp only;have HF:=ae (bad w2 (hB1.trans (hB2.mono hB1.size)) HE.out);clear hcon c0 c1 bad hs1;go_wp2;go_ret;exact⟨_,rfl,HF.out.1,HF.out.2⟩};rw[hv]at hcon;by_cases hk0:k<0;{have HE:Hid (Lw.eP fs d k=[]):=by{show _=_;unfold Lw.eP;rw[ax (by omega)]};go_enter Tryz.func52,Tryz.ntmps52;go_wp2_with fail;refine hcon.mono ?_;rintro e w2 ⟨rfl,hB2⟩;dsimp only;have HF:=ae (bad w2 (hB1.trans (hB2.mono hB1.size)) HE.out);clear hcon c0 c1 bad hs1;go_wp2;go_ret;exact⟨_,rfl,HF.out.1,HF.out.2⟩};by_cases hk1:(len:Int)<=k;{have HE:Hid (Lw.eP fs d k=[]):=by{show _=_;unfold Lw.eP;rw[ax (by omega)]};go_enter Tryz.func52,Tryz.ntmps52;go_wp2_with fail;refine hcon.mono ?_;rintro e w2 ⟨rfl,hB2⟩;dsimp only;have HF:=ae (bad w2 (hB1.trans (hB2.mono hB1.size)) HE.out);have d0:=(hM1.kept hB2).cell (j:=0) rfl;clear hcon c0 c1 bad hs1 hl;go_wp2;go_ret;exact⟨_,rfl,HF.out.1,HF.out.2⟩};obtain⟨kn,rfl⟩:=Int.eq_ofNat_of_zero_le (show 0<=k by omega);have HE:Hid (Lw.eP fs d (kn:Int)=Lw.func fs (Mn.fn fs kn) (aG.ends (Mn.fn fs kn).b) (aG.aS (Mn.fn fs kn).b) (Mn.wP fs kn)):=by{show _=_;unfold Lw.eP;rw[ay ⟨hv,by omega,by omega⟩,az]};go_enter Tryz.func52,Tryz.ntmps52;go_wp2_with fail;refine hcon.mono ?_;rintro e w2 ⟨rfl,hB2⟩;dsimp only;have hB3:=hB1.trans (hB2.mono hB1.size);have aY:=nu a len cap fs d hv kn (by omega) w2 (hs1.kept hB2);rw[←HE.out]at aY;have d0:=(hM1.kept hB2).cell (j:=0) rfl;have d1:=(hM1.kept hB2).cell (j:=1) rfl;clear hcon c0 c1 bad hs1 hl;go_wp2_with fail;refine aY.mono ?_;rintro e w4 ⟨v,rfl,ho,hB4⟩;dsimp only;have HF:=ae (ak (ho.mono hB3.size) (hB3.trans (hB4.mono hB3.size)));obtain⟨g,cap',rfl,-⟩:=ho.LL;clear aY ho hB4 d0 d1;go_wp2;go_ret;exact⟨_,rfl,HF.out.1,HF.out.2⟩
def KL (w:World)(B:Nat)(a:Option Addr)(len cap:Nat)(zs:List Int)(g c n:Nat)(W:World):Prop:=
 ∃vs ls,List.length ls=n/\List.length vs=n/\W.ownsRow w.heap.size 40 6 (.slice (some ⟨g,0,none⟩) n c) n (bS vs)/\fO W w.heap.size n vs ls/\aN w W B a len cap zs/\B<w.heap.size
section
variable {w W W' : World} {B : Nat} {a : Option Addr} {len cap : Nat} {zs : List Int} {g c n : Nat}
theorem KL.drawn (h:KL w B a len cap zs g c n W)(hd:aN W W' B a len cap zs):KL w B a len cap zs g c n W':=by obtain⟨vs,ls,h1,h2,h3,h4,h5,h6⟩:=h;exact⟨vs,ls,h1,h2,zg h3 hd h6,h4.other hd.2 h6,h5.andThen hd,h6⟩
theorem KL.dr (h:KL w B a len cap zs g c n W):aN w W B a len cap zs:=by obtain⟨vs,ls,h1,h2,h3,h4,h5,h6⟩:=h;exact h5
theorem KL.Pt (h:KL w B a len cap zs g c n W):∃ls,lX W w.heap.size (.slice (some ⟨g,0,none⟩) n c) ls/\aN w W B a len cap zs:=by obtain⟨vs,ls,h1,h2,h3,h4,h5,h6⟩:=h;subst h1;exact⟨ls,⟨g,c,vs,rfl,h3,h4⟩,h5⟩
theorem KL.app {g' c':Nat}{x:Ln}{vl:Value}(h:KL w B a len cap zs g c n W)(ho:OI W w.heap.size vl x.l)(vs:List Lv)(hv:∀vs',W.ownsRow w.heap.size 40 6 (.slice (some ⟨g,0,none⟩) n c) n (bS vs')->True)(hg:(W.alloc (.cells #[.int .i64 x.k, .int .i64 x.d, .int .i64 x.a, .int .i64 x.b, .int .i64 x.n,vl] 40)).grownBy W' (Value.slice (some ⟨g,0,none⟩) n c).ownBlock)(hrow:W.ownsRow w.heap.size 40 6 (.slice (some ⟨g,0,none⟩) n c) n (bS vs))(hvl:vs.length=n)(ls:List Ln)(hls:ls.length=n)(ht:fO W w.heap.size n vs ls)(hn:W'.ownsRow w.heap.size 40 6 (.slice (some ⟨g',0,none⟩) (n+1) c') (n+1) (bS vs++[.int .i64 x.k, .int .i64 x.d, .int .i64 x.a, .int .i64 x.b, .int .i64 x.n,vl])):KL w B a len cap zs g' c' (n+1) W':=by obtain⟨-,-,-,-,-,-,h5,h6⟩:=h;have hB1:=aA W (.cells #[.int .i64 x.k, .int .i64 x.d, .int .i64 x.a, .int .i64 x.b, .int .i64 x.n,vl] 40);have hr1:=aH hrow hB1;have ht1:=ht.kept hB1;have ho1:=ho.kept hB1;have ne:∀{v:Value}{xs:List Int},OI (W.alloc (.cells #[.int .i64 x.k, .int .i64 x.d, .int .i64 x.a, .int .i64 x.b, .int .i64 x.n,vl] 40)) w.heap.size v xs->∀k,v.ownBlock=some k->(Value.slice (some ⟨g,0,none⟩) n c).ownBlock≠some k:=fun hoi k hk=>fe hoi hr1 (by decide) hk;have ht2:fO W' w.heap.size n vs ls:=ht1.dB hg (fun j hj k hk=>ne (ht1 j hj).2.2.2.2.2 k hk);have ho2:OI W' w.heap.size vl x.l:=bX ho1 hg (fun k hk=>ne ho1 k hk);refine⟨vs++[(x.k,x.d,x.a,x.b,x.n,vl)],ls++[x],by simp[hls],by simp[hvl],by rw[kY];exact hn,fun j hj=>?_,(h5.alloc _).app h6 hr1 hg,h6⟩;by_cases e:j<n;{have e1:(vs++[(x.k,x.d,x.a,x.b,x.n,vl)]).getD j ek=vs.getD j ek:=by{rw[ah,List.getElem?_append_left (by omega),←ah]};have e2:(ls++[x]).getD j .z=ls.getD j .z:=by{rw[ah,List.getElem?_append_left (by omega),←ah]};rw[e1,e2];exact ht2 j e};have hjn:j=n:=by{omega};subst hjn;have e1:(vs++[(x.k,x.d,x.a,x.b,x.n,vl)]).getD j ek=(x.k,x.d,x.a,x.b,x.n,vl):=by{rw[ah,List.getElem?_append_right (by omega),hvl];simp};have e2:(ls++[x]).getD j .z=x:=by{rw[ah,List.getElem?_append_right (by omega),hls];simp};rw[e1,e2];exact⟨rfl,rfl,rfl,rfl,rfl,ho2⟩
theorem KL.set {k:Nat}{vl:Value}(x:Ln)(h:KL w B a len cap zs g c n W)(hk:k<n)(ho:OI W w.heap.size vl x.l):KL w B a len cap zs g c n ((((((W.setCell ⟨g,k*6,none⟩ (.int .i64 x.k)).setCell ⟨g,k*6+1,none⟩ (.int .i64 x.d)).setCell ⟨g,k*6+2,none⟩ (.int .i64 x.a)).setCell ⟨g,k*6+3,none⟩ (.int .i64 x.b)).setCell ⟨g,k*6+4,none⟩ (.int .i64 x.n)).setCell ⟨g,k*6+5,none⟩ vl):=by obtain⟨vs,ls,h1,h2,h3,h4,h5,h6⟩:=h;have OA:=h3.stored (k*6) (.int .i64 x.k);have Ab:=OA.1.stored (k*6+1) (.int .i64 x.d);have OB:=Ab.1.stored (k*6+2) (.int .i64 x.a);have OC:=OB.1.stored (k*6+3) (.int .i64 x.b);have OD:=OC.1.stored (k*6+4) (.int .i64 x.n);have Hu:=OD.1.stored (k*6+5) vl;have hgr:=(di (di (di (di (di OA.2 Ab.2) OB.2) OC.2) OD.2) Hu.2);have ne:∀{v:Value}{xs:List Int},OI W w.heap.size v xs->∀k,v.ownBlock=some k->(some g:Option Nat)≠some k:=fun hoi k hk=>fe hoi h3 (by decide) hk;have ht2:=h4.dB hgr (fun j hj k hk=>ne (h4 j hj).2.2.2.2.2 k hk);have ho2:=bX ho hgr (fun k hk=>ne ho k hk);have hlt:=World.ownsRow.lt h3 g rfl;rw[←qR vs k (x.k,x.d,x.a,x.b,x.n,vl)]at Hu;refine⟨vs.set k (x.k,x.d,x.a,x.b,x.n,vl),ls.set k x,by simp[h1],by simp[h2],Hu.1,fun j hj=>?_,h5.fresh h6 hgr hlt.1,h6⟩;by_cases e:j=k;{subst e;have e1:(vs.set j (x.k,x.d,x.a,x.b,x.n,vl)).getD j ek=(x.k,x.d,x.a,x.b,x.n,vl):=by{rw[ah,List.getElem?_set_self (by omega)];rfl};have e2:(ls.set j x).getD j .z=x:=by{rw[ah,List.getElem?_set_self (by omega)];rfl};rw[e1,e2];exact⟨rfl,rfl,rfl,rfl,rfl,ho2⟩};have e1:(vs.set k (x.k,x.d,x.a,x.b,x.n,vl)).getD j ek=vs.getD j ek:=by{rw[ah,List.getElem?_set_ne (by omega),←ah]};have e2:(ls.set k x).getD j .z=ls.getD j .z:=by{rw[ah,List.getElem?_set_ne (by omega),←ah]};rw[e1,e2];exact ht2 j hj
theorem KL.at (h:KL w B a len cap zs g c n W){k:Nat}(hk:k<n):(∃p0 p1 p2 p3 p4:Int,∃u,W.cell? ⟨g,k*6,none⟩=some (.int .i64 p0)/\W.cell? ⟨g,k*6+1,none⟩=some (.int .i64 p1)/\W.cell? ⟨g,k*6+2,none⟩=some (.int .i64 p2)/\W.cell? ⟨g,k*6+3,none⟩=some (.int .i64 p3)/\W.cell? ⟨g,k*6+4,none⟩=some (.int .i64 p4)/\W.cell? ⟨g,k*6+5,none⟩=some u)/\W.frozen? ⟨g,k*6,none⟩=false/\W.frozen? ⟨g,k*6+1,none⟩=false/\W.frozen? ⟨g,k*6+2,none⟩=false/\W.frozen? ⟨g,k*6+3,none⟩=false/\W.frozen? ⟨g,k*6+4,none⟩=false/\W.frozen? ⟨g,k*6+5,none⟩=false/\g<W.heap.size/\n<=c:=by obtain⟨vs,ls,h1,h2,h3,h4,h5,h6⟩:=h;obtain⟨g0,g1,g2,g3,g4,g5⟩:=jR vs k (by omega);exact⟨⟨_,_,_,_,_,_,(World.ownsRow.cellAt h3 (k*6) (by omega)).trans g0,(World.ownsRow.cellAt h3 (k*6+1) (by omega)).trans g1,(World.ownsRow.cellAt h3 (k*6+2) (by omega)).trans g2,(World.ownsRow.cellAt h3 (k*6+3) (by omega)).trans g3,(World.ownsRow.cellAt h3 (k*6+4) (by omega)).trans g4,(World.ownsRow.cellAt h3 (k*6+5) (by omega)).trans g5⟩,h3.frozenAt _,h3.frozenAt _,h3.frozenAt _,h3.frozenAt _,h3.frozenAt _,h3.frozenAt _,(World.ownsRow.lt h3 g rfl).2,lg h3⟩
theorem lX.dr {v:Value}{ls:List Ln}(h:lX W n v ls)(hg:W.grownBy W' (some B))(hB:B<n):lX W' n v ls:=by obtain⟨g,cap,vs,e,h1,h2⟩:=h;exact⟨g,cap,vs,e,bX h1 hg (fun k hk=>by have:=(World.ownsRow.lt h1 k hk).1;simp only[ne_eq,af];omega),h2.other hg hB⟩
end
theorem I9 {W:World}{M F nf:Nat}{q:Prop}(h:∀j,j<nf->wT W M F j q)(hF:F<W.heap.size)(hn:nf<=3):∃fs,FL W (some ⟨F,0,none⟩) nf fs:=by
 have H:∀m,m<=nf->∃fs:List Fn,fs.length=m/\∀j,j<m->W.cell? ⟨F,0+j*4,none⟩=some (.int .i64 (fs.getD j .z).a)/\W.cell? ⟨F,0+j*4+1,none⟩=some (.int .i64 (fs.getD j .z).l)/\W.cell? ⟨F,0+j*4+2,none⟩=some (.int .i64 (fs.getD j .z).g)/\
     ∃ba bl bc,W.cell? ⟨F,0+j*4+3,none⟩=some (.slice ba bl bc)/\SL W ba bl (fs.getD j .z).b:=by
   intro m
   induction m with
   |zero=>exact fun _=>⟨[],rfl,fun j hj=>by omega⟩
   | succ m ih=>
     intro hm
     obtain⟨fs,hl,hx⟩:=ih (by omega)
     obtain⟨p,q,g,ba,bl,bc,xs,-,-,k0,k1,k2,k3,k4,-⟩:=h m (by omega)
     refine⟨fs++[(⟨p,q,g,xs⟩:Fn)],by simp[hl],fun j hj=>?_⟩
     by_cases e:j<m
     · have e1:(fs++[(⟨p,q,g,xs⟩:Fn)]).getD j .z=fs.getD j .z:=by rw[ah,ah,List.getElem?_append_left (by omega)]
       rw[e1]
       exact hx j e
     · have e':j=m:=by omega
       subst e'
       have e1:(fs++[(⟨p,q,g,xs⟩:Fn)]).getD j .z=⟨p,q,g,xs⟩:=by
         rw[ah,List.getElem?_append_right (by omega),hl,Nat.sub_self]
         rfl
       rw[e1]
       simp only[Nat.zero_add]
       exact⟨k0,k1,k2,ba,bl,bc,k3,k4.sl⟩
 obtain⟨fs,hl,hx⟩:=H nf (Nat.le_refl _)
 exact⟨fs,hl,by simp only[maxLen];omega, .inr ⟨F,0,rfl,hF,hx⟩⟩
structure DA (w:World)(B:Nat)(a:Option Addr)(len cap:Nat)(zs:List Int)(M F nf cv Mb:Nat)(d:ByteArray)(x:World):Prop where
 ix:B<w.heap.size/\w.heap.size<=M/\M<F/\F<x.heap.size/\w.heap.size<=Mb
 nb:nf<=3
 fd:∀j,j<nf->wT x M F j True
 bM:aU x Mb [.slice (some ⟨F,0,none⟩) nf cv, .string d]
 dr:aN w x B a len cap zs
theorem DA.drawn {w x x':World}{B:Nat}{a:Option Addr}{len cap:Nat}{zs:List Int}{M F nf cv Mb:Nat}{d:ByteArray}(h:DA w B a len cap zs M F nf cv Mb d x)(hd:aN x x' B a len cap zs):DA w B a len cap zs M F nf cv Mb d x':=by have ix:=h.ix;have hs:=hd.2.size;exact⟨by omega,h.nb,fun j hj=>(h.fd j hj).of hs (fun k hk hMk=>hd.2.block k hk (by simp only[ne_eq,af];omega)) ix.2.2.2.1 ix.2.2.1,h.bM.dr hd (by omega),h.dr.andThen hd⟩
theorem DA.kept {w x x':World}{B:Nat}{a:Option Addr}{len cap:Nat}{zs:List Int}{M F nf cv Mb:Nat}{d:ByteArray}(h:DA w B a len cap zs M F nf cv Mb d x)(hB:Below x.heap.size x x'):DA w B a len cap zs M F nf cv Mb d x':=by have ix:=h.ix;have hs:=hB.size;exact⟨by omega,h.nb,fun j hj=>(h.fd j hj).of hs (fun k hk _=>hB.block k hk) ix.2.2.2.1 ix.2.2.1,h.bM.kept hB,h.dr.plain ⟨hB.os,hB.tape,hB.output,hB.size,fun k hk _=>hB.block k hk⟩⟩
def Il (B M F nf cv N:Nat)(d:ByteArray):Nat->Value->World->Prop
 |0,y,_=>y= .agg #[.slice (some ⟨F,0,none⟩) nf cv, .string d]
 |1,y,_=>y= .pointer (some ⟨B,0,none⟩)
 |2,y,_=>y= .pointer (some ⟨M,0,none⟩)
 |3,y,_=>y= .slice (some ⟨F,0,none⟩) nf cv
 |4,y,_=>y= .int .i64 nf
 |5,y,_=>∃p:Int,y= .int .i64 p
 |6,y,x=>∃ls,lX x N y ls
 |_,_,_=>True
theorem Il.bG {B M F nf cv N:Nat}{d:ByteArray}(hN:B<N){k:Nat}{y:Value}{x x':World}(hr:x.grownBy x' (some B))(hf:Il B M F nf cv N d k y x):Il B M F nf cv N d k y x':=by
 unfold Il at hf ⊢
 split at hf
 all_goals first
   |exact hf
   |(obtain⟨ls,h⟩:=hf;exact⟨ls,h.dr hr hN⟩)
theorem oF (B:Nat)(a:Option Addr)(len cap:Nat)(zs:List Int)(hlen:len<=4096)(w:World)(hc:fZ w B a len cap zs):Calls Tryz.prog 36 #[.pointer (some ⟨B,0,none⟩)] w fun e w'=>∃v ls,e= .returned v/\lX w' w.heap.size v ls/\aN w w' B a len cap zs:=by have hBw:=hc.1;obtain⟨i0,hi,hz0,hz1,hz2⟩:=info_parts rF;go_enter Tryz.func36,Tryz.ntmps36;go_wp2_with fail;refine(dU B a len cap zs 3 _ hc).mono ?_;rintro e w1 ⟨o,rfl,hd1⟩;clear hc;cases o;{go_wp2_with fail;refine(xL B a len cap zs hlen _ hd1.1).mono ?_;rintro e w2 ⟨F,nf,cv,d,rfl,Rn,M,hM1,hM2,Yf,⟨hn1,hn2,hn3,hn4⟩,Yg,-,hd2⟩;dsimp only;have hs1:=hd1.2.size;have da:DA w B a len cap zs M F nf cv w2.heap.size d (w2.alloc (.cells #[.slice (some ⟨F,0,none⟩) nf cv, .string d] 87)):=⟨by simp;omega,hn2,fun j hj=>(Yg j hj).of (by simp) (fun k hk _=>(aA w2 _).block k hk) Yf hM2,aU.new w2 [.slice (some ⟨F,0,none⟩) nf cv, .string d] 87,(hd1.andThen hd2).alloc _⟩;have aaG:(nf:Int)<=(cv:Int):=by{omega};clear Yg hd1 hd2 Yf;go_wp2_with fail;skip;refine bI 7 [12,13,14,15,16,17,18] (fun x=>DA w B a len cap zs M F nf cv w2.heap.size d x) (fun x x'=>x.grownBy x' (some B)) (Il B w2.heap.size F nf cv w.heap.size d) (by kernel_rfl) (by kernel_rfl) (by simp) (da.kept (Below.refl _ _).drew) (fun k y x x' hr hf=>Il.bG hBw hr hf) ?_ ?_;{simp only[List.take_succ_cons,List.take_zero];refine⟨?_,?_,?_,?_,?_,?_,?_,trivial⟩;{intro b x hA hfr aC;unfold Oper.wp;generalize hK:(fun(b':Act) (x':World)=>∃y,_/\_)=K;have e3:b.tmps[3]?.getD undef= .pointer (some ⟨w2.heap.size,0,none⟩):=aB (hfr 3 (by decide));have m0:=(hA.bM.2 0 _ rfl).1;have m1:=(hA.bM.2 1 _ rfl).1;simp only[execOp];go_simp;rw[←hK];exact⟨_,rfl,hA,rfl,World.grownBy.refl _ _⟩};{intro b x hA hfr aC;unfold Oper.wp;generalize hK:(fun(b':Act) (x':World)=>∃y,_/\_)=K;have e0:b.tmps[0]?.getD undef= .pointer (some ⟨B,0,none⟩):=aB (hfr 0 (by decide));simp only[execOp];go_simp;rw[←hK];exact⟨_,rfl,hA,rfl,World.grownBy.refl _ _⟩};{intro b x hA hfr aC;unfold Oper.wp;generalize hK:(fun(b':Act) (x':World)=>∃y,_/\_)=K;have e3:b.tmps[3]?.getD undef= .pointer (some ⟨w2.heap.size,0,none⟩):=aB (hfr 3 (by decide));simp only[execOp];go_simp;rw[←hK];exact⟨_,rfl,hA,rfl,World.grownBy.refl _ _⟩};{intro b x hA hfr aC;unfold Oper.wp;generalize hK:(fun(b':Act) (x':World)=>∃y,_/\_)=K;have e14:b.tmps[14]?.getD undef= .pointer (some ⟨w2.heap.size,0,none⟩):=aB (aC 2 (by kernel_rfl));have m0:=(hA.bM.2 0 _ rfl).1;simp only[execOp];go_simp;rw[←hK];exact⟨_,rfl,hA,rfl,World.grownBy.refl _ _⟩};{intro b x hA hfr aC;unfold Oper.wp;generalize hK:(fun(b':Act) (x':World)=>∃y,_/\_)=K;have e15:b.tmps[15]?.getD undef= .slice (some ⟨F,0,none⟩) nf cv:=aB (aC 3 (by kernel_rfl));simp only[execOp];go_simp;rw[←hK];exact⟨_,rfl,hA,rfl,World.grownBy.refl _ _⟩};{intro b x hA hfr aC;unfold Oper.wp;generalize hK:(fun(b':Act) (x':World)=>∃y,_/\_)=K;have e13:b.tmps[13]?.getD undef= .pointer (some ⟨B,0,none⟩):=aB (aC 1 (by kernel_rfl));have e16:b.tmps[16]?.getD undef= .int .i64 nf:=aB (aC 4 (by kernel_rfl));simp only[execOp];go_simp;refine(aF B a len cap zs nf x hA.dr.1).mono ?_;rintro e w' ⟨y,rfl,y0,ym,y1,hd⟩;rw[←hK];exact⟨_,rfl,hA.drawn hd,⟨y,rfl⟩,hd.2⟩};intro b x hA hfr aC;unfold Oper.wp;generalize hK:(fun(b':Act) (x':World)=>∃y,_/\_)=K;have e12:b.tmps[12]?.getD undef= .agg #[.slice (some ⟨F,0,none⟩) nf cv, .string d]:=aB (aC 0 (by kernel_rfl));obtain⟨p,q1⟩:=aC 5 (by kernel_rfl);have e17:b.tmps[17]?.getD undef= .int .i64 p:=by{simpa[Act.eval]using q1};obtain⟨fs,hfl⟩:=I9 hA.fd hA.ix.2.2.2.1 hA.nb;simp only[execOp];go_simp;refine(sN (some ⟨F,0,none⟩) nf cv fs d (by simp only[maxLen];omega) p x hfl).mono ?_;rintro e w' ⟨v,rfl,hol,hBl⟩;rw[←hK];exact⟨_,rfl,hA.kept hBl,⟨_,hol.mono hA.dr.2.size⟩,⟨hBl.os,hBl.tape,hBl.output,hBl.size,fun k hk _=>hBl.block k hk⟩⟩};intro b x hA hF hb;obtain⟨ls,e18⟩:=hF 6 (by decide);obtain⟨z12,e12⟩:∃z,b.eval (.tmp 12)=z:=⟨_,rfl⟩;obtain⟨z13,e13⟩:∃z,b.eval (.tmp 13)=z:=⟨_,rfl⟩;obtain⟨z14,e14⟩:∃z,b.eval (.tmp 14)=z:=⟨_,rfl⟩;obtain⟨z15,e15⟩:∃z,b.eval (.tmp 15)=z:=⟨_,rfl⟩;obtain⟨z16,e16⟩:∃z,b.eval (.tmp 16)=z:=⟨_,rfl⟩;obtain⟨z17,e17⟩:∃z,b.eval (.tmp 17)=z:=⟨_,rfl⟩;obtain⟨v,ev⟩:∃z,b.eval (.tmp 18)=z:=⟨_,rfl⟩;have hol:lX x w.heap.size v ls:=by{rw[←ev];exact e18};simp only[List.foldl,e12,e13,e14,e15,e16,e17,ev]at hb;have HD:=ae (ak hol hA.dr);obtain⟨g,c,hv,-⟩:=hol.LL;subst hv;clear hF e12 e13 e14 e15 e16 e17 e18 ev hol hA da;subst hb;simp only[Act.put,List.setIfInBounds_toArray,List.set_cons_succ,List.set_cons_zero,List.drop_succ_cons,List.drop_zero];go_wp2;go_ret;exact⟨_,ls,rfl,HD.out.1,HD.out.2⟩};go_wp2_with fail;refine(aF B a len cap zs 12 _ hd1.1).mono ?_;rintro e w2 ⟨x,rfl,hx0,hx1,hx2,hd2⟩;have hx3:x<12:=by{omega};have hd3:=hd1.andThen hd2;obtain⟨m,rfl⟩:∃m:Nat,x=m:=⟨x.toNat,by omega⟩;have h0:KL w B a len cap zs w2.heap.size 0 0 (w2.alloc (.cells #[] 40)):=⟨[],[],rfl,rfl,⟨rfl, .inr ⟨w2.heap.size,0,#[],rfl,hd3.2.size,World.alloc_heap_new w2 _,Nat.le_refl _,by simp[maxLen],rfl,rfl⟩⟩,fun j hj=>by omega,hd3.alloc _,hBw⟩;clear hd1 hd2 hd3 hx0 hx1 hx2;go_wp2;(try rw[show(1+(m:Int))=(m:Int)+1 by omega]);go_loopw [5,6] (fun v i wr=>∃(k g c:Nat),i= .int .i64 k/\k<=m+1/\v= .slice (some ⟨g,0,none⟩) k c/\KL w B a len cap zs g c k wr) (fun _ i _=>m+1-(intOf i).toNat);(case atStart=>exact⟨0,_,_,rfl,by omega,rfl,h0⟩);case round=>obtain⟨k,g,c,rfl,hk,rfl,h⟩:=hrel;clear h0;by_cases hlt:k<m+1;{have bJ:(k:Int)<(m:Int)+1:=by{omega};go_wp2_with fail;refine(nU B a len cap zs ((m:Int)+1) _ h.dr.1).mono ?_;rintro e w3 ⟨⟨xk,xd,xa,xb,xn,xl⟩,vl,rfl,hxl,ho,hd⟩;dsimp only at hxl ho ⊢;have ho2:=ho.mono h.dr.2.size;replace h:=h.drawn hd;obtain⟨ad,cv,hvs,-⟩:=ho.slice;subst hvs;have HK:=ae h;obtain⟨vs,ls,k1,k2,k3,k4,k5,k6⟩:=h;have HRW:=ae (aH k3 (aA w3 (.cells #[.int .i64 xk, .int .i64 xd, .int .i64 xa, .int .i64 xb, .int .i64 xn, .slice ad xl.length cv] 40)));have HR:=ae (ak k1 (ak k2 (ak k3 (ak k4 ho2))));have hsz:=k5.2.size;clear hd ho ho2 k1 k2 k3 k4 k5 k6;go_wp2_with(at_builtin;refine wpList_append_own _ rfl _ _ 24 rfl w.heap.size 40 i0 (.agg #[.int .i64 0, .int .i64 0, .int .i64 0, .int .i64 0, .int .i64 0, .slice none 0 0]) 6 64 Tryz.underlying24 hi hz0 hz1 hz2 rfl (by decide) _ _ _ rfl HRW.out ⟨w3.heap.size,0,none⟩ 1 1 [.int .i64 xk, .int .i64 xd, .int .i64 xa, .int .i64 xb, .int .i64 xn, .slice ad xl.length cv] rfl rfl (rH w3 _ _ _ _ _ _ _ _ w3.heap.size rfl (fun i=>rfl)) (by simp[Value.oneCell']) (by simp only[maxLen];omega) (by omega) (by simp;omega) ?_;intro v' wA hown' hgrow _;obtain⟨g',cap',rfl⟩:=ownsRow_succ hown');go_roundw;(case rel=>obtain⟨k1,k2,k3,k4,ho2⟩:=HR.out;exact⟨k+1,g',cap',by simp,by omega,rfl,HK.out.app (x:=⟨xk,xd,xa,xb,xn,xl⟩) ho2 vs (fun _ _=>trivial) hgrow k3 k2 ls k1 k4 hown'⟩);case measure=>simp[intOf];omega};have hke:k=m+1:=by{omega};subst hke;have bJ:¬((m:Int)+1<(m:Int)+1):=by{omega};go_wp2_with fail;refine(dU B a len cap zs 8 _ h.dr.1).mono ?_;rintro e w4 ⟨o1,rfl,hd⟩;(try dsimp only);replace h:=h.drawn hd;clear hd hlt;cases o1;{go_wp2_with fail;refine(aF B a len cap zs 8 _ h.dr.1).mono ?_;rintro e w5 ⟨y8,rfl,hy0,hy1,hy2,hd⟩;(try dsimp only);replace h:=h.drawn hd;clear hd hy0 hy1 hy2;obtain⟨⟨p0,p1,p2,p3,p4,u,c0,c1,c2,c3,c4,c5⟩,f0,f1,f2,f3,f4,f5,hgl,hnc⟩:=h.at (k:=m) (by omega);have HN:=ae (h.set (k:=m) (vl:= .slice none 0 0) ⟨10,0,y8,0,0,[]⟩ (by omega) (OI.nil _ _));clear h;dsimp only at HN;go_wp2_with fail;have h:=HN.out;clear HN;clear c0 c1 c2 c3 c4 c5 f0 f1 f2 f3 f4 f5 hgl hnc;refine(dU B a len cap zs 12 _ h.dr.1).mono ?_;rintro e Y0 ⟨o2,rfl,hd⟩;(try dsimp only);replace h:=h.drawn hd;clear hd;cases o2;{have HN:=ae h;clear h;go_wp2;go_ret;obtain⟨ls,hol,hdd⟩:=HN.out.Pt;exact⟨_,ls,rfl,hol,hdd⟩};go_wp2_with fail;refine(aF B a len cap zs ((m:Int)+1) _ h.dr.1).mono ?_;rintro e Y1 ⟨y,rfl,hy0,hy1,hy2,hd⟩;(try dsimp only);replace h:=h.drawn hd;have hy3:y<(m:Int)+1:=by{omega};clear hd hy2 hy1;obtain⟨j,rfl⟩:∃j:Nat,y=j:=⟨y.toNat,by omega⟩;go_wp2_with fail;refine(kg B a len cap zs _ h.dr.1).mono ?_;rintro e Y2 ⟨⟨xk,xd,xa,xb,xn,xl⟩,vl,rfl,hxl,ho,hd⟩;dsimp only at hxl ho ⊢;have ho2:=ho.mono h.dr.2.size;replace h:=h.drawn hd;obtain⟨ad,cv,hvs,-⟩:=ho.slice;subst hvs;clear hd ho;obtain⟨⟨p0,p1,p2,p3,p4,u,c0,c1,c2,c3,c4,c5⟩,f0,f1,f2,f3,f4,f5,hgl,hnc⟩:=h.at (k:=j) (by omega);have HN:=ae (h.set (k:=j) (vl:= .slice ad xl.length cv) ⟨xk,xd,xa,xb,xn,xl⟩ (by omega) ho2);clear h;dsimp only at HN;clear ho2;go_wp2;go_ret;obtain⟨ls,hol,hdd⟩:=HN.out.Pt;exact⟨_,ls,rfl,hol,hdd⟩};go_wp2_with fail;refine(dU B a len cap zs 12 _ h.dr.1).mono ?_;rintro e Y0 ⟨o2,rfl,hd⟩;(try dsimp only);replace h:=h.drawn hd;clear hd;cases o2;{have HN:=ae h;clear h;go_wp2;go_ret;obtain⟨ls,hol,hdd⟩:=HN.out.Pt;exact⟨_,ls,rfl,hol,hdd⟩};go_wp2_with fail;refine(aF B a len cap zs ((m:Int)+1) _ h.dr.1).mono ?_;rintro e Y1 ⟨y,rfl,hy0,hy1,hy2,hd⟩;(try dsimp only);replace h:=h.drawn hd;have hy3:y<(m:Int)+1:=by{omega};clear hd hy2 hy1;obtain⟨j,rfl⟩:∃j:Nat,y=j:=⟨y.toNat,by omega⟩;go_wp2_with fail;refine(kg B a len cap zs _ h.dr.1).mono ?_;rintro e Y2 ⟨⟨xk,xd,xa,xb,xn,xl⟩,vl,rfl,hxl,ho,hd⟩;dsimp only at hxl ho ⊢;have ho2:=ho.mono h.dr.2.size;replace h:=h.drawn hd;obtain⟨ad,cv,hvs,-⟩:=ho.slice;subst hvs;clear hd ho;obtain⟨⟨p0,p1,p2,p3,p4,u,c0,c1,c2,c3,c4,c5⟩,f0,f1,f2,f3,f4,f5,hgl,hnc⟩:=h.at (k:=j) (by omega);have HN:=ae (h.set (k:=j) (vl:= .slice ad xl.length cv) ⟨xk,xd,xa,xb,xn,xl⟩ (by omega) ho2);clear h;dsimp only at HN;clear ho2;go_wp2;go_ret;obtain⟨ls,hol,hdd⟩:=HN.out.Pt;exact⟨_,ls,rfl,hol,hdd⟩
theorem QB {w w1 w2:World}{C:Nat}(h1:w.grownBy w1 none)(h2:w1.grownBy w2 (some C))(hC:w.heap.size<=C):Below w.heap.size w w2:=
 ⟨h2.os.trans h1.os,h2.tape.trans h1.tape,h2.output.trans h1.output,Nat.le_trans h1.size h2.size,fun k hk=>(h2.block k (aj hk h1.size) (by simp only[ne_eq,af];omega)).trans (h1.block k hk (by simp))⟩
theorem jc (a:Option Addr)(len cap:Nat)(zs:List Int)(hlen:len<=4096)(w:World)(hb:Bytes w a len zs):Calls Tryz.prog 21 #[.slice a len cap] w fun e w'=>∃v ls,e= .returned v/\lX w' w.heap.size v ls/\Below w.heap.size w w':=by go_enter Tryz.func21,Tryz.ntmps21;go_wp2_with fail;refine(rz a len cap zs _ hb).mono ?_;rintro e w1 ⟨rfl,hc,hg⟩;(try dsimp only);go_wp2_with fail;refine(oF w.heap.size a len cap zs hlen _ hc).mono ?_;rintro e w2 ⟨v,ls,rfl,ho,hd⟩;(try dsimp only);have HF:=ae (ak (ho.mono hg.size) (QB hg hd.2 (Nat.le_refl _)));obtain⟨g,c,rfl,-⟩:=ho.LL;clear hc hd ho hg;go_wp2;go_ret;exact⟨_,ls,rfl,HF.out.1,HF.out.2⟩
def Up (xs:List Int):Prop:=∀i,i+1<xs.length->xs.getD i 0<xs.getD (i+1) 0
theorem Up.of {xs:List Int}(h:xs.Pairwise (·<·)):Up xs:=fun i hi=>by
 have:=List.pairwise_iff_getElem.1 h i (i+1) (by omega) hi (by omega)
 rw[ah,ah,ai (by omega),ai hi]
 exact this
theorem lX.kI {W W':World}{n₀ B:Nat}{v:Value}{fs:List Ln}(h:lX W n₀ v fs)(hg:W.grownBy W' (some B))(hB:B<n₀):lX W' n₀ v fs:=by obtain⟨g,cap,vs,e,h1,h2⟩:=h;subst e;have hlt:=World.ownsRow.lt h1 g rfl;exact⟨g,cap,vs,rfl,h1.kept hg (.inr (by simp only[Value.ownBlock,ne_eq,af];omega)),h2.other hg hB⟩
end Go.Proofs.YtlbkdlnalgkjeaaGreat
