/-
  Own texts for a law: Low8 Low9 Dl3 Dl4 Dl5 NxD Hd Hp1 Hp2
-/
import Derived.Test.YthamlonlgnjljaaGreatNC12
import Derived.Test.YthamlonlgnjljaaGreatNC18
namespace Go.Proofs.YthamlonlgnjljaaGreat
open Go.RowKit Go.Shelf
set_option linter.all false
set_option maxRecDepth 100000
set_option maxHeartbeats 16000000
theorem Lw.KY {fs:List Fn}{d:ByteArray}(h:Hg.valid fs d=true){k:Nat}(hk:k<fs.length):Md.ok fs d=true/\∃mo,Hg.gN fs (Mn.fn fs k)=some (Mn.zN fs k,mo):=by unfold Hg.valid at h;rw[au]at h;refine⟨h.1,?_⟩;have h2:=List.all_eq_true.1 h.2 k (List.mem_range.2 hk);unfold Hg.gM at h2;rw[ay ⟨h.1,by omega,by omega⟩]at h2;simp only[az]at h2;unfold Mn.zN Mn.fn;rcases e:Hg.gN fs (fs.getD k .z)with _|⟨H,mo⟩;{rw[e]at h2;cases h2};exact⟨mo,rfl⟩
theorem Lw.Cb {fs:List Fn}{f:Fn}{x:List Int×Int}(h:Hg.gN fs f=some x):aG.isOk f.b=true:=by unfold Hg.gN at h;split at h;{assumption};cases h
def Lw.part (st:List Int)(R:List (Ln×Int))(i:Nat):List Ln:=(R.take i).map (Lw.GX st)++(R.drop i).map (·.1)
theorem Lw.yz (st:List Int)(R:List (Ln×Int))(i:Nat):(Lw.part st R i).length=R.length:=by unfold Lw.part;simp only[List.length_append,List.length_map,List.length_take,List.length_drop];omega
theorem Lw.uo {st:List Int}{R:List (Ln×Int)}{i:Nat}(hi:i<R.length):Lw.part st R (i+1)=(Lw.part st R i).set i (Lw.GX st (R.getD i (.z,0))):=by unfold Lw.part;rw[List.take_add_one,ai hi,ah,ai hi,List.drop_eq_getElem_cons hi];simp only[Option.toList_some,Option.getD_some,List.map_append,List.map_cons,List.map_nil];rw[List.set_append_right _ _ (by simp only[List.length_map,List.length_take];omega)];simp[Nat.min_eq_left (Nat.le_of_lt hi)]
theorem Lw.Bg {st:List Int}{R:List (Ln×Int)}{i:Nat}(hi:i<R.length):(Lw.part st R i).getD i .z=(R.getD i (.z,0)).1:=by unfold Lw.part;rw[ah,List.getElem?_append_right (by simp only[List.length_map,List.length_take];omega)];rw[ah,ai hi];simp[Nat.min_eq_left (Nat.le_of_lt hi),ai hi]
theorem Lw.AA {f:Fn}{i:Nat}(hi:i<f.l.toNat):(Lw.first f).take (i+1)=(Lw.first f).take i++[(⟨1,f.a+(i:Int),0,0,0,[]⟩,-1)]:=by rw[List.take_add_one];congr 1;unfold Lw.first;simp[hi]
theorem Lw.CZ (f:Fn):(Lw.first f).length=f.l.toNat:=by unfold Lw.first;simp
theorem KV {p:Prop}(h:Hid p):p:=h
theorem uu {W:World}{n₀ n₁:Nat}{e k:Nat}{v:Value}{n:Nat}{xs:List Value}(h:W.ownsRow n₁ e k v n xs)(hn:n₀<=n₁):W.ownsRow n₀ e k v n xs:=by refine⟨h.1,?_⟩;rcases h.2 with h'|⟨g',cap',cur,h',hb,r⟩;{exact .inl h'};exact .inr ⟨g',cap',cur,h',Nat.le_trans hn hb,r⟩
theorem MK.other {c:LX}{W0 W W':World}{v vg:Value}{out:List (Ln×Int)}{P:Nat->Prop}{row:Option Nat}(h:MK c W0 W v vg out P)(hW:W0.heap.size<=c.B)(hg:W.grownBy W' row)(hr:∀g,row=some g->c.B+1<=g/\v.ownBlock≠some g/\vg.ownBlock≠some g/\¬P g):MK c W0 W' v vg out P:=by obtain⟨vs,h1,h2,h3,h4⟩:=h.row;refine⟨dB h.eY hg (fun g e=>by have:=(hr g e).1;omega),h.box.bS hg (fun e=>by have:=(hr _ e).1;omega),Nat.le_trans h.sz hg.size,⟨vs,dA h1 hg (fun g e e2=>(hr g e2).2.1 e),h2,h3.bS hg (fun j hj g e e2=>(hr g e2).2.2.2 (h4 j hj g e).2),h4⟩,dA h.zF hg (fun g e e2=>(hr g e2).2.2.1 e)⟩
theorem MK.tight {c:LX}{W0 W:World}{v vg:Value}{out:List (Ln×Int)}{P:Nat->Prop}(h:MK c W0 W v vg out P):MK c W0 W v vg out (fun g=>P g/\g<W.heap.size):=by obtain⟨vs,h1,h2,h3,h4⟩:=h.row;exact⟨h.eY,h.box,h.sz,⟨vs,h1,h2,h3,fun j hj g e=>⟨(h4 j hj g e).1,(h4 j hj g e).2,(bO (h3 j hj).2.2.2.2.2 e).2⟩⟩,h.zF⟩
structure PK (c:LX)(W0 W:World)(v vg sv:Value)(R:List (Ln×Int))(st:List Int)(i:Nat):Prop where
 eY:Below W0.heap.size W0 W
 box:bi W c.B (c.eG v vg)
 sz:c.B+1<=W.heap.size
 row:∃vs:List Lv,W.ownsRow (c.B+1) 59 6 v R.length (cZ vs)/\vs.length=R.length/\gL W (c.B+1) R.length vs (Lw.part st R i)
 zF:OI W (c.B+1) vg (R.map (·.2))
 TA:OI W (c.B+1) sv st
theorem PK.of {c:LX}{W0 W:World}{v vg sv:Value}{R:List (Ln×Int)}{st:List Int}{P:Nat->Prop}(h:MK c W0 W v vg R P)(hs:OI W (c.B+1) sv st):PK c W0 W v vg sv R st 0:=by obtain⟨vs,h1,h2,h3,-⟩:=h.row;exact⟨h.eY,h.box,h.sz,⟨vs,h1,h2,h3⟩,h.zF,hs⟩
theorem PK.kept {c:LX}{W0 W W':World}{v vg sv:Value}{R:List (Ln×Int)}{st:List Int}{i:Nat}(h:PK c W0 W v vg sv R st i)(hB:Below W.heap.size W W'):PK c W0 W' v vg sv R st i:=by obtain⟨vs,h1,h2,h3⟩:=h.row;exact⟨h.eY.trans (hB.mono h.eY.size),h.box.kept hB,Nat.le_trans h.sz hB.size,⟨vs,aH h1 hB,h2,h3.kept hB⟩,h.zF.kept hB,h.TA.kept hB⟩
theorem PK.skip {c:LX}{W0 W:World}{v vg sv:Value}{R:List (Ln×Int)}{st:List Int}{i:Nat}(h:PK c W0 W v vg sv R st i)(hi:i<R.length)(hn:(R.getD i (.z,0)).2<0):PK c W0 W v vg sv R st (i+1):=by have e:Lw.part st R (i+1)=Lw.part st R i:=by{rw[Lw.uo hi,Lw.GX,ax (by omega),←Lw.Bg (st:=st) hi];apply List.ext_getElem?;intro j;rw[List.getElem?_set];split;{rename_i e;subst e;have hl:i<(Lw.part st R i).length:=by{rw[Lw.yz];exact hi};rw[ay hl,ah,ai hl];rfl};rfl};obtain⟨vs,h1,h2,h3⟩:=h.row;exact⟨h.eY,h.box,h.sz,⟨vs,h1,h2,by rw[e];exact h3⟩,h.zF,h.TA⟩
theorem PK.fill {c:LX}{W0 W:World}{g cv:Nat}{vg sv:Value}{R:List (Ln×Int)}{st:List Int}{i:Nat}(h:PK c W0 W (.slice (some ⟨g,0,none⟩) R.length cv) vg sv R st i)(hW:W0.heap.size<=c.B)(hi:i<R.length)(hn:0<=(R.getD i (.z,0)).2):PK c W0 (W.setCell ⟨g,i*6+4,none⟩ (.int .i64 (st.getD (R.getD i (.z,0)).2.toNat 0))) (.slice (some ⟨g,0,none⟩) R.length cv) vg sv R st (i+1):=by obtain⟨vs,h1,h2,h3⟩:=h.row;have hg:c.B+1<=g/\g<W.heap.size:=bO h1 rfl;have hst:=h1.stored (i*6+4) (.int .i64 (st.getD (R.getD i (.z,0)).2.toNat 0));have gs:=hst.2;have hint:2≠59:=by{decide};have hgs:∀{u:Value}{xs:List Int},OI W (c.B+1) u xs->OI (W.setCell ⟨g,i*6+4,none⟩ (.int .i64 (st.getD (R.getD i (.z,0)).2.toNat 0))) (c.B+1) u xs:=fun{u xs} hu=>dA hu gs (fun g' e e2=>fM hu h1 hint e e2);refine⟨dB h.eY gs (fun g' e=>by cases e;omega),h.box.bS gs (fun e=>by cases e;omega),Nat.le_trans h.sz gs.size,⟨vs.set i ((vs.getD i eP).1,(vs.getD i eP).2.1,(vs.getD i eP).2.2.1,(vs.getD i eP).2.2.2.1,st.getD (R.getD i (.z,0)).2.toNat 0,(vs.getD i eP).2.2.2.2.2),?_,by simp[h2],fun j hj=>?_⟩,hgs h.zF,hgs h.TA⟩;{rw[qW vs i _ (by omega)];exact hst.1};obtain⟨t0,t1,t2,t3,t4,t5⟩:=h3 j hj;rw[Lw.uo hi];by_cases e:j=i;{subst e;have e1:(vs.set j ((vs.getD j eP).1,(vs.getD j eP).2.1,(vs.getD j eP).2.2.1,(vs.getD j eP).2.2.2.1,st.getD (R.getD j (.z,0)).2.toNat 0,(vs.getD j eP).2.2.2.2.2)).getD j eP=((vs.getD j eP).1,(vs.getD j eP).2.1,(vs.getD j eP).2.2.1,(vs.getD j eP).2.2.2.1,st.getD (R.getD j (.z,0)).2.toNat 0,(vs.getD j eP).2.2.2.2.2):=by{rw[ah,List.getElem?_set_self (by omega)];rfl};have e2:((Lw.part st R j).set j (Lw.GX st (R.getD j (.z,0)))).getD j .z=Lw.GX st (R.getD j (.z,0)):=by{rw[ah,List.getElem?_set_self (by rw[Lw.yz];exact hi)];rfl};rw[e1,e2,Lw.GX,ay hn];rw[Lw.Bg hi]at t0 t1 t2 t3 t5;exact⟨t0,t1,t2,t3,rfl,hgs t5⟩};have e1:(vs.set i ((vs.getD i eP).1,(vs.getD i eP).2.1,(vs.getD i eP).2.2.1,(vs.getD i eP).2.2.2.1,st.getD (R.getD i (.z,0)).2.toNat 0,(vs.getD i eP).2.2.2.2.2)).getD j eP=vs.getD j eP:=by{rw[ah,List.getElem?_set_ne (by omega),←ah]};have e2:((Lw.part st R i).set i (Lw.GX st (R.getD i (.z,0)))).getD j .z=(Lw.part st R i).getD j .z:=by{rw[ah,List.getElem?_set_ne (by omega),←ah]};rw[e1,e2];exact⟨t0,t1,t2,t3,t4,hgs t5⟩
theorem pJ (a:Option Addr) (len cap:Nat) (fs:List Fn) (d:ByteArray) (hv:Hg.valid fs d=true) (k:Nat) (hk:k<len) (w:World) (hs:FL w a len fs):Calls Tryz.prog 82 #[.agg #[.slice a len cap, .string d], .int .i64 k] w fun e w'=>∃v,e= .returned v/\nV w' w.heap.size v (Lw.func fs (Mn.fn fs k) (aG.ends (Mn.fn fs k).b) (aG.aR (Mn.fn fs k).b) (Mn.zN fs k))/\Below w.heap.size w w':=by
 have hl:=hs.1
 have V:=Mn.Lp hv
 obtain⟨TB,mo,hres⟩:=Lw.KY hv (k:=k) (by omega)
 have hA:=V.acc k (by omega)
 have mG:=Lw.Cb hres
 have D6:=Mn.JN V (k:=k) (by omega)
 have hall:St.bA (Mn.fn fs k).b=true:=by have:=Md.bu V.all (j:=k) (by omega);simp only[Md.tL,au]at this;exact this.2.2.2.2
 have hl4:len<=4:=by have:=V.len.2;omega
 obtain⟨F,hF⟩:∃F,Mn.fn fs k=F:=⟨_,rfl⟩
 obtain⟨H,hH⟩:∃H,Mn.zN fs k=H:=⟨_,rfl⟩
 obtain⟨E,hE⟩:∃E,aG.ends F.b=E:=⟨_,rfl⟩
 obtain⟨O,hO⟩:∃O,aG.aR F.b=O:=⟨_,rfl⟩
 rw[hF,hH]at hres
 rw[hF]at mG D6 hall
 rw[hF,hH]at hA
 rw[hE,hO]at hA
 rw[hF,hH,hE,hO]
 have IX:(k:Int)<(len:Int):=by omega
 have hB1:=aA w (.cells #[.slice a len cap, .string d] 84)
 have hM1:gY (w.alloc (.cells #[.slice a len cap, .string d] 84)) w.heap.size 84 [.slice a len cap, .string d]:=heap_alloc_last w _
 obtain⟨W1,hW1⟩:∃X,w.alloc (.cells #[.slice a len cap, .string d] 84)=X:=⟨_,rfl⟩
 rw[hW1]at hB1 hM1
 have hs1:=hs.kept hB1
 have hcell:∃b off,a=some ⟨b,off,none⟩/\∃ba bl bc,W1.cell? ⟨b,off+k*4,none⟩=some (.int .i64 F.a)/\W1.cell? ⟨b,off+k*4+1,none⟩=some (.int .i64 F.l)/\W1.cell? ⟨b,off+k*4+2,none⟩=some (.int .i64 F.g)/\W1.cell? ⟨b,off+k*4+3,none⟩=some (.slice ba bl bc)/\SL W1 ba bl F.b:=by obtain⟨-,-,h0|⟨b,off,e,hb,hx⟩⟩:=hs1;{omega};obtain⟨x0,x1,x2,ba,bl,bc,x3,hsl⟩:=hx k hk;have e2:fs.getD k .z=F:=hF;rw[e2]at x0 x1 x2 hsl;exact⟨b,off,e,ba,bl,bc,x0,x1,x2,x3,hsl⟩
 obtain⟨fb,fo,rfl,ba,bl,bc,x0,x1,x2,x3,hsl⟩:=hcell
 have hbl:F.b.length=bl:=hsl.1
 subst hbl
 have m0:=hM1.cell (j:=0) rfl
 have hB2:=aA W1 (.cells #[.int .i64 F.a, .int .i64 F.l, .int .i64 F.g, .slice ba F.b.length bc] 120)
 have hF2:gY (W1.alloc (.cells #[.int .i64 F.a, .int .i64 F.l, .int .i64 F.g, .slice ba F.b.length bc] 120)) W1.heap.size 120 [.int .i64 F.a, .int .i64 F.l, .int .i64 F.g, .slice ba F.b.length bc]:=heap_alloc_last W1 _
 obtain⟨W2,hW2⟩:∃X,W1.alloc (.cells #[.int .i64 F.a, .int .i64 F.l, .int .i64 F.g, .slice ba F.b.length bc] 120)=X:=⟨_,rfl⟩
 rw[hW2]at hB2 hF2
 have hM2:=hM1.kept hB2
 have n0:=hM2.cell (j:=0) rfl
 have n1:=hM2.cell (j:=1) rfl
 have D7:=hB1.trans (hB2.mono hB1.size)
 have kU:=kL (some ⟨fb,fo,none⟩) len cap fs d k hk TB W2 (hs1.kept hB2)
 have e2:fs.getD k .z=F:=hF
 rw[e2,hres]at kU
 go_enter Tryz.func82,Tryz.ntmps82
 go_wp2_with fail
 refine kU.mono ?_
 rintro e w3 ⟨v3,mo3,rfl,ho3,hB3⟩
 dsimp only
 obtain⟨ho3,-⟩:=ho3 H mo rfl
 obtain⟨ha,hc,rfl,-⟩:=ho3.slice
 have hHl:H.length=F.b.length:=hA.lH
 have hF3:=hF2.kept hB3
 have f3:=hF3.cell (j:=3) rfl
 have fF:=(hsl.kept hB2).kept hB3
 have bK:=oZ ba F.b.length bc F.b (by omega) w3 fF
 rw[mG,hE,hO]at bK
 clear kU x0 x1 x2 x3 m0 n0 n1
 go_wp2_with fail
 refine bK.mono ?_
 rintro e w4 ⟨gE,cE,gO,cO,rfl,hEO,hB4⟩
 dsimp only
 obtain⟨Vk,Tw⟩:=hEO trivial
 have Mx:=hF3.kept hB4
 have f0:=Mx.cell (j:=0) rfl
 have f1:=Mx.cell (j:=1) rfl
 have f2:=Mx.cell (j:=2) rfl
 have f3':=Mx.cell (j:=3) rfl
 have bI:=aA w4 (.cells #[.slice none 0 0, .slice none 0 0, .int .i64 (F.a+F.l), .slice ha F.b.length hc, .slice (some ⟨gE,0,none⟩) F.b.length cE, .slice ba F.b.length bc, .int .i64 F.g] 155)
 have hbx:bi (w4.alloc (.cells #[.slice none 0 0, .slice none 0 0, .int .i64 (F.a+F.l), .slice ha F.b.length hc, .slice (some ⟨gE,0,none⟩) F.b.length cE, .slice ba F.b.length bc, .int .i64 F.g] 155)) w4.heap.size [.slice none 0 0, .slice none 0 0, .int .i64 (F.a+F.l), .slice ha F.b.length hc, .slice (some ⟨gE,0,none⟩) F.b.length cE, .slice ba F.b.length bc, .int .i64 F.g]:=bi.new w4 _ _
 have hz5:w4.heap.size+1<=(w4.alloc (.cells #[.slice none 0 0, .slice none 0 0, .int .i64 (F.a+F.l), .slice ha F.b.length hc, .slice (some ⟨gE,0,none⟩) F.b.length cE, .slice ba F.b.length bc, .int .i64 F.g] 155)).heap.size:=by simp
 obtain⟨W5,hW5⟩:∃X,w4.alloc (.cells #[.slice none 0 0, .slice none 0 0, .int .i64 (F.a+F.l), .slice ha F.b.length hc, .slice (some ⟨gE,0,none⟩) F.b.length cE, .slice ba F.b.length bc, .int .i64 F.g] 155)=X:=⟨_,rfl⟩
 rw[hW5]at bI hbx hz5
 rw[hHl]at ho3
 have Bb:=hB3.trans (hB4.mono hB3.size)
 have TC:IL w4 ha F.b.length H:=((OI.il ho3).2).kept hB4
 have TD:IL w4 (some ⟨gE,0,none⟩) F.b.length E:=(OI.il Vk).2
 have TE:IL w4 (some ⟨gO,0,none⟩) F.b.length O:=(OI.il Tw).2
 have TF:=fF.kept hB4
 have hs4:=((hs1.kept hB2).kept hB3).kept hB4
 have T:TX (⟨w4.heap.size,ha,hc,some ⟨gE,0,none⟩,cE,ba,bc,fs,F,E,O,H⟩:LX) w4:=⟨Nat.le_refl _,TC,TD,TF,hA,D6,hall,V⟩
 have K5:MK (⟨w4.heap.size,ha,hc,some ⟨gE,0,none⟩,cE,ba,bc,fs,F,E,O,H⟩:LX) w4 W5 (.slice none 0 0) (.slice none 0 0) [] (fun _=>False):=⟨bI,hbx,hz5,⟨[],World.ownsRow_nil _ _ _ _,rfl,fun j hj=>by simp at hj,fun j hj=>by simp at hj⟩,OI.nil _ _⟩
 have HM4:=hM2.kept Bb
 have hBw:=D7.trans (Bb.mono D7.size)
 have g0:=(Mx.kept bI).cell (j:=0) rfl
 obtain⟨ln,hln⟩:=Int.eq_ofNat_of_zero_le D6.2.2.1
 have TG:F.l.toNat=ln:=by omega
 have HC:=ae (ak T (ak K5 (ak Mx (ak HM4 (ak hBw (ak hs4 (ak TE (ak TG hln))))))))
 have hF5:-1<=F.a/\F.a<=3:=by omega
 have hl5:-1<=F.l/\F.l<=3:=by omega
 have aff:=D6.2.2.2.2.2
 have Jg:=D6.2.2.2.2.1
 clear bK f3 hbx hz5 bI TC TD TE TF hs4 T K5 HM4 hBw Bb Mx hF3 fF hF2 hM2 hM1 ho3 Vk Tw hB3 hB4 hB2 D7 hB1 hs1 hs hsl hall mG hres TB hv V hA D6 e2 hF hH hE hO hln TG hEO
 go_wp2
 go_loopw [13] (fun vi wr=>∃(i:Nat)(v vg:Value),vi= .int .i64 (F.a+(i:Int))/\i<=ln/\MK (⟨w4.heap.size,ha,hc,some ⟨gE,0,none⟩,cE,ba,bc,fs,F,E,O,H⟩:LX) w4 wr v vg ((Lw.first F).take i) (fun _=>False)) (fun vi _=>(F.a+F.l-intOf vi).toNat)
 case atStart=>exact⟨0,_,_,by simp,Nat.zero_le _,HC.out.2.1⟩
 case round=>
  obtain⟨i,v,vg,rfl,hi,K⟩:=hrel
  have hll:=HC.out.2.2.2.2.2.2.2.2
  have q2:wr.cell? ⟨w4.heap.size,2,none⟩=some (.int .i64 (F.a+F.l)):=(K.box.2 2 _ rfl).1
  have hlB:w4.heap.size<wr.heap.size:=K.sz
  by_cases hlt:i<ln
  · have bE:F.a+(i:Int)<F.a+F.l:=by{omega};have hfl:((Lw.first F).take i).length<=1000:=by{rw[List.length_take];omega};have hadd:=aL (⟨w4.heap.size,ha,hc,some ⟨gE,0,none⟩,cE,ba,bc,fs,F,E,O,H⟩:LX) w4 wr v vg ((Lw.first F).take i) (fun _=>False) (Nat.le_refl _) K ⟨1,F.a+(i:Int),0,0,0,[]⟩ none 0 0 (OI.nil _ _) (fun g e=>by cases e) (-1) hfl;have HFM:=ae (Lw.AA (f:=F) (i:=i) (by rw[HC.out.2.2.2.2.2.2.2.1];exact hlt));clear K hfl hll;go_wp2_with fail;refine hadd.mono ?_;rintro e X1 ⟨v1,iB,rfl,K1,-⟩;dsimp only;rw[←HFM.out]at K1;clear hadd q2;go_wp2;go_roundw;(case rel=>exact⟨i+1,v1,iB,by simp;omega,hlt,K1⟩);case measure=>simp[intOf];omega
  · have hie:i=ln:=by omega
    have bE:¬F.a+(i:Int)<F.a+F.l:=by omega
    have K2:MK (⟨w4.heap.size,ha,hc,some ⟨gE,0,none⟩,cE,ba,bc,fs,F,E,O,H⟩:LX) w4 wr v vg (Lw.eD fs F E O H 0).1 (fun _=>False):=by have e:(Lw.first F).take i=Lw.first F:=List.take_of_length_le (by rw[Lw.CZ,HC.out.2.2.2.2.2.2.2.1];omega);rw[e]at K;exact K
    have Kl:=HC.out.2.2.1.kept K2.eY
    have r3:=Kl.cell (j:=3) rfl
    have nN:=aA wr (.cells #[] 2)
    have HK:=ae (K2.kept nN)
    have HO:Hid (OI (wr.alloc (.cells #[] 2)) (w4.heap.size+1) (.slice (some ⟨wr.heap.size,0,none⟩) 0 0) []):=OI.mono (OI.empty wr) hlB
    have fq:Hid (∀g,(Value.slice (some ⟨wr.heap.size,0,none⟩) 0 0).ownBlock=some g->v.ownBlock≠some g/\vg.ownBlock≠some g/\¬False):=fun g e=>by simp only[Value.ownBlock,af]at e;subst e;obtain⟨vs,h1,-⟩:=K2.row;exact⟨fun e=>by have:=(bO h1 e).2;omega,fun e=>by have:=(bO K2.zF e).2;omega,fun h=>h⟩
    have r3':=(Kl.kept nN).cell (j:=3) rfl
    clear K K2 nN Kl hie hll
    go_wp2
    clear q2 r3 r3'
    go_loopw [14,15] (fun vs vi wx=>∃(i:Nat)(v vg sv:Value)(P:Nat->Prop),vs=sv/\vi= .int .i64 (i:Int)/\i<=F.b.length/\MK (⟨w4.heap.size,ha,hc,some ⟨gE,0,none⟩,cE,ba,bc,fs,F,E,O,H⟩:LX) w4 wx v vg (Lw.eD fs F E O H i).1 P/\OI wx (w4.heap.size+1) sv (Lw.eD fs F E O H i).2/\(∀g,sv.ownBlock=some g->v.ownBlock≠some g/\vg.ownBlock≠some g/\¬P g)/\(∀g,P g->g<wx.heap.size)) (fun _ vi _=>F.b.length-(intOf vi).toNat)
    case atStart=>exact⟨0,v,vg,_,_,rfl,rfl,Nat.zero_le _,HK.out,HO.out,fq.out,fun g h=>h.elim⟩
    case round=>
     obtain⟨i2,v2,vE,sv,P,hse,rfl,hi2,K,hsv,hap,hPb⟩:=hrel
     have aaB:=hse.symm
     clear hse
     subst aaB
     clear HK HO fq
     obtain⟨j0,hj,hy0,hy1,hy2⟩:=info_parts bU
     have Kl:=HC.out.2.2.1.kept K.eY
     have r3:=Kl.cell (j:=3) rfl
     have afh:w4.heap.size<wr.heap.size:=K.sz
     have Vm:=Lw.qP fs F E O H i2
     have aaC:=HC.out.2.2.2.2.2.2.2.1
     by_cases hlt:i2<F.b.length
     · have bE:(i2:Int)<(F.b.length:Int):=by{omega};obtain⟨vs,hrow,-⟩:=K.row;obtain⟨va,vc,rfl⟩:=dE hrow;have q0:wr.cell? ⟨w4.heap.size,0,none⟩=some (.slice va (Lw.eD fs F E O H i2).1.length vc):=(K.box.2 0 _ rfl).1;have MB:wr.ownsRow (w4.heap.size+1) 2 1 sv i2 ((Lw.eD fs F E O H i2).2.map iv):=by{unfold OI at hsv;rwa [Vm.2]at hsv};obtain⟨sa,sc,rfl⟩:=dE MB;obtain⟨un,hun⟩:∃un,(Lw.eD fs F E O H i2).1.length=un:=⟨_,rfl⟩;have nN:=aA wr (.cells #[.int .i64 (un:Int)] 2);have HSV:=ae (aH MB nN);have Vn:=ae (K.kept nN);have aaE:un<=900:=by{omega};have Gy:=ae (ak hun Vm.2);have fq:=ae hap;have HPB:=ae hPb;rw[hun]at q0;have Vo:∃b o,ha=some ⟨b,o,none⟩/\b<w4.heap.size/\w4.cell? ⟨b,o+i2,none⟩=some (.int .i64 (H.getD i2 0)):=by{obtain⟨hl,-,h3|⟨b,o,e,hb,hh⟩⟩:=HC.out.1.hH;{have:F.b.length=0:=h3;omega};exact⟨b,o,e,hb,hh i2 hlt⟩};obtain⟨hb',ho',rfl,lH,Vo⟩:=Vo;have HHC:Hid (∀X:World,Below w4.heap.size w4 X->X.cell? ⟨hb',ho'+i2,none⟩=some (.int .i64 (H.getD i2 0))):=fun X hX=>(hX.cell (p:=⟨hb',ho'+i2,none⟩) lH).trans Vo;obtain⟨u,hu⟩:∃u,H.getD i2 0=u:=⟨_,rfl⟩;have HU:=ae hu;rw[hu]at HHC;have aar:=K.sz;have aaF:=nN.size;clear K hsv MB hap hPb hrow Kl hun Vm Vo hu nN aaC;go_wp2_with(at_builtin;refine wpList_append_own_at _ rfl _ _ 26 rfl (w4.heap.size+1) 2 j0 (.int .i64 0) 1 8 Tryz.underlying26 hj hy0 hy1 hy2 rfl (by decide) (.slice sa i2 sc) i2 _ rfl HSV.out ⟨wr.heap.size,0,none⟩ 1 1 [.int .i64 (un:Int)] rfl rfl (cell_one_new _ _ _) (by simp[Value.oneCell']) (by simp only[maxLen];omega) (by omega) (by simp;omega) ?_;intro sv' wB hown2 hgrow2 _ Gt;obtain⟨g2,cap2,rfl⟩:=ownsRow_succ hown2;have KB:=Vn.out.other (Nat.le_refl _) hgrow2 (fun g e=>⟨(bO HSV.out e).1,(fq.out g e).1,(fq.out g e).2.1,(fq.out g e).2.2⟩);have cB:=HHC.out wB KB.eY;have jP:=ae (ak hown2 (ak hgrow2 (ak Gt KB)));have m0:=(HC.out.2.2.2.1.kept KB.eY).cell (j:=0) rfl;have m1:=(HC.out.2.2.2.1.kept KB.eY).cell (j:=1) rfl;clear hown2 hgrow2 Gt KB;refine KV ?_);unfold Hid;obtain⟨o1,o2,o3,KB⟩:=jP.out;have Jn:Hid (∀g,(Value.slice (some ⟨g2,0,none⟩) (i2+1) cap2).ownBlock=some g->Value.ownBlock (.slice va un vc)≠some g/\vE.ownBlock≠some g/\¬P g/\g<wB.heap.size):=fun g e=>by{have hlt2:=(bO o1 e).2;rcases o3 with e'|e';{rw[e']at e;have:=fq.out g e;rw[Gy.out.1]at this;exact⟨this.1,this.2.1,this.2.2,hlt2⟩};rw[e']at e;simp only[af]at e;obtain⟨vs',hr',-⟩:=Vn.out.row;rw[Gy.out.1]at hr';have hgg:=(bO hr' (g:=g));have hgo:=fun e2=>(bO Vn.out.zF (g:=g) e2).2;refine⟨fun e2=>by have:=(hgg e2).2;omega,fun e2=>by have:=hgo e2;omega,fun h=>by have:=HPB.out g h;simp only[World.size_alloc]at e;omega,hlt2⟩};rw[Gy.out.1]at KB;have Tz:Hid (OI wB (w4.heap.size+1) (.slice (some ⟨g2,0,none⟩) (i2+1) cap2) ((Lw.eD fs F E O H i2).2++[(un:Int)])):=by{show World.ownsRow _ _ _ _ _ _ _;rw[List.length_append,Gy.out.2,List.length_singleton,List.map_append];exact o1};have HKB:=ae KB;have TH:Hid (wr.heap.size<=wB.heap.size):=Nat.le_trans aaF o2.size;clear o1 o2 o3 KB jP HSV Vn fq;by_cases hu0:0<=u;{have hcon:=vV HC.out.1 HKB.out (some ⟨fb,fo,none⟩) len cap d (some ⟨gO,0,none⟩) cO HC.out.2.2.2.2.2.1 HC.out.2.2.2.2.2.2.1 i2 hlt (by show 0<=H.getD i2 0;rw[HU.out];exact hu0) (by rw[Gy.out.1];exact aaE);go_wp2_with fail;refine hcon.mono ?_;rintro e X1 ⟨v3,Tm,rfl,K3,F3⟩;dsimp only;have Pt:=ae (ak K3.tight F3);clear hcon K3 F3 m0 m1 cB;go_wp2;go_roundw;(case rel=>obtain⟨K3,F3⟩:=Pt.out;refine⟨i2+1,v3,Tm,_,(fun g=>(P g\/wB.heap.size<=g)/\g<X1.heap.size),rfl,by simp,hlt,?_,?_,fun g e=>?_,fun g h=>h.2⟩;{show MK _ _ _ _ _ ((Lw.eD fs F E O H i2).1++(if 0<=H.getD i2 0 then Lw.step fs F E O H i2 else[])) _;rw[ay (by rw[HU.out];exact hu0)];exact K3};{show OI _ _ _ ((Lw.eD fs F E O H i2).2++[((Lw.eD fs F E O H i2).1.length:Int)]);rw[Gy.out.1];exact F3.rows Tz.out (fun g e=>⟨by have:=(bO Tz.out e).1;show g≠w4.heap.size;omega,(Jn.out g e).1,(Jn.out g e).2.1⟩)};have h2:=Jn.out g e;refine⟨?_,?_,fun h=>?_⟩;{rcases F3.v1 with e'|⟨g',e',hg'⟩;{rw[e'];exact h2.1};rw[e'];simp only[ne_eq,af];omega};{rcases F3.g1 with e'|⟨g',e',hg'⟩;{rw[e'];exact h2.2.1};rw[e'];simp only[ne_eq,af];omega};rcases h.1 with h'|h';{exact h2.2.2.1 h'};omega);case measure=>simp[intOf];omega};clear m0 m1;go_wp2;go_roundw;(case rel=>refine⟨i2+1, .slice va un vc,vE,_,P,rfl,by simp,hlt,?_,?_,fun g e=>?_,fun g h=>?_⟩;{show MK _ _ _ _ _ ((Lw.eD fs F E O H i2).1++(if 0<=H.getD i2 0 then Lw.step fs F E O H i2 else[])) _;rw[ax (by rw[HU.out];exact hu0),List.append_nil];exact HKB.out};{show OI _ _ _ ((Lw.eD fs F E O H i2).2++[((Lw.eD fs F E O H i2).1.length:Int)]);rw[Gy.out.1];exact Tz.out};{have h2:=Jn.out g e;exact⟨h2.1,h2.2.1,h2.2.2.1⟩};have:=HPB.out g h;have:=TH.out;omega);case measure=>simp[intOf];omega
     · have MC:i2=F.b.length:=by omega
       have bE:¬(i2:Int)<(F.b.length:Int):=by omega
       have r2:=Kl.cell (j:=2) rfl
       have q2:wr.cell? ⟨w4.heap.size,2,none⟩=some (.int .i64 (F.a+F.l)):=(K.box.2 2 _ rfl).1
       have Vp:MK (⟨w4.heap.size,ha,hc,some ⟨gE,0,none⟩,cE,ba,bc,fs,F,E,O,H⟩:LX) w4 wr v2 vE (Lw.eD fs F E O H F.b.length).1 P:=by rw[←MC];exact K
       have ME:OI wr (w4.heap.size+1) sv (Lw.nU fs F E O H):=by unfold Lw.nU;rw[←MC];exact hsv
       have aaG:=Lw.qP fs F E O H F.b.length
       have hRG:=ae (Lw.Fj HC.out.1.acc)
       have HRW:Hid (Lw.raw fs F E O H=(Lw.eD fs F E O H F.b.length).1++Lw.last F):=rfl
       have TI:Hid ((Lw.nU fs F E O H).length=F.b.length):=aaG.2
       have Jo:Hid (∀(XX:World)(vx Jp:Value),MK (⟨w4.heap.size,ha,hc,some ⟨gE,0,none⟩,cE,ba,bc,fs,F,E,O,H⟩:LX) w4 XX vx Jp (Lw.raw fs F E O H) P->FX (⟨w4.heap.size,ha,hc,some ⟨gE,0,none⟩,cE,ba,bc,fs,F,E,O,H⟩:LX) v2 vE vx Jp wr XX->OI XX (w4.heap.size+1) sv (Lw.nU fs F E O H)):=fun XX vx Jp hK hX=>hX.rows ME (fun g e=>⟨by have:=(bO ME e).1;show g≠w4.heap.size;omega,(hap g e).1,(hap g e).2.1⟩)
       obtain⟨R,hR⟩:∃R,Lw.raw fs F E O H=R:=⟨_,rfl⟩
       obtain⟨st,hst⟩:∃st,Lw.nU fs F E O H=st:=⟨_,rfl⟩
       have HFN:Hid (Lw.func fs F E O H=if R.length<=300 then R.map (Lw.GX st)else[]):=by show _=_;unfold Lw.func;rw[hR,hst]
       have hRl:R.length<=1000:=by rw[←hR,HRW.out,List.length_append];(have:(Lw.last F).length<=2:=by unfold Lw.last;split<;>simp);omega
       rw[hR]at hRG HRW Jo
       rw[hst]at TI Jo
       clear K hsv Kl ME Vm MC hR hst hap
       have Vq:Hid (∀(XX:World)(vx Jp:Value),MK (⟨w4.heap.size,ha,hc,some ⟨gE,0,none⟩,cE,ba,bc,fs,F,E,O,H⟩:LX) w4 XX vx Jp R P->FX (⟨w4.heap.size,ha,hc,some ⟨gE,0,none⟩,cE,ba,bc,fs,F,E,O,H⟩:LX) v2 vE vx Jp wr XX->PK (⟨w4.heap.size,ha,hc,some ⟨gE,0,none⟩,cE,ba,bc,fs,F,E,O,H⟩:LX) w4 XX vx Jp sv R st 0):=fun XX vx Jp hK hX=>PK.of hK (Jo.out XX vx Jp hK hX)
       clear Jo
       rcases Jg with hg|hg
       case' inl=>
        rw[hg]at r2
        replace HRW:Hid (R=(Lw.eD fs F E O H F.b.length).1++[(⟨1,F.a+F.l+20,0,0,0,[]⟩,-1)]++[(⟨10,0,F.a+F.l+20,0,0,[]⟩,-1)]):=by show _=_;rw[HRW.out];unfold Lw.last;rw[ay hg,List.append_assoc];rfl
        have zI:=aL (⟨w4.heap.size,ha,hc,some ⟨gE,0,none⟩,cE,ba,bc,fs,F,E,O,H⟩:LX) w4 wr v2 vE (Lw.eD fs F E O H F.b.length).1 P (Nat.le_refl _) Vp ⟨1,F.a+F.l+20,0,0,0,[]⟩ none 0 0 (OI.nil _ _) (fun g e=>by cases e) (-1) (by omega)
        clear Vp
        go_wp2_with fail
        refine zI.mono ?_
        rintro e X1 ⟨v3,Tm,rfl,K3,F3⟩
        dsimp only
        have Km:=aL (⟨w4.heap.size,ha,hc,some ⟨gE,0,none⟩,cE,ba,bc,fs,F,E,O,H⟩:LX) w4 X1 v3 Tm _ P (Nat.le_refl _) K3 ⟨10,0,F.a+F.l+20,0,0,[]⟩ none 0 0 (OI.nil _ _) (fun g e=>by cases e) (-1) (by rw[List.length_append,List.length_singleton];omega)
        clear zI r2 q2 r3
        go_wp2_with fail
        refine Km.mono ?_
        rintro e XF ⟨vF,gF,rfl,K4,F4⟩
        dsimp only
        rw[←HRW.out]at K4
        have TJ:=ae (Vq.out XF vF gF K4 (F3.trans F4))
        clear Km K3 F3 K4 F4 Vq
       case' inr=>
        rw[hg]at r2
        replace HRW:Hid (R=(Lw.eD fs F E O H F.b.length).1++[(⟨10,0,F.a+F.l,0,0,[]⟩,-1)]):=by show _=_;rw[HRW.out];unfold Lw.last;rw[ax (by omega)];rfl
        have zI:=aL (⟨w4.heap.size,ha,hc,some ⟨gE,0,none⟩,cE,ba,bc,fs,F,E,O,H⟩:LX) w4 wr v2 vE (Lw.eD fs F E O H F.b.length).1 P (Nat.le_refl _) Vp ⟨10,0,F.a+F.l,0,0,[]⟩ none 0 0 (OI.nil _ _) (fun g e=>by cases e) (-1) (by omega)
        clear Vp
        go_wp2_with fail
        refine zI.mono ?_
        rintro e XF ⟨vF,gF,rfl,K4,F4⟩
        dsimp only
        rw[←HRW.out]at K4
        have TJ:=ae (Vq.out XF vF gF K4 F4)
        clear zI r2 q2 r3 K4 F4 Vq
       all_goals have hR1:1<=R.length:=by{rw[HRW.out];simp};obtain⟨vs0,Kn,-⟩:=TJ.out.row;obtain⟨gv,cv,rfl⟩:∃gv cv,vF= .slice (some ⟨gv,0,none⟩) R.length cv:=by{rcases Kn.2 with⟨-,h0⟩|⟨g',cap',cur,h',-⟩;{omega};exact⟨g',cap',h'⟩};have Jq:=TJ.out.zF;have DW:=TJ.out.TA;unfold OI at Jq DW;rw[List.length_map]at Jq;rw[TI.out]at DW;obtain⟨ga,gc,rfl⟩:=dE Jq;obtain⟨sa,sc,rfl⟩:=dE DW;clear Kn Jq DW;have hRZ:(R.length:Int)<=1000:=by{omega};go_wp2;go_loopw [17] (fun vi wx=>∃i:Nat,vi= .int .i64 (i:Int)/\i<=R.length/\PK (⟨w4.heap.size,ha,hc,some ⟨gE,0,none⟩,cE,ba,bc,fs,F,E,O,H⟩:LX) w4 wx (.slice (some ⟨gv,0,none⟩) R.length cv) (.slice ga R.length gc) (.slice sa F.b.length sc) R st i) (fun vi _=>R.length-(intOf vi).toNat);(case atStart=>exact⟨0,rfl,Nat.zero_le _,TJ.out⟩);case round=>obtain⟨i3,rfl,hi3,hP⟩:=hrel;have q0:wr.cell? ⟨w4.heap.size,0,none⟩=some (.slice (some ⟨gv,0,none⟩) R.length cv):=(hP.box.2 0 _ rfl).1;have q1:wr.cell? ⟨w4.heap.size,1,none⟩=some (.slice ga R.length gc):=(hP.box.2 1 _ rfl).1;have TK:w4.heap.size<wr.heap.size:=hP.sz;by_cases hlt3:i3<R.length;{have TL:(i3:Int)<(R.length:Int):=by{omega};have hmem:R.getD i3 (.z,0)∈R:=by{rw[ah,ai hlt3];exact List.getElem_mem hlt3};have Ko:=hRG.out _ hmem;have cG:∃b o,ga=some ⟨b,o,none⟩/\b<wr.heap.size/\wr.cell? ⟨b,o+i3,none⟩=some (.int .i64 (R.getD i3 (.z,0)).2):=by{have hil:=(OI.il hP.zF).2;obtain⟨hl,-,h3|⟨b,o,e,hb,hh⟩⟩:=hil;{omega};refine⟨b,o,e,hb,?_⟩;rw[hh i3 hlt3,ah,ah,List.getElem?_map,ai hlt3];rfl};obtain⟨gb,go,rfl,lG,cG⟩:=cG;obtain⟨tg,TM⟩:∃tg,(R.getD i3 (.z,0)).2=tg:=⟨_,rfl⟩;by_cases ht0:0<=tg;{have cT:∃b o,sa=some ⟨b,o,none⟩/\b<wr.heap.size/\wr.cell? ⟨b,o+tg.toNat,none⟩=some (.int .i64 (st.getD tg.toNat 0)):=by{have hil:=(OI.il hP.TA).2;obtain⟨hl,-,h3|⟨b,o,e,hb,hh⟩⟩:=hil;{omega};exact⟨b,o,e,hb,hh tg.toNat (by omega)⟩};obtain⟨sb,so,rfl,lS,cT⟩:=cT;have TP:=ae (fun(X:World) hX=>PK.fill (hP.kept (W':=X) hX) (Nat.le_refl _) hlt3 (by rw[TM];exact ht0));rw[TM]at TP cG Ko;obtain⟨tn,rfl⟩:=Int.eq_ofNat_of_zero_le ht0;rw[az]at cT TP;obtain⟨y,hy⟩:∃y,st.getD tn 0=y:=⟨_,rfl⟩;rw[hy]at cT TP;have afi:(tn:Int)<(F.b.length:Int):=by{omega};obtain⟨vs1,Cn,aaI,-⟩:=hP.row;have hgv:=(bO Cn rfl).2;have g4:=(lI vs1 i3 (by omega)).2.2.2.2.1;have c4:=(Cn.cellAt (i3*6+4) (by omega)).trans g4;have f4:=Cn.frozenAt (i3*6+4);obtain⟨z4,hz4⟩:∃z,(vs1.getD i3 eP).2.2.2.2.1=z:=⟨_,rfl⟩;rw[hz4]at c4;have b0:∀p:bV wr,p.to.cell? ⟨w4.heap.size,0,none⟩=some (.slice (some ⟨gv,0,none⟩) R.length cv):=fun p=>(p.h.cell (p:=⟨w4.heap.size,0,none⟩) TK).trans q0;have b1:∀p:bV wr,p.to.cell? ⟨w4.heap.size,1,none⟩=some (.slice (some ⟨gb,go,none⟩) R.length gc):=fun p=>(p.h.cell (p:=⟨w4.heap.size,1,none⟩) TK).trans q1;have b2:∀p:bV wr,p.to.cell? ⟨gb,go+i3,none⟩=some (.int .i64 (tn:Int)):=fun p=>(p.h.cell (p:=⟨gb,go+i3,none⟩) lG).trans cG;have b3:∀p:bV wr,p.to.cell? ⟨sb,so+tn,none⟩=some (.int .i64 y):=fun p=>(p.h.cell (p:=⟨sb,so+tn,none⟩) lS).trans cT;have MF:Hid (∀p:bV wr,p.to.cell? ⟨gv,i3*6+4,none⟩=some (.int .i64 z4)/\p.to.frozen? ⟨gv,i3*6+4,none⟩=false):=fun p=>⟨(p.h.cell (p:=⟨gv,i3*6+4,none⟩) hgv).trans c4,(p.h.frozen (p:=⟨gv,i3*6+4,none⟩) hgv).trans f4⟩;have hne:=bV.any wr;clear hP Cn aaI c4 f4 g4 hz4 hy TM hmem cT;go_wp2;refine dO 17 (by kernel_rfl) (by kernel_rfl) ?_;simp only[List.take_succ_cons,List.take_zero,List.drop_succ_cons,List.drop_zero];(repeat(go_big_quiet_step (fail)));refine wpQuiet_nil ?_;rintro _ ⟨pw,rfl⟩;have hc4:=(MF.out pw).1;have hf4:=(MF.out pw).2;have HFin:=ae (TP.out _ pw.h);clear b0 b1 b2 b3 hne MF TP q0 q1 cG;obtain⟨X3,hX3⟩:∃X3,pw.to=X3:=⟨_,rfl⟩;rw[hX3]at hc4 hf4 HFin ⊢;clear hX3;go_wp2;go_roundw;(case rel=>exact⟨i3+1,by simp,hlt3,HFin.out⟩);case measure=>simp[intOf];omega};have HFin:=ae (hP.skip hlt3 (by omega));rw[TM]at cG;clear hP TM hmem Ko;go_wp2;go_roundw;(case rel=>exact⟨i3+1,by simp,hlt3,HFin.out⟩);case measure=>simp[intOf];omega};have MG:i3=R.length:=by{omega};have TL:¬(i3:Int)<(R.length:Int):=by{omega};have hBf:=HC.out.2.2.2.2.1.trans (hP.eY.mono HC.out.2.2.2.2.1.size);have hw4:=HC.out.2.2.2.2.1.size;by_cases MH:R.length<=300;{have TQ:¬(300:Int)<(R.length:Int):=by{omega};have HF:Hid (nV wr w.heap.size (.slice (some ⟨gv,0,none⟩) R.length cv) (Lw.func fs F E O H)):=by{obtain⟨vs,h1,h2,h3⟩:=hP.row;have e:Lw.part st R i3=R.map (Lw.GX st):=by{unfold Lw.part;rw[MG,List.take_length,List.drop_length];simp};rw[e]at h3;have eL:(Lw.func fs F E O H).length=R.length:=by{rw[HFN.out,ay MH,List.length_map]};refine⟨gv,cv,vs,by rw[eL],?_,?_⟩;{rw[eL];exact uu h1 (by show w.heap.size<=w4.heap.size+1;omega)};rw[eL,HFN.out,ay MH];exact h3.mono (by show w.heap.size<=w4.heap.size+1;omega)};clear hP MG;go_wp2;go_ret;exact⟨_,rfl,HF.out,hBf⟩};have TQ:(300:Int)<(R.length:Int):=by{omega};have nN:=aA wr (.cells #[] 59);have hBg:=hBf.trans (nN.mono hBf.size);have HF:Hid (nV (wr.alloc (.cells #[] 59)) w.heap.size (.slice (some ⟨wr.heap.size,0,none⟩) 0 0) (Lw.func fs F E O H)):=by{show nV _ _ _ _;rw[HFN.out,ax MH];exact⟨wr.heap.size,0,[],rfl,⟨rfl, .inr ⟨wr.heap.size,0,#[],rfl,by omega,World.alloc_heap_new wr _,Nat.le_refl _,by simp[maxLen],rfl,rfl⟩⟩,fun j hj=>by simp at hj⟩};clear hP MG nN;go_wp2;go_ret;exact⟨_,rfl,HF.out,hBg⟩
theorem nV.mono {W:World}{n₀ n₁:Nat}{v:Value}{fs:List Ln}(h:nV W n₁ v fs)(hn:n₀<=n₁):nV W n₀ v fs:=by obtain⟨g,cap,vs,e,h1,h2⟩:=h;exact⟨g,cap,vs,e,uu h1 hn,h2.mono hn⟩
theorem nV.none (W:World)(n₀:Nat)(hn:n₀<=W.heap.size):nV (W.alloc (.cells #[] 59)) n₀ (.slice (some ⟨W.heap.size,0,none⟩) 0 0) []:=
 ⟨W.heap.size,0,[],rfl,⟨rfl, .inr ⟨W.heap.size,0,#[],rfl,hn,World.alloc_heap_new W _,Nat.le_refl _,by simp[maxLen],rfl,rfl⟩⟩,fun j hj=>by simp at hj⟩
theorem wT (a:Option Addr)(len cap:Nat)(fs:List Fn)(d:ByteArray)(hd:d.size<=maxLen)(k:Int)(w:World)(hs:FL w a len fs):Calls Tryz.prog 52 #[.agg #[.slice a len cap, .string d], .int .i64 k] w fun e w'=>∃v,e= .returned v/\nV w' w.heap.size v (Lw.fw fs d k)/\Below w.heap.size w w':=by have hl:=hs.1;have hB1:=aA w (.cells #[.slice a len cap, .string d] 84);have hM1:gY (w.alloc (.cells #[.slice a len cap, .string d] 84)) w.heap.size 84 [.slice a len cap, .string d]:=heap_alloc_last w _;obtain⟨W1,hW1⟩:∃X,w.alloc (.cells #[.slice a len cap, .string d] 84)=X:=⟨_,rfl⟩;rw[hW1]at hB1 hM1;have hs1:=hs.kept hB1;have hcon:=AB a len cap fs d hd W1 hs1;have c0:=hM1.cell (j:=0) rfl;have c1:=hM1.cell (j:=1) rfl;have hm:=hs.2.1;unfold maxLen at hm;clear hs;have bad:∀(W2:World),Below w.heap.size w W2->Lw.fw fs d k=[]->nV (W2.alloc (.cells #[] 59)) w.heap.size (.slice (some ⟨W2.heap.size,0,none⟩) 0 0) (Lw.fw fs d k)/\Below w.heap.size w (W2.alloc (.cells #[] 59)):=fun W2 hB e=>by{rw[e];exact⟨nV.none W2 _ hB.size,hB.trans ((aA W2 _).mono hB.size)⟩};rcases hv:Hg.valid fs d with _|_;{have HE:Hid (Lw.fw fs d k=[]):=by{show _=_;unfold Lw.fw;rw[ax (by rw[hv];simp)]};rw[hv]at hcon;go_enter Tryz.func52,Tryz.ntmps52;go_wp2_with fail;refine hcon.mono ?_;rintro e w2 ⟨rfl,hB2⟩;dsimp only;have HF:=ae (bad w2 (hB1.trans (hB2.mono hB1.size)) HE.out);clear hcon c0 c1 bad hs1;go_wp2;go_ret;exact⟨_,rfl,HF.out.1,HF.out.2⟩};rw[hv]at hcon;by_cases hk0:k<0;{have HE:Hid (Lw.fw fs d k=[]):=by{show _=_;unfold Lw.fw;rw[ax (by omega)]};go_enter Tryz.func52,Tryz.ntmps52;go_wp2_with fail;refine hcon.mono ?_;rintro e w2 ⟨rfl,hB2⟩;dsimp only;have HF:=ae (bad w2 (hB1.trans (hB2.mono hB1.size)) HE.out);clear hcon c0 c1 bad hs1;go_wp2;go_ret;exact⟨_,rfl,HF.out.1,HF.out.2⟩};by_cases hk1:(len:Int)<=k;{have HE:Hid (Lw.fw fs d k=[]):=by{show _=_;unfold Lw.fw;rw[ax (by omega)]};go_enter Tryz.func52,Tryz.ntmps52;go_wp2_with fail;refine hcon.mono ?_;rintro e w2 ⟨rfl,hB2⟩;dsimp only;have HF:=ae (bad w2 (hB1.trans (hB2.mono hB1.size)) HE.out);have d0:=(hM1.kept hB2).cell (j:=0) rfl;clear hcon c0 c1 bad hs1 hl;go_wp2;go_ret;exact⟨_,rfl,HF.out.1,HF.out.2⟩};obtain⟨kn,rfl⟩:=Int.eq_ofNat_of_zero_le (show 0<=k by omega);have HE:Hid (Lw.fw fs d (kn:Int)=Lw.func fs (Mn.fn fs kn) (aG.ends (Mn.fn fs kn).b) (aG.aR (Mn.fn fs kn).b) (Mn.zN fs kn)):=by{show _=_;unfold Lw.fw;rw[ay ⟨hv,by omega,by omega⟩,az]};go_enter Tryz.func52,Tryz.ntmps52;go_wp2_with fail;refine hcon.mono ?_;rintro e w2 ⟨rfl,hB2⟩;dsimp only;have hB3:=hB1.trans (hB2.mono hB1.size);have bK:=pJ a len cap fs d hv kn (by omega) w2 (hs1.kept hB2);rw[←HE.out]at bK;have d0:=(hM1.kept hB2).cell (j:=0) rfl;have d1:=(hM1.kept hB2).cell (j:=1) rfl;clear hcon c0 c1 bad hs1 hl;go_wp2_with fail;refine bK.mono ?_;rintro e w4 ⟨v,rfl,ho,hB4⟩;dsimp only;have HF:=ae (ak (ho.mono hB3.size) (hB3.trans (hB4.mono hB3.size)));obtain⟨g,cap',rfl,-⟩:=ho.LL;clear bK ho hB4 d0 d1;go_wp2;go_ret;exact⟨_,rfl,HF.out.1,HF.out.2⟩
def KL (w:World)(B:Nat)(a:Option Addr)(len cap:Nat)(zs:List Int)(g c n:Nat)(W:World):Prop:=
 ∃vs ls,List.length ls=n/\List.length vs=n/\W.ownsRow w.heap.size 59 6 (.slice (some ⟨g,0,none⟩) n c) n (cZ vs)/\gL W w.heap.size n vs ls/\aM w W B a len cap zs/\B<w.heap.size
section
variable {w W W' : World} {B : Nat} {a : Option Addr} {len cap : Nat} {zs : List Int} {g c n : Nat}
theorem KL.drawn (h:KL w B a len cap zs g c n W)(hd:aM W W' B a len cap zs):KL w B a len cap zs g c n W':=by obtain⟨vs,ls,h1,h2,h3,h4,h5,h6⟩:=h;exact⟨vs,ls,h1,h2,CY h3 hd h6,h4.other hd.2 h6,h5.andThen hd,h6⟩
theorem KL.dr (h:KL w B a len cap zs g c n W):aM w W B a len cap zs:=by obtain⟨vs,ls,h1,h2,h3,h4,h5,h6⟩:=h;exact h5
theorem KL.UN (h:KL w B a len cap zs g c n W):∃ls,nV W w.heap.size (.slice (some ⟨g,0,none⟩) n c) ls/\aM w W B a len cap zs:=by obtain⟨vs,ls,h1,h2,h3,h4,h5,h6⟩:=h;subst h1;exact⟨ls,⟨g,c,vs,rfl,h3,h4⟩,h5⟩
theorem KL.app {g' c':Nat}{x:Ln}{vl:Value}(h:KL w B a len cap zs g c n W)(ho:OI W w.heap.size vl x.l)(vs:List Lv)(hv:∀vs',W.ownsRow w.heap.size 59 6 (.slice (some ⟨g,0,none⟩) n c) n (cZ vs')->True)(hg:(W.alloc (.cells #[.int .i64 x.k, .int .i64 x.d, .int .i64 x.a, .int .i64 x.b, .int .i64 x.n,vl] 59)).grownBy W' (Value.slice (some ⟨g,0,none⟩) n c).ownBlock)(hrow:W.ownsRow w.heap.size 59 6 (.slice (some ⟨g,0,none⟩) n c) n (cZ vs))(hvl:vs.length=n)(ls:List Ln)(hls:ls.length=n)(ht:gL W w.heap.size n vs ls)(hn:W'.ownsRow w.heap.size 59 6 (.slice (some ⟨g',0,none⟩) (n+1) c') (n+1) (cZ vs++[.int .i64 x.k, .int .i64 x.d, .int .i64 x.a, .int .i64 x.b, .int .i64 x.n,vl])):KL w B a len cap zs g' c' (n+1) W':=by obtain⟨-,-,-,-,-,-,h5,h6⟩:=h;have hB1:=aA W (.cells #[.int .i64 x.k, .int .i64 x.d, .int .i64 x.a, .int .i64 x.b, .int .i64 x.n,vl] 59);have hr1:=aH hrow hB1;have ht1:=ht.kept hB1;have ho1:=ho.kept hB1;have ne:∀{v:Value}{xs:List Int},OI (W.alloc (.cells #[.int .i64 x.k, .int .i64 x.d, .int .i64 x.a, .int .i64 x.b, .int .i64 x.n,vl] 59)) w.heap.size v xs->∀k,v.ownBlock=some k->(Value.slice (some ⟨g,0,none⟩) n c).ownBlock≠some k:=fun hoi k hk=>fM hoi hr1 (by decide) hk;have ht2:gL W' w.heap.size n vs ls:=ht1.bS hg (fun j hj k hk=>ne (ht1 j hj).2.2.2.2.2 k hk);have ho2:OI W' w.heap.size vl x.l:=dA ho1 hg (fun k hk=>ne ho1 k hk);refine⟨vs++[(x.k,x.d,x.a,x.b,x.n,vl)],ls++[x],by simp[hls],by simp[hvl],by rw[nD];exact hn,fun j hj=>?_,(h5.alloc _).app h6 hr1 hg,h6⟩;by_cases e:j<n;{have e1:(vs++[(x.k,x.d,x.a,x.b,x.n,vl)]).getD j eP=vs.getD j eP:=by{rw[ah,List.getElem?_append_left (by omega),←ah]};have e2:(ls++[x]).getD j .z=ls.getD j .z:=by{rw[ah,List.getElem?_append_left (by omega),←ah]};rw[e1,e2];exact ht2 j e};have hjn:j=n:=by{omega};subst hjn;have e1:(vs++[(x.k,x.d,x.a,x.b,x.n,vl)]).getD j eP=(x.k,x.d,x.a,x.b,x.n,vl):=by{rw[ah,List.getElem?_append_right (by omega),hvl];simp};have e2:(ls++[x]).getD j .z=x:=by{rw[ah,List.getElem?_append_right (by omega),hls];simp};rw[e1,e2];exact⟨rfl,rfl,rfl,rfl,rfl,ho2⟩
theorem KL.set {k:Nat}{vl:Value}(x:Ln)(h:KL w B a len cap zs g c n W)(hk:k<n)(ho:OI W w.heap.size vl x.l):KL w B a len cap zs g c n ((((((W.setCell ⟨g,k*6,none⟩ (.int .i64 x.k)).setCell ⟨g,k*6+1,none⟩ (.int .i64 x.d)).setCell ⟨g,k*6+2,none⟩ (.int .i64 x.a)).setCell ⟨g,k*6+3,none⟩ (.int .i64 x.b)).setCell ⟨g,k*6+4,none⟩ (.int .i64 x.n)).setCell ⟨g,k*6+5,none⟩ vl):=by obtain⟨vs,ls,h1,h2,h3,h4,h5,h6⟩:=h;have TR:=h3.stored (k*6) (.int .i64 x.k);have DI:=TR.1.stored (k*6+1) (.int .i64 x.d);have TS:=DI.1.stored (k*6+2) (.int .i64 x.a);have TT:=TS.1.stored (k*6+3) (.int .i64 x.b);have TU:=TT.1.stored (k*6+4) (.int .i64 x.n);have MI:=TU.1.stored (k*6+5) vl;have hgr:=(dJ (dJ (dJ (dJ (dJ TR.2 DI.2) TS.2) TT.2) TU.2) MI.2);have ne:∀{v:Value}{xs:List Int},OI W w.heap.size v xs->∀k,v.ownBlock=some k->(some g:Option Nat)≠some k:=fun hoi k hk=>fM hoi h3 (by decide) hk;have ht2:=h4.bS hgr (fun j hj k hk=>ne (h4 j hj).2.2.2.2.2 k hk);have ho2:=dA ho hgr (fun k hk=>ne ho k hk);have hlt:=World.ownsRow.lt h3 g rfl;rw[←uC vs k (x.k,x.d,x.a,x.b,x.n,vl)]at MI;refine⟨vs.set k (x.k,x.d,x.a,x.b,x.n,vl),ls.set k x,by simp[h1],by simp[h2],MI.1,fun j hj=>?_,h5.fresh h6 hgr hlt.1,h6⟩;by_cases e:j=k;{subst e;have e1:(vs.set j (x.k,x.d,x.a,x.b,x.n,vl)).getD j eP=(x.k,x.d,x.a,x.b,x.n,vl):=by{rw[ah,List.getElem?_set_self (by omega)];rfl};have e2:(ls.set j x).getD j .z=x:=by{rw[ah,List.getElem?_set_self (by omega)];rfl};rw[e1,e2];exact⟨rfl,rfl,rfl,rfl,rfl,ho2⟩};have e1:(vs.set k (x.k,x.d,x.a,x.b,x.n,vl)).getD j eP=vs.getD j eP:=by{rw[ah,List.getElem?_set_ne (by omega),←ah]};have e2:(ls.set k x).getD j .z=ls.getD j .z:=by{rw[ah,List.getElem?_set_ne (by omega),←ah]};rw[e1,e2];exact ht2 j hj
theorem KL.at (h:KL w B a len cap zs g c n W){k:Nat}(hk:k<n):(∃p0 p1 p2 p3 p4:Int,∃u,W.cell? ⟨g,k*6,none⟩=some (.int .i64 p0)/\W.cell? ⟨g,k*6+1,none⟩=some (.int .i64 p1)/\W.cell? ⟨g,k*6+2,none⟩=some (.int .i64 p2)/\W.cell? ⟨g,k*6+3,none⟩=some (.int .i64 p3)/\W.cell? ⟨g,k*6+4,none⟩=some (.int .i64 p4)/\W.cell? ⟨g,k*6+5,none⟩=some u)/\W.frozen? ⟨g,k*6,none⟩=false/\W.frozen? ⟨g,k*6+1,none⟩=false/\W.frozen? ⟨g,k*6+2,none⟩=false/\W.frozen? ⟨g,k*6+3,none⟩=false/\W.frozen? ⟨g,k*6+4,none⟩=false/\W.frozen? ⟨g,k*6+5,none⟩=false/\g<W.heap.size/\n<=c:=by obtain⟨vs,ls,h1,h2,h3,h4,h5,h6⟩:=h;obtain⟨g0,g1,g2,g3,g4,g5⟩:=lI vs k (by omega);exact⟨⟨_,_,_,_,_,_,(World.ownsRow.cellAt h3 (k*6) (by omega)).trans g0,(World.ownsRow.cellAt h3 (k*6+1) (by omega)).trans g1,(World.ownsRow.cellAt h3 (k*6+2) (by omega)).trans g2,(World.ownsRow.cellAt h3 (k*6+3) (by omega)).trans g3,(World.ownsRow.cellAt h3 (k*6+4) (by omega)).trans g4,(World.ownsRow.cellAt h3 (k*6+5) (by omega)).trans g5⟩,h3.frozenAt _,h3.frozenAt _,h3.frozenAt _,h3.frozenAt _,h3.frozenAt _,h3.frozenAt _,(World.ownsRow.lt h3 g rfl).2,nk h3⟩
theorem nV.dr {v:Value}{ls:List Ln}(h:nV W n v ls)(hg:W.grownBy W' (some B))(hB:B<n):nV W' n v ls:=by obtain⟨g,cap,vs,e,h1,h2⟩:=h;exact⟨g,cap,vs,e,dA h1 hg (fun k hk=>by have:=(World.ownsRow.lt h1 k hk).1;simp only[ne_eq,af];omega),h2.other hg hB⟩
end
theorem Oe {W:World}{M F nf:Nat}{q:Prop}(h:∀j,j<nf->xQ W M F j q)(hF:F<W.heap.size)(hn:nf<=3):∃fs,FL W (some ⟨F,0,none⟩) nf fs:=by
 have H:∀m,m<=nf->∃fs:List Fn,fs.length=m/\∀j,j<m->W.cell? ⟨F,0+j*4,none⟩=some (.int .i64 (fs.getD j .z).a)/\W.cell? ⟨F,0+j*4+1,none⟩=some (.int .i64 (fs.getD j .z).l)/\W.cell? ⟨F,0+j*4+2,none⟩=some (.int .i64 (fs.getD j .z).g)/\
     ∃ba bl bc,W.cell? ⟨F,0+j*4+3,none⟩=some (.slice ba bl bc)/\SL W ba bl (fs.getD j .z).b:=by
   intro m
   induction m with
   |zero=>exact fun _=>⟨[],rfl,fun j hj=>by omega⟩
   | succ m ih=>
     intro hm
     obtain⟨fs,hl,hx⟩:=ih (by omega)
     obtain⟨p,q,g,ba,bl,bc,xs,-,-,k0,k1,k2,k3,k4,-⟩:=h m (by omega)
     refine⟨fs++[(⟨p,q,g,xs⟩:Fn)],by simp[hl],fun j hj=>?_⟩
     by_cases e:j<m
     · have e1:(fs++[(⟨p,q,g,xs⟩:Fn)]).getD j .z=fs.getD j .z:=by rw[ah,ah,List.getElem?_append_left (by omega)]
       rw[e1]
       exact hx j e
     · have e':j=m:=by omega
       subst e'
       have e1:(fs++[(⟨p,q,g,xs⟩:Fn)]).getD j .z=⟨p,q,g,xs⟩:=by
         rw[ah,List.getElem?_append_right (by omega),hl,Nat.sub_self]
         rfl
       rw[e1]
       simp only[Nat.zero_add]
       exact⟨k0,k1,k2,ba,bl,bc,k3,k4.sl⟩
 obtain⟨fs,hl,hx⟩:=H nf (Nat.le_refl _)
 exact⟨fs,hl,by simp only[maxLen];omega, .inr ⟨F,0,rfl,hF,hx⟩⟩
structure DA (w:World)(B:Nat)(a:Option Addr)(len cap:Nat)(zs:List Int)(M F nf cv Mb:Nat)(d:ByteArray)(x:World):Prop where
 ix:B<w.heap.size/\w.heap.size<=M/\M<F/\F<x.heap.size/\w.heap.size<=Mb
 nb:nf<=3
 fd:∀j,j<nf->xQ x M F j True
 bM:bi x Mb [.slice (some ⟨F,0,none⟩) nf cv, .string d]
 dr:aM w x B a len cap zs
theorem DA.drawn {w x x':World}{B:Nat}{a:Option Addr}{len cap:Nat}{zs:List Int}{M F nf cv Mb:Nat}{d:ByteArray}(h:DA w B a len cap zs M F nf cv Mb d x)(hd:aM x x' B a len cap zs):DA w B a len cap zs M F nf cv Mb d x':=by have ix:=h.ix;have hs:=hd.2.size;exact⟨by omega,h.nb,fun j hj=>(h.fd j hj).of hs (fun k hk hMk=>hd.2.block k hk (by simp only[ne_eq,af];omega)) ix.2.2.2.1 ix.2.2.1,h.bM.dr hd (by omega),h.dr.andThen hd⟩
theorem DA.kept {w x x':World}{B:Nat}{a:Option Addr}{len cap:Nat}{zs:List Int}{M F nf cv Mb:Nat}{d:ByteArray}(h:DA w B a len cap zs M F nf cv Mb d x)(hB:Below x.heap.size x x'):DA w B a len cap zs M F nf cv Mb d x':=by have ix:=h.ix;have hs:=hB.size;exact⟨by omega,h.nb,fun j hj=>(h.fd j hj).of hs (fun k hk _=>hB.block k hk) ix.2.2.2.1 ix.2.2.1,h.bM.kept hB,h.dr.plain ⟨hB.os,hB.tape,hB.output,hB.size,fun k hk _=>hB.block k hk⟩⟩
def Ng (B M F nf cv N:Nat)(d:ByteArray):Nat->Value->World->Prop
 |0,y,_=>y= .agg #[.slice (some ⟨F,0,none⟩) nf cv, .string d]
 |1,y,_=>y= .pointer (some ⟨B,0,none⟩)
 |2,y,_=>y= .pointer (some ⟨M,0,none⟩)
 |3,y,_=>y= .slice (some ⟨F,0,none⟩) nf cv
 |4,y,_=>y= .int .i64 nf
 |5,y,_=>∃p:Int,y= .int .i64 p
 |6,y,x=>∃ls,nV x N y ls
 |_,_,_=>True
theorem Ng.fC {B M F nf cv N:Nat}{d:ByteArray}(hN:B<N){k:Nat}{y:Value}{x x':World}(hr:x.grownBy x' (some B))(hf:Ng B M F nf cv N d k y x):Ng B M F nf cv N d k y x':=by
 unfold Ng at hf ⊢
 split at hf
 all_goals first
   |exact hf
   |(obtain⟨ls,h⟩:=hf;exact⟨ls,h.dr hr hN⟩)
theorem kG (B:Nat)(a:Option Addr)(len cap:Nat)(zs:List Int)(hlen:len<=4096)(w:World)(hc:gG w B a len cap zs):Calls Tryz.prog 27 #[.pointer (some ⟨B,0,none⟩)] w fun e w'=>∃v ls,e= .returned v/\nV w' w.heap.size v ls/\aM w w' B a len cap zs:=by have hBw:=hc.1;obtain⟨i0,hi,hz0,hz1,hz2⟩:=info_parts vw;go_enter Tryz.func27,Tryz.ntmps27;go_wp2_with fail;refine(cz B a len cap zs 3 _ hc).mono ?_;rintro e w1 ⟨o,rfl,hd1⟩;clear hc;cases o;{go_wp2_with fail;refine(Ac B a len cap zs hlen _ hd1.1).mono ?_;rintro e w2 ⟨F,nf,cv,d,rfl,A9,M,hM1,hM2,hM3,⟨hn1,hn2,hn3,hn4⟩,hfd,-,hd2⟩;dsimp only;have hs1:=hd1.2.size;have da:DA w B a len cap zs M F nf cv w2.heap.size d (w2.alloc (.cells #[.slice (some ⟨F,0,none⟩) nf cv, .string d] 84)):=⟨by simp;omega,hn2,fun j hj=>(hfd j hj).of (by simp) (fun k hk _=>(aA w2 _).block k hk) hM3 hM2,bi.new w2 [.slice (some ⟨F,0,none⟩) nf cv, .string d] 84,(hd1.andThen hd2).alloc _⟩;have afk:(nf:Int)<=(cv:Int):=by{omega};clear hfd hd1 hd2 hM3;go_wp2_with fail;skip;refine dD 7 [12,13,14,15,16,17,18] (fun x=>DA w B a len cap zs M F nf cv w2.heap.size d x) (fun x x'=>x.grownBy x' (some B)) (Ng B w2.heap.size F nf cv w.heap.size d) (by kernel_rfl) (by kernel_rfl) (by simp) (da.kept (Below.refl _ _).drew) (fun k y x x' hr hf=>Ng.fC hBw hr hf) ?_ ?_;{simp only[List.take_succ_cons,List.take_zero];refine⟨?_,?_,?_,?_,?_,?_,?_,trivial⟩;{intro b x hA hfr aT;unfold Oper.wp;generalize hK:(fun(b':Act) (x':World)=>∃y,_/\_)=K;have e3:b.tmps[3]?.getD undef= .pointer (some ⟨w2.heap.size,0,none⟩):=aN (hfr 3 (by decide));have m0:=(hA.bM.2 0 _ rfl).1;have m1:=(hA.bM.2 1 _ rfl).1;simp only[execOp];go_simp;rw[←hK];exact⟨_,rfl,hA,rfl,World.grownBy.refl _ _⟩};{intro b x hA hfr aT;unfold Oper.wp;generalize hK:(fun(b':Act) (x':World)=>∃y,_/\_)=K;have e0:b.tmps[0]?.getD undef= .pointer (some ⟨B,0,none⟩):=aN (hfr 0 (by decide));simp only[execOp];go_simp;rw[←hK];exact⟨_,rfl,hA,rfl,World.grownBy.refl _ _⟩};{intro b x hA hfr aT;unfold Oper.wp;generalize hK:(fun(b':Act) (x':World)=>∃y,_/\_)=K;have e3:b.tmps[3]?.getD undef= .pointer (some ⟨w2.heap.size,0,none⟩):=aN (hfr 3 (by decide));simp only[execOp];go_simp;rw[←hK];exact⟨_,rfl,hA,rfl,World.grownBy.refl _ _⟩};{intro b x hA hfr aT;unfold Oper.wp;generalize hK:(fun(b':Act) (x':World)=>∃y,_/\_)=K;have e14:b.tmps[14]?.getD undef= .pointer (some ⟨w2.heap.size,0,none⟩):=aN (aT 2 (by kernel_rfl));have m0:=(hA.bM.2 0 _ rfl).1;simp only[execOp];go_simp;rw[←hK];exact⟨_,rfl,hA,rfl,World.grownBy.refl _ _⟩};{intro b x hA hfr aT;unfold Oper.wp;generalize hK:(fun(b':Act) (x':World)=>∃y,_/\_)=K;have e15:b.tmps[15]?.getD undef= .slice (some ⟨F,0,none⟩) nf cv:=aN (aT 3 (by kernel_rfl));simp only[execOp];go_simp;rw[←hK];exact⟨_,rfl,hA,rfl,World.grownBy.refl _ _⟩};{intro b x hA hfr aT;unfold Oper.wp;generalize hK:(fun(b':Act) (x':World)=>∃y,_/\_)=K;have e13:b.tmps[13]?.getD undef= .pointer (some ⟨B,0,none⟩):=aN (aT 1 (by kernel_rfl));have e16:b.tmps[16]?.getD undef= .int .i64 nf:=aN (aT 4 (by kernel_rfl));simp only[execOp];go_simp;refine(aD B a len cap zs nf x hA.dr.1).mono ?_;rintro e w' ⟨y,rfl,y0,ym,y1,hd⟩;rw[←hK];exact⟨_,rfl,hA.drawn hd,⟨y,rfl⟩,hd.2⟩};intro b x hA hfr aT;unfold Oper.wp;generalize hK:(fun(b':Act) (x':World)=>∃y,_/\_)=K;have e12:b.tmps[12]?.getD undef= .agg #[.slice (some ⟨F,0,none⟩) nf cv, .string d]:=aN (aT 0 (by kernel_rfl));obtain⟨p,q1⟩:=aT 5 (by kernel_rfl);have e17:b.tmps[17]?.getD undef= .int .i64 p:=by{simpa[Act.eval]using q1};obtain⟨fs,hfl⟩:=Oe hA.fd hA.ix.2.2.2.1 hA.nb;simp only[execOp];go_simp;refine(wT (some ⟨F,0,none⟩) nf cv fs d (by simp only[maxLen];omega) p x hfl).mono ?_;rintro e w' ⟨v,rfl,hol,hBl⟩;rw[←hK];exact⟨_,rfl,hA.kept hBl,⟨_,hol.mono hA.dr.2.size⟩,⟨hBl.os,hBl.tape,hBl.output,hBl.size,fun k hk _=>hBl.block k hk⟩⟩};intro b x hA hF hb;obtain⟨ls,e18⟩:=hF 6 (by decide);obtain⟨z12,e12⟩:∃z,b.eval (.tmp 12)=z:=⟨_,rfl⟩;obtain⟨z13,e13⟩:∃z,b.eval (.tmp 13)=z:=⟨_,rfl⟩;obtain⟨z14,e14⟩:∃z,b.eval (.tmp 14)=z:=⟨_,rfl⟩;obtain⟨z15,e15⟩:∃z,b.eval (.tmp 15)=z:=⟨_,rfl⟩;obtain⟨z16,e16⟩:∃z,b.eval (.tmp 16)=z:=⟨_,rfl⟩;obtain⟨z17,e17⟩:∃z,b.eval (.tmp 17)=z:=⟨_,rfl⟩;obtain⟨v,ev⟩:∃z,b.eval (.tmp 18)=z:=⟨_,rfl⟩;have hol:nV x w.heap.size v ls:=by{rw[←ev];exact e18};simp only[List.foldl,e12,e13,e14,e15,e16,e17,ev]at hb;have HD:=ae (ak hol hA.dr);obtain⟨g,c,hv,-⟩:=hol.LL;subst hv;clear hF e12 e13 e14 e15 e16 e17 e18 ev hol hA da;subst hb;simp only[Act.put,List.setIfInBounds_toArray,List.set_cons_succ,List.set_cons_zero,List.drop_succ_cons,List.drop_zero];go_wp2;go_ret;exact⟨_,ls,rfl,HD.out.1,HD.out.2⟩};go_wp2_with fail;refine(aD B a len cap zs 12 _ hd1.1).mono ?_;rintro e w2 ⟨x,rfl,hx0,hx1,hx2,hd2⟩;have hx3:x<12:=by{omega};have hd3:=hd1.andThen hd2;obtain⟨m,rfl⟩:∃m:Nat,x=m:=⟨x.toNat,by omega⟩;have h0:KL w B a len cap zs w2.heap.size 0 0 (w2.alloc (.cells #[] 59)):=⟨[],[],rfl,rfl,⟨rfl, .inr ⟨w2.heap.size,0,#[],rfl,hd3.2.size,World.alloc_heap_new w2 _,Nat.le_refl _,by simp[maxLen],rfl,rfl⟩⟩,fun j hj=>by omega,hd3.alloc _,hBw⟩;clear hd1 hd2 hd3 hx0 hx1 hx2;go_wp2;(try rw[show(1+(m:Int))=(m:Int)+1 by omega]);go_loopw [5,6] (fun v i wr=>∃(k g c:Nat),i= .int .i64 k/\k<=m+1/\v= .slice (some ⟨g,0,none⟩) k c/\KL w B a len cap zs g c k wr) (fun _ i _=>m+1-(intOf i).toNat);(case atStart=>exact⟨0,_,_,rfl,by omega,rfl,h0⟩);case round=>obtain⟨k,g,c,rfl,hk,rfl,h⟩:=hrel;clear h0;by_cases hlt:k<m+1;{have bE:(k:Int)<(m:Int)+1:=by{omega};go_wp2_with fail;refine(qB B a len cap zs ((m:Int)+1) _ h.dr.1).mono ?_;rintro e w3 ⟨⟨xk,xd,xa,xb,xn,xl⟩,vl,rfl,hxl,ho,hd⟩;dsimp only at hxl ho ⊢;have ho2:=ho.mono h.dr.2.size;replace h:=h.drawn hd;obtain⟨ad,cv,hvs,-⟩:=ho.slice;subst hvs;have HK:=ae h;obtain⟨vs,ls,k1,k2,k3,k4,k5,k6⟩:=h;have HRW:=ae (aH k3 (aA w3 (.cells #[.int .i64 xk, .int .i64 xd, .int .i64 xa, .int .i64 xb, .int .i64 xn, .slice ad xl.length cv] 59)));have HR:=ae (ak k1 (ak k2 (ak k3 (ak k4 ho2))));have hsz:=k5.2.size;clear hd ho ho2 k1 k2 k3 k4 k5 k6;go_wp2_with(at_builtin;refine wpList_append_own _ rfl _ _ 24 rfl w.heap.size 59 i0 (.agg #[.int .i64 0, .int .i64 0, .int .i64 0, .int .i64 0, .int .i64 0, .slice none 0 0]) 6 64 Tryz.underlying24 hi hz0 hz1 hz2 rfl (by decide) _ _ _ rfl HRW.out ⟨w3.heap.size,0,none⟩ 1 1 [.int .i64 xk, .int .i64 xd, .int .i64 xa, .int .i64 xb, .int .i64 xn, .slice ad xl.length cv] rfl rfl (uF w3 _ _ _ _ _ _ _ _ w3.heap.size rfl (fun i=>rfl)) (by simp[Value.oneCell']) (by simp only[maxLen];omega) (by omega) (by simp;omega) ?_;intro v' wA hown' hgrow _;obtain⟨g',cap',rfl⟩:=ownsRow_succ hown');go_roundw;(case rel=>obtain⟨k1,k2,k3,k4,ho2⟩:=HR.out;exact⟨k+1,g',cap',by simp,by omega,rfl,HK.out.app (x:=⟨xk,xd,xa,xb,xn,xl⟩) ho2 vs (fun _ _=>trivial) hgrow k3 k2 ls k1 k4 hown'⟩);case measure=>simp[intOf];omega};have hke:k=m+1:=by{omega};subst hke;have bE:¬((m:Int)+1<(m:Int)+1):=by{omega};go_wp2_with fail;refine(cz B a len cap zs 8 _ h.dr.1).mono ?_;rintro e w4 ⟨o1,rfl,hd⟩;(try dsimp only);replace h:=h.drawn hd;clear hd hlt;cases o1;{go_wp2_with fail;refine(aD B a len cap zs 8 _ h.dr.1).mono ?_;rintro e w5 ⟨y8,rfl,hy0,hy1,hy2,hd⟩;(try dsimp only);replace h:=h.drawn hd;clear hd hy0 hy1 hy2;obtain⟨⟨p0,p1,p2,p3,p4,u,c0,c1,c2,c3,c4,c5⟩,f0,f1,f2,f3,f4,f5,hgl,hnc⟩:=h.at (k:=m) (by omega);have HN:=ae (h.set (k:=m) (vl:= .slice none 0 0) ⟨10,0,y8,0,0,[]⟩ (by omega) (OI.nil _ _));clear h;dsimp only at HN;go_wp2_with fail;have h:=HN.out;clear HN;clear c0 c1 c2 c3 c4 c5 f0 f1 f2 f3 f4 f5 hgl hnc;refine(cz B a len cap zs 12 _ h.dr.1).mono ?_;rintro e Y0 ⟨o2,rfl,hd⟩;(try dsimp only);replace h:=h.drawn hd;clear hd;cases o2;{have HN:=ae h;clear h;go_wp2;go_ret;obtain⟨ls,hol,hdd⟩:=HN.out.UN;exact⟨_,ls,rfl,hol,hdd⟩};go_wp2_with fail;refine(aD B a len cap zs ((m:Int)+1) _ h.dr.1).mono ?_;rintro e Y1 ⟨y,rfl,hy0,hy1,hy2,hd⟩;(try dsimp only);replace h:=h.drawn hd;have hy3:y<(m:Int)+1:=by{omega};clear hd hy2 hy1;obtain⟨j,rfl⟩:∃j:Nat,y=j:=⟨y.toNat,by omega⟩;go_wp2_with fail;refine(lT B a len cap zs _ h.dr.1).mono ?_;rintro e Y2 ⟨⟨xk,xd,xa,xb,xn,xl⟩,vl,rfl,hxl,ho,hd⟩;dsimp only at hxl ho ⊢;have ho2:=ho.mono h.dr.2.size;replace h:=h.drawn hd;obtain⟨ad,cv,hvs,-⟩:=ho.slice;subst hvs;clear hd ho;obtain⟨⟨p0,p1,p2,p3,p4,u,c0,c1,c2,c3,c4,c5⟩,f0,f1,f2,f3,f4,f5,hgl,hnc⟩:=h.at (k:=j) (by omega);have HN:=ae (h.set (k:=j) (vl:= .slice ad xl.length cv) ⟨xk,xd,xa,xb,xn,xl⟩ (by omega) ho2);clear h;dsimp only at HN;clear ho2;go_wp2;go_ret;obtain⟨ls,hol,hdd⟩:=HN.out.UN;exact⟨_,ls,rfl,hol,hdd⟩};go_wp2_with fail;refine(cz B a len cap zs 12 _ h.dr.1).mono ?_;rintro e Y0 ⟨o2,rfl,hd⟩;(try dsimp only);replace h:=h.drawn hd;clear hd;cases o2;{have HN:=ae h;clear h;go_wp2;go_ret;obtain⟨ls,hol,hdd⟩:=HN.out.UN;exact⟨_,ls,rfl,hol,hdd⟩};go_wp2_with fail;refine(aD B a len cap zs ((m:Int)+1) _ h.dr.1).mono ?_;rintro e Y1 ⟨y,rfl,hy0,hy1,hy2,hd⟩;(try dsimp only);replace h:=h.drawn hd;have hy3:y<(m:Int)+1:=by{omega};clear hd hy2 hy1;obtain⟨j,rfl⟩:∃j:Nat,y=j:=⟨y.toNat,by omega⟩;go_wp2_with fail;refine(lT B a len cap zs _ h.dr.1).mono ?_;rintro e Y2 ⟨⟨xk,xd,xa,xb,xn,xl⟩,vl,rfl,hxl,ho,hd⟩;dsimp only at hxl ho ⊢;have ho2:=ho.mono h.dr.2.size;replace h:=h.drawn hd;obtain⟨ad,cv,hvs,-⟩:=ho.slice;subst hvs;clear hd ho;obtain⟨⟨p0,p1,p2,p3,p4,u,c0,c1,c2,c3,c4,c5⟩,f0,f1,f2,f3,f4,f5,hgl,hnc⟩:=h.at (k:=j) (by omega);have HN:=ae (h.set (k:=j) (vl:= .slice ad xl.length cv) ⟨xk,xd,xa,xb,xn,xl⟩ (by omega) ho2);clear h;dsimp only at HN;clear ho2;go_wp2;go_ret;obtain⟨ls,hol,hdd⟩:=HN.out.UN;exact⟨_,ls,rfl,hol,hdd⟩
theorem VO {w w1 w2:World}{C:Nat}(h1:w.grownBy w1 none)(h2:w1.grownBy w2 (some C))(hC:w.heap.size<=C):Below w.heap.size w w2:=
 ⟨h2.os.trans h1.os,h2.tape.trans h1.tape,h2.output.trans h1.output,Nat.le_trans h1.size h2.size,fun k hk=>(h2.block k (aj hk h1.size) (by simp only[ne_eq,af];omega)).trans (h1.block k hk (by simp))⟩
theorem pX (a:Option Addr)(len cap:Nat)(zs:List Int)(hlen:len<=4096)(w:World)(hb:Bytes w a len zs):Calls Tryz.prog 17 #[.slice a len cap] w fun e w'=>∃v ls,e= .returned v/\nV w' w.heap.size v ls/\Below w.heap.size w w':=by go_enter Tryz.func17,Tryz.ntmps17;go_wp2_with fail;refine(oJ a len cap zs _ hb).mono ?_;rintro e w1 ⟨rfl,hc,hg⟩;(try dsimp only);go_wp2_with fail;refine(kG w.heap.size a len cap zs hlen _ hc).mono ?_;rintro e w2 ⟨v,ls,rfl,ho,hd⟩;(try dsimp only);have HF:=ae (ak (ho.mono hg.size) (VO hg hd.2 (Nat.le_refl _)));obtain⟨g,c,rfl,-⟩:=ho.LL;clear hc hd ho hg;go_wp2;go_ret;exact⟨_,ls,rfl,HF.out.1,HF.out.2⟩
def Up (xs:List Int):Prop:=∀i,i+1<xs.length->xs.getD i 0<xs.getD (i+1) 0
theorem Up.of {xs:List Int}(h:xs.Pairwise (·<·)):Up xs:=fun i hi=>by
 have:=List.pairwise_iff_getElem.1 h i (i+1) (by omega) hi (by omega)
 rw[ah,ah,ai (by omega),ai hi]
 exact this
theorem nV.pW {W W':World}{n₀ B:Nat}{v:Value}{fs:List Ln}(h:nV W n₀ v fs)(hg:W.grownBy W' (some B))(hB:B<n₀):nV W' n₀ v fs:=by obtain⟨g,cap,vs,e,h1,h2⟩:=h;subst e;have hlt:=World.ownsRow.lt h1 g rfl;exact⟨g,cap,vs,rfl,h1.kept hg (.inr (by simp only[Value.ownBlock,ne_eq,af];omega)),h2.other hg hB⟩
theorem gG.under {w w':World}{B:Nat}{a:Option Addr}{len cap:Nat}{zs:List Int}(h:gG w B a len cap zs)(hB:Below w.heap.size w w'):gG w' B a len cap zs:=
 h.kept (row:=none) ⟨hB.os,hB.tape,hB.output,hB.size,fun k hk _=>hB.block k hk⟩ (by simp) (.inr (by simp))
theorem OG.VZ (W:World)(n₀:Nat)(hn:n₀<=W.heap.size)(a b c d e f g:Int):OG (W.alloc (.cells #[.int .i64 a, .int .i64 b, .int .i64 c, .int .i64 d, .int .i64 e, .int .i64 f, .int .i64 g] 2)) n₀ W.heap.size 7 7 [a,b,c,d,e,f,g]:=
 ⟨rfl,rfl, .inr ⟨W.heap.size,7,#[.int .i64 a, .int .i64 b, .int .i64 c, .int .i64 d, .int .i64 e, .int .i64 f, .int .i64 g],rfl,hn,World.alloc_heap_new W _,Nat.le_refl _,by simp[maxLen],rfl,rfl⟩⟩
theorem OG.V6 (W:World)(n₀:Nat)(hn:n₀<=W.heap.size)(a b c d e f g h:Int):OG (W.alloc (.cells #[.int .i64 a, .int .i64 b, .int .i64 c, .int .i64 d, .int .i64 e, .int .i64 f, .int .i64 g, .int .i64 h] 2)) n₀ W.heap.size 8 8 [a,b,c,d,e,f,g,h]:=
 ⟨rfl,rfl, .inr ⟨W.heap.size,8,#[.int .i64 a, .int .i64 b, .int .i64 c, .int .i64 d, .int .i64 e, .int .i64 f, .int .i64 g, .int .i64 h],rfl,hn,World.alloc_heap_new W _,Nat.le_refl _,by simp[maxLen],rfl,rfl⟩⟩
theorem tV (a:Option Addr)(len cap:Nat)(zs:List Int)(hlen:len<=4096)(w:World)(hb:Bytes w a len zs):Calls Tryz.prog 5 #[.slice a len cap] w fun e w'=>∃v ls,e= .returned v/\nV w' w.heap.size v ls/\Below w.heap.size w w':=by go_enter Tryz.func5,Tryz.ntmps5;go_wp2_with fail;refine(pX a len cap zs hlen _ hb).mono ?_;rintro e w2 ⟨v,ls,rfl,ho,hB⟩;dsimp only;have HF:=ae (ak ho hB);obtain⟨g,c,rfl,-⟩:=ho.LL;clear ho hB hb;go_wp2;go_ret;exact⟨_,ls,rfl,HF.out.1,HF.out.2⟩
theorem mD (a:Option Addr)(len cap:Nat)(zs:List Int)(w:World)(hb:Bytes w a len zs):Calls Tryz.prog 8 #[.slice a len cap] w fun e w'=>∃g n c xs,e= .returned (.slice (some ⟨g,0,none⟩) n c)/\OG w' w.heap.size g n c xs/\n<=8/\Below w.heap.size w w':=by go_enter Tryz.func8,Tryz.ntmps8;go_wp2_with fail;refine(oJ a len cap zs _ hb).mono ?_;rintro e w1 ⟨rfl,hc,hg⟩;(try dsimp only);have hB1:Below w.heap.size w w1:=⟨hg.os,hg.tape,hg.output,hg.size,fun k hk=>hg.block k hk (by simp)⟩;have hC:w.heap.size<w1.heap.size:=hc.1;have hal:=aA w1 (.cells #[] 2);have hc2:=hc.under hal;have HO:=ae (ak (OG.empty w1 w1.heap.size (Nat.le_refl _)) (hB1.trans (hal.mono hB1.size)));clear hb hg hc hB1 hal;go_wp2_with fail;refine(aD w.heap.size a len cap zs 9 _ hc2).mono ?_;rintro e w2 ⟨x,rfl,hx0,-,hx9,hd2⟩;dsimp only;have DL:=hd2.2;have HX:=ae (ak (HO.out.1.bS DL (by omega)) (ak hd2.1 (bX HO.out.2 hd2 (Nat.le_refl _) HO.out.2.size)));have hxs:x<9:=by{omega};obtain⟨xn,rfl⟩:=Int.eq_ofNat_of_zero_le hx0;have hx8:xn<=8:=by{omega};clear HO hc2 hd2 DL hx0 hx9 hxs;go_wp2;go_loopg [4,5] xn (fun gk vo vn wr=>∃(k g n c:Nat)(xs:List Int),gk=k/\k<=8/\vo= .slice (some ⟨g,0,none⟩) n c/\vn= .int .i64 (k:Int)/\n+k<=8/\OG wr w1.heap.size g n c xs/\gG wr w.heap.size a len cap zs/\Below w.heap.size w wr);(case atStart=>exact⟨xn,_,0,0,[],rfl,hx8,rfl,rfl,by omega,HX.out.1,HX.out.2.1,HX.out.2.2⟩);case round=>obtain⟨k,g,n,c,xs,mJ,hk8,rfl,rfl,hnk,ho,J9,hB⟩:=hrel;obtain⟨w3,rfl⟩:∃x,x=wr:=⟨_,rfl⟩;clear HX;by_cases hk:0<k;{have IX:(0:Int)<(k:Int):=by{omega};have hgo:=ho.lt;have hwB:=J9.1;have hal:=aA w3 (.cells #[.int .i64 (-1), .int .i64 0, .int .i64 4, .int .i64 99, .int .i64 100, .int .i64 101, .int .i64 4611686018427387904] 2);have hc3:=J9.under hal;have HT:=ae (ak (OG.VZ w3 w1.heap.size (by omega) (-1) 0 4 99 100 101 4611686018427387904) (ak (ho.kept hal) (hB.trans (hal.mono hB.size))));have afn:=hB.size;clear ho J9 hB hal;go_wp2_with fail;refine(aD w.heap.size a len cap zs 7 _ hc3).mono ?_;rintro e w4 ⟨x,rfl,hx0,-,hx9,hd4⟩;dsimp only;have hg4:=hd4.2;have hT4:=HT.out.1.bS hg4 (by omega);have hx7:x<7:=by{omega};obtain⟨xm,rfl⟩:=Int.eq_ofNat_of_zero_le hx0;have hx6:xm<7:=by{omega};have hcl:=hT4.cell hx6;generalize([-1,0,4,99,100,101,4611686018427387904]:List Int).getD xm 0=y at hcl;have hal:=aA w4 (.cells #[.int .i64 y] 2);have hB4:=bX HT.out.2.2 hd4 (Nat.le_refl _) HT.out.2.2.size;have pu:=HT.out.2.1.bS hg4 (by omega);have hs4:=hg4.size;simp at hs4;have aaL:w1.heap.size<=w4.heap.size:=by{omega};have HY:=ae (ak (OG.one w4 w1.heap.size aaL y) (ak (pu.kept hal) (ak (hd4.1.under hal) (hB4.trans (hal.mono hB4.size)))));clear hT4 hd4 hg4 hal hB4 pu HT hc3 hx0 hx9;go_wp2_with(at_builtin;refine bZ _ rfl _ _ rfl w1.heap.size _ _ _ _ rfl HY.out.2.1 w4.heap.size 0 1 1 [y] rfl rfl (fun j hj=>by rw[Nat.zero_add];exact HY.out.1.cell hj) (by omega) (by simp;omega) ?_;intro g5 c5 N5 w5 Kq nM hg5;have HF:=ae (ak nM (ak (Kq.out) (ak (HY.out.2.2.1.kept hg5 (by simp only[ne_eq,af];omega) (HY.out.2.2.1.2.1.imp_right fun h9 z9 e9=>by have:=h9 z9 e9;simp only[ne_eq,af];omega)) (aB HY.out.2.2.2 hg5 (by omega)))));clear nM hg5 Kq);go_roundg (k-1);(case measure=>omega);case rel=>exact⟨k-1,g5,N5,c5,_,rfl,by omega,rfl,(by rw[show((k-1:Nat):Int)=(k:Int)-1 by omega]),by have:=HF.out.2.1;omega,HF.out.1,HF.out.2.2.1,HF.out.2.2.2⟩};have hk0:k=0:=by{omega};subst hk0;have HF:=ae (ak (ho.mono (Nat.le_of_lt hC)) hB);clear ho J9 hB;go_wp2;go_ret;exact⟨g,n,c,xs,rfl,HF.out.1,by omega,HF.out.2⟩
theorem kK {W:World}{n₀ gl cl nl:Nat}{ls:List Ln}(h:nV W n₀ (.slice (some ⟨gl,0,none⟩) nl cl) ls)(hn:ls.length=nl):LL W (some ⟨gl,0,none⟩) ls.length ls:=by obtain⟨g,c,e,-,-,h2⟩:=h.LL;cases e;exact h2
def KT (w w':World)(e:Ending):Prop:=∃gl cl ls sl n c xs,e= .returned (.tuple #[.slice (some ⟨gl,0,none⟩) (ls:List Ln).length cl, .slice sl n c])/\LL w' (some ⟨gl,0,none⟩) ls.length ls/\IL w' sl n xs/\Below w.heap.size w w'
theorem yM {W W1 W2:World}{r:Option Nat}(h:W.grownBy W1 r)(hB:Below W1.heap.size W1 W2):W.grownBy W2 r:=
 ⟨hB.os.trans h.os,hB.tape.trans h.tape,hB.output.trans h.output,Nat.le_trans h.size hB.size,fun k hk hne=>(hB.block k (aj hk h.size)).trans (h.block k hk hne)⟩
theorem Lm {W W1 W2:World}{r:Option Nat}{b:Nat}(h:W.grownBy W1 r)(hg:W1.grownBy W2 (some b))(hb:W.heap.size<=b):W.grownBy W2 r:=
 ⟨hg.os.trans h.os,hg.tape.trans h.tape,hg.output.trans h.output,Nat.le_trans h.size hg.size,fun k hk hne=>(hg.block k (aj hk h.size) (by simp only[ne_eq,af];omega)).trans (h.block k hk hne)⟩
theorem BM {W:World}{n₀ g n c:Nat}{xs:List Int}(h:OG W n₀ g n c xs)(hn:0<n):IL W (some ⟨g,1,none⟩) (n-1) (xs.drop 1):=by have hc:=h.cap;refine⟨by rw[List.length_drop,h.1],by omega, .inr ⟨g,1,rfl,h.lt.2,fun j hj=>?_⟩⟩;have h2:=h.cell (j:=1+j) (by omega);rw[h2,ah,ah,List.getElem?_drop]
theorem pQ (a:Option Addr) (len cap:Nat) (zs:List Int) (hlen:len<=4096) (w:World) (hb:Bytes w a len zs):Calls Tryz.prog 7 #[.slice a len cap] w fun e w'=>KT w w' e:=by
 go_enter Tryz.func7,Tryz.ntmps7
 go_wp2_with fail
 refine(oJ a len cap zs _ hb).mono ?_
 rintro e w1 ⟨rfl,hc,hg⟩
 (try dsimp only)
 have hB1:Below w.heap.size w w1:=⟨hg.os,hg.tape,hg.output,hg.size,fun k hk=>hg.block k hk (by simp)⟩
 have hC:w.heap.size<w1.heap.size:=hc.1
 clear hb hg
 go_wp2_with fail
 refine(kG w.heap.size a len cap zs hlen _ hc).mono ?_
 rintro e w2 ⟨v,ls,rfl,hol,hd2⟩
 dsimp only
 have hB2:=bX hB1 hd2 (Nat.le_refl _) hB1.size
 obtain⟨gl,cl,rfl,hg1,hg2,hll⟩:=hol.LL
 obtain⟨nl,hnl⟩:∃n,ls.length=n:=⟨_,rfl⟩
 rw[hnl]at hll hol ⊢
 have oM:=ae hnl
 have afo:=hd2.2.size
 have TV:=hd2.1
 clear hnl hB1 hc hd2
 go_wp2_with fail
 refine(qF (some ⟨gl,0,none⟩) nl cl ls w2 hll).mono ?_
 rintro e w3 ⟨gh,n,ch,rfl,sF,hB3⟩
 dsimp only
 have TW:=Hm.uk ls
 rw[sF.1]at TW
 have TY:=TV.under hB3
 have TZ:=yM (World.grownBy.refl w2 (some w.heap.size)) hB3
 have HOL:=ae hol
 have hBw3:=hB2.trans (hB3.mono hB2.size)
 generalize Hm.homes ls=xs at sF
 have hgh:=sF.lt
 have hch:=sF.cap
 have Ws:(n:Int)<=1000:=by omega
 have HO:=ae (ak sF (ak TZ (ak TY hBw3)))
 clear hll hol hB2 TV sF hB3 TY TZ hBw3
 by_cases hn0:0<n
 rotate_left
 · have aaN:¬(0:Int)<(n:Int):=by{omega};go_wp2_with fail;refine(cz w.heap.size a len cap zs 14 _ HO.out.2.2.1).mono ?_;rintro e w8 ⟨o2,rfl,A9⟩;dsimp only;have Gz:=A9.2;have HZ:=ae (ak (HO.out.1.bS Gz (by omega)) (ak ((HOL.out.pW (HO.out.2.1.trans Gz) hC).mono (Nat.le_of_lt hC)) (bX HO.out.2.2.2 A9 (Nat.le_refl _) HO.out.2.2.2.size)));clear A9 Gz;have AX:=HZ.out.1.lt;have hcz:=HZ.out.1.cap;cases o2;{go_wp2;go_ret2;unfold KT;exact⟨gl,cl,ls,some ⟨gh,0,none⟩,n,ch,_,(by rw[oM.out]<;>rfl),kK HZ.out.2.1 oM.out,(OI.il HZ.out.1.oi).2,HZ.out.2.2⟩};go_wp2;go_ret2;unfold KT;exact⟨gl,cl,ls,some ⟨gh,0,none⟩,n,ch,_,(by rw[oM.out]<;>rfl),kK HZ.out.2.1 oM.out,(OI.il HZ.out.1.oi).2,HZ.out.2.2⟩
 have aaN:(0:Int)<(n:Int):=by omega
 go_wp2_with fail
 refine(cz w.heap.size a len cap zs 2 _ HO.out.2.2.1).mono ?_
 rintro e w4 ⟨o,rfl,hd4⟩
 dsimp only
 have hg4:=hd4.2
 have T9:=HO.out.2.1.trans hg4
 have HP:=ae (ak (HO.out.1.bS hg4 (by omega)) (ak T9 (ak hd4.1 (bX HO.out.2.2.2 hd4 (Nat.le_refl _) HO.out.2.2.2.size))))
 clear hd4 hg4 HO T9
 cases o
 · skip
   go_wp2_with fail
   refine(cz w.heap.size a len cap zs 14 _ HP.out.2.2.1).mono ?_
   rintro e w8 ⟨o2,rfl,A9⟩
   dsimp only
   have Gz:=A9.2
   have HZ:=ae (ak (HP.out.1.bS Gz (by omega)) (ak ((HOL.out.pW (HP.out.2.1.trans Gz) hC).mono (Nat.le_of_lt hC)) (bX HP.out.2.2.2 A9 (Nat.le_refl _) HP.out.2.2.2.size)))
   clear A9 Gz
   have AX:=HZ.out.1.lt
   have hcz:=HZ.out.1.cap
   cases o2
   · go_wp2;go_ret2;unfold KT;exact⟨gl,cl,ls,some ⟨gh,0,none⟩,n,ch,_,(by rw[oM.out]<;>rfl),kK HZ.out.2.1 oM.out,(OI.il HZ.out.1.oi).2,HZ.out.2.2⟩
   · have hnc:1<=ch:=by omega
     have aaO:(1:Int)<=(ch:Int):=by omega
     have aaP:(1:Int)<=(n:Int):=by omega
     have HT:=ae (BM HZ.out.1 hn0)
     have HT0:=ae (fun(h:ch=1)=>show n-1=0 by omega)
     go_wp2
     all_goals
      go_ret2
      unfold KT
      first
        |exact⟨gl,cl,ls,some ⟨gh,1,none⟩,n-1,ch-1,_,(show Ending.returned (.tuple #[.slice (some ⟨gl,0,none⟩) nl cl, .slice (some ⟨gh,1,none⟩) (n-1) (ch-1)])=_ from by rw[oM.out]),kK HZ.out.2.1 oM.out,HT.out,HZ.out.2.2⟩
        |exact⟨gl,cl,ls,some ⟨gh,0,none⟩,n-1,0,[],(show Ending.returned (.tuple #[.slice (some ⟨gl,0,none⟩) nl cl, .slice (some ⟨gh,0,none⟩) (n-1) 0])=_ from by rw[oM.out]),kK HZ.out.2.1 oM.out,⟨by rw[HT0.out h];rfl,by rw[HT0.out h];simp[maxLen], .inl (HT0.out h)⟩,HZ.out.2.2⟩
 · go_wp2_with fail
   refine(aD w.heap.size a len cap zs (n:Int) _ HP.out.2.2.1).mono ?_
   rintro e w5 ⟨x,rfl,hx0,-,hxn,hd5⟩
   dsimp only
   obtain⟨xn,rfl⟩:=Int.eq_ofNat_of_zero_le hx0
   have hxl:xn<n:=by omega
   have hxZ:(xn:Int)<(n:Int):=by omega
   have hg5:=hd5.2
   have MJ:=HP.out.1.bS hg5 (by omega)
   have Ua:=HP.out.2.1.trans hg5
   have ML:=hd5.1
   have mH:=bX HP.out.2.2.2 hd5 (Nat.le_refl _) HP.out.2.2.2.size
   have hal:=aA w5 (.cells #[.int .i64 (-1), .int .i64 0, .int .i64 1, .int .i64 4, .int .i64 5, .int .i64 100, .int .i64 101, .int .i64 164] 2)
   have hwB:=ML.1
   have afq:=MJ.lt
   have HT:=ae (ak (OG.V6 w5 w5.heap.size (Nat.le_refl _) (-1) 0 1 4 5 100 101 164) (ak (MJ.kept hal) (ak (yM Ua hal) (ak (ML.under hal) (mH.trans (hal.mono mH.size))))))
   clear hd5 hg5 MJ Ua ML mH hal HP hx0 hxn
   go_wp2_with fail
   refine(aD w.heap.size a len cap zs 8 _ HT.out.2.2.2.1).mono ?_
   rintro e w6 ⟨y,rfl,hy0,-,hyn,hd6⟩
   dsimp only
   obtain⟨yn,rfl⟩:=Int.eq_ofNat_of_zero_le hy0
   have hyl:yn<8:=by omega
   have hyZ:(yn:Int)<8:=by omega
   have xK:=hd6.2
   have ht6:=HT.out.1.bS xK (by omega)
   have hcl:=ht6.cell hyl
   generalize([-1,0,1,4,5,100,101,164]:List Int).getD yn 0=u at hcl
   have GA:=HT.out.2.1.bS xK (by omega)
   have Ub:=HT.out.2.2.1.trans xK
   have Uc:=bX HT.out.2.2.2.2 hd6 (Nat.le_refl _) HT.out.2.2.2.2.size
   have htl:=ht6.lt
   have afs:=GA.lt
   have aft:=GA.cell hxl
   have hfz:=fun j=>World.ownsRow.frozenAt GA.2 j
   have hgs:=aF w6 ⟨gh,xn,none⟩ (.int .i64 u)
   have HP:=ae (ak (OG.Bo GA xn u) (ak (Lm Ub hgs (show w2.heap.size<=gh by omega)) (ak (hd6.1.kept hgs (by simp only[ne_eq,af];omega) (hd6.1.2.1.imp_right fun h9 z9 e9=>by have:=h9 z9 e9;simp only[ne_eq,af];omega)) (aB Uc hgs (show w.heap.size<=gh by omega)))))
   clear hd6 xK ht6 GA Ub Uc HT hgs hy0 hyn
   go_wp2_with fail
   refine(cz w.heap.size a len cap zs 14 _ HP.out.2.2.1).mono ?_
   rintro e w8 ⟨o2,rfl,A9⟩
   dsimp only
   have Gz:=A9.2
   have HZ:=ae (ak (HP.out.1.bS Gz (by omega)) (ak ((HOL.out.pW (HP.out.2.1.trans Gz) hC).mono (Nat.le_of_lt hC)) (bX HP.out.2.2.2 A9 (Nat.le_refl _) HP.out.2.2.2.size)))
   clear A9 Gz
   have AX:=HZ.out.1.lt
   have hcz:=HZ.out.1.cap
   cases o2
   · go_wp2;go_ret2;unfold KT;exact⟨gl,cl,ls,some ⟨gh,0,none⟩,n,ch,_,(by rw[oM.out]<;>rfl),kK HZ.out.2.1 oM.out,(OI.il HZ.out.1.oi).2,HZ.out.2.2⟩
   · have hnc:1<=ch:=by omega
     have aaO:(1:Int)<=(ch:Int):=by omega
     have aaP:(1:Int)<=(n:Int):=by omega
     have HT:=ae (BM HZ.out.1 hn0)
     have HT0:=ae (fun(h:ch=1)=>show n-1=0 by omega)
     go_wp2
     all_goals
      go_ret2
      unfold KT
      first
        |exact⟨gl,cl,ls,some ⟨gh,1,none⟩,n-1,ch-1,_,(show Ending.returned (.tuple #[.slice (some ⟨gl,0,none⟩) nl cl, .slice (some ⟨gh,1,none⟩) (n-1) (ch-1)])=_ from by rw[oM.out]),kK HZ.out.2.1 oM.out,HT.out,HZ.out.2.2⟩
        |exact⟨gl,cl,ls,some ⟨gh,0,none⟩,n-1,0,[],(show Ending.returned (.tuple #[.slice (some ⟨gl,0,none⟩) nl cl, .slice (some ⟨gh,0,none⟩) (n-1) 0])=_ from by rw[oM.out]),kK HZ.out.2.1 oM.out,⟨by rw[HT0.out h];rfl,by rw[HT0.out h];simp[maxLen], .inl (HT0.out h)⟩,HZ.out.2.2⟩
section
set_option linter.unusedSimpArgs false
def sv (s:Sp.S):Value:= .agg #[.int .i64 s.b, .int .i64 s.f, .int .i64 s.t, .bool s.c]
theorem tO {W W':World}{r:Option Nat}(h:W.grownBy W' r):W.grownBy W'.drew r:=⟨h.os,h.tape,h.output,h.size,h.block⟩
theorem yI (W:World)(g a b c d a' b' c' d':Nat)(u v x y u' v' x' y':Value):W.grownBy ((((((((W.setCell ⟨g,a,none⟩ u).setCell ⟨g,b,none⟩ v).setCell ⟨g,c,none⟩ x).setCell ⟨g,d,none⟩ y).setCell ⟨g,a',none⟩ u').setCell ⟨g,b',none⟩ v').setCell ⟨g,c',none⟩ x').setCell ⟨g,d',none⟩ y') (some g):=
 (gV W g a b c d u v x y).trans (gV _ g a' b' c' d' u' v' x' y')
theorem Ad {W:World}{g i j:Nat}{x0 x1 x2 x3 y0 y1 y2 y3:Value}(e0:W.cell? ⟨g,j*4,none⟩=some y0)(e1:W.cell? ⟨g,j*4+1,none⟩=some y1)(e2:W.cell? ⟨g,j*4+2,none⟩=some y2)(e3:W.cell? ⟨g,j*4+3,none⟩=some y3):(∃v,(W.setCell ⟨g,i*4,none⟩ x0).cell? ⟨g,j*4,none⟩=some v)/\(∃v,((W.setCell ⟨g,i*4,none⟩ x0).setCell ⟨g,i*4+1,none⟩ x1).cell? ⟨g,j*4+1,none⟩=some v)/\(∃v,(((W.setCell ⟨g,i*4,none⟩ x0).setCell ⟨g,i*4+1,none⟩ x1).setCell ⟨g,i*4+2,none⟩ x2).cell? ⟨g,j*4+2,none⟩=some v)/\(∃v,((((W.setCell ⟨g,i*4,none⟩ x0).setCell ⟨g,i*4+1,none⟩ x1).setCell ⟨g,i*4+2,none⟩ x2).setCell ⟨g,i*4+3,none⟩ x3).cell? ⟨g,j*4+3,none⟩=some v):=by refine⟨cell?_setCell_some e0,?_,?_,?_⟩;{obtain⟨v,h⟩:=cell?_setCell_some (p:=⟨g,i*4,none⟩) (x:=x0) e1;exact cell?_setCell_some h};{obtain⟨v,h⟩:=cell?_setCell_some (p:=⟨g,i*4,none⟩) (x:=x0) e2;obtain⟨v,h⟩:=cell?_setCell_some (p:=⟨g,i*4+1,none⟩) (x:=x1) h;exact cell?_setCell_some h};obtain⟨v,h⟩:=cell?_setCell_some (p:=⟨g,i*4,none⟩) (x:=x0) e3;obtain⟨v,h⟩:=cell?_setCell_some (p:=⟨g,i*4+1,none⟩) (x:=x1) h;obtain⟨v,h⟩:=cell?_setCell_some (p:=⟨g,i*4+2,none⟩) (x:=x2) h;exact cell?_setCell_some h
theorem jq (n₀ g n c:Nat)(l:List Sp.S)(i j:Nat)(hi:i<n)(hj:j<n)(w:World)(hs:SG w n₀ g n c l):Calls Tryz.prog 165 #[.slice (some ⟨g,0,none⟩) n c, .int .i64 (i:Int), .int .i64 (j:Int)] w fun e w'=>e= .returned (.tuple #[])/\SG w' n₀ g n c (Hp.sw l i j)/\w.grownBy w' (some g):=by
 obtain⟨d0,d1,d2,d3⟩:=hs.cell hi
 obtain⟨e0,e1,e2,e3⟩:=hs.cell hj
 have Pm:(i:Int)<(n:Int):=by omega
 have I7:(j:Int)<(n:Int):=by omega
 have hcap:=hs.cap
 have hgl:=hs.lt.2
 have hfz:=hs.frozen
 have HS:Hid (∀(s t:Sp.S),l.getD i .z=s->l.getD j .z=t->SG (((((((((w.setCell ⟨g,i*4,none⟩ (.int .i64 t.b)).setCell ⟨g,i*4+1,none⟩ (.int .i64 t.f)).setCell ⟨g,i*4+2,none⟩ (.int .i64 t.t)).setCell ⟨g,i*4+3,none⟩ (.bool t.c)).setCell ⟨g,j*4,none⟩ (.int .i64 s.b)).setCell ⟨g,j*4+1,none⟩ (.int .i64 s.f)).setCell ⟨g,j*4+2,none⟩ (.int .i64 s.t)).setCell ⟨g,j*4+3,none⟩ (.bool s.c)).drew) n₀ g n c (Hp.sw l i j)):=fun s t e1 e2=>by unfold Hp.sw;rw[e1,e2];exact((hs.put hi t).put hj s).kept (Below.refl _ _).drew
 have HG:Hid (∀a b c d a' b' c' d' u v x y u' v' x' y',w.grownBy (((((((((w.setCell ⟨g,a,none⟩ u).setCell ⟨g,b,none⟩ v).setCell ⟨g,c,none⟩ x).setCell ⟨g,d,none⟩ y).setCell ⟨g,a',none⟩ u').setCell ⟨g,b',none⟩ v').setCell ⟨g,c',none⟩ x').setCell ⟨g,d',none⟩ y').drew) (some g)):=fun a b c d a' b' c' d' u v x y u' v' x' y'=>
  tO (yI w g a b c d a' b' c' d' u v x y u' v' x' y')
 obtain⟨s,hse⟩:∃s,l.getD i .z=s:=⟨_,rfl⟩
 obtain⟨t,hte⟩:∃t,l.getD j .z=t:=⟨_,rfl⟩
 have HS2:=ae (HS.out s t hse hte)
 rw[hse]at d0 d1 d2 d3
 rw[hte]at e0 e1 e2 e3
 clear HS hse hte hs
 obtain⟨sb,sf,st,sc⟩:=s
 obtain⟨tb,tf,tt,tc⟩:=t
 dsimp only at d0 d1 d2 d3 e0 e1 e2 e3 HS2
 generalize Hp.sw l i j=L at HS2 ⊢
 obtain⟨⟨f0,h0⟩,⟨f1,h1⟩,⟨f2,h2⟩,⟨f3,h3⟩⟩:=Ad (i:=i) (x0:= .int .i64 tb) (x1:= .int .i64 tf) (x2:= .int .i64 tt) (x3:= .bool tc) e0 e1 e2 e3
 go_enter Tryz.func165,Tryz.ntmps165
 go_wp2_with fail
 go_region
 refine bodyPost_end (results_none rfl _ _ _) rfl ⟨rfl,HS2.out,HG.out _ _ _ _ _ _ _ _ _ _ _ _ _ _ _ _⟩
theorem Cv {ops:Array Oper}{o:Oper}{a:Act}{K:Act->World->Prop}{Q:Exit->Act->World->Prop}{E:Prop}(W:World)(hgd:o.guard=none)(s x:Operand)(ho:o.op= .call {callee:= .builtin .append,args:=#[s,x],argTypes:=#[63,63]})(n₀ g n c:Nat)(l:List Sp.S)(hs:a.eval s= .slice (some ⟨g,0,none⟩) n c)(hown:SG W n₀ g n c l)(sb:Nat)(y:Sp.S)(hx:a.eval x= .slice (some ⟨sb,0,none⟩) 1 1)(hy:∀j u,[Value.int .i64 y.b, .int .i64 y.f, .int .i64 y.t, .bool y.c][j]?=some u->W.cell? ((⟨sb,0,none⟩:Addr).add j)=some u)(hsz:n<=1000)(hbase:n₀<=W.heap.size)(h:∀g' c' N W',Hid (N=n+1)->SG W' n₀ g' N c' (l++[y])->W.grownBy W' (some g)->K (a.put o.dst (.slice (some ⟨g',0,none⟩) N c')) W'):if Region.wanted o (yielded ops a.tmps)=true then Oper.wp Tryz.prog o a W K Q else E:=by have hw:Region.wanted o (yielded ops a.tmps)=true:=by{simp[Region.wanted,hgd]};rw[ay hw];obtain⟨i0,hi,hz0,hz1,hz2⟩:=info_parts uA;refine wp_append_own W s x 63 ho n₀ 45 i0 (.agg #[.int .i64 0, .int .i64 0, .int .i64 0, .bool false]) 4 32 Tryz.underlying63 hi hz0 hz1 hz2 rfl (by decide) _ n (aW l) hs hown.2 ⟨sb,0,none⟩ 1 1 [.int .i64 y.b, .int .i64 y.f, .int .i64 y.t, .bool y.c] hx rfl hy (fun u hu=>?_) (by simp only[maxLen];omega) (by omega) hbase (fun v' W' hown' hgrow hnn=>?_);{simp only[List.mem_cons,List.not_mem_nil,or_false]at hu;rcases hu with rfl|rfl|rfl|rfl<;>rfl};rcases hown'.2 with⟨rfl,h0⟩|⟨g',cap',cur,rfl,r⟩;{exact absurd (hnn.1 rfl).1 (fun e=>by cases e)};refine h g' cap' (n+1) W' rfl ⟨by rw[List.length_append,hown.1];rfl,?_⟩ hgrow;have e:aW (l++[y])=aW l++[.int .i64 y.b, .int .i64 y.f, .int .i64 y.t, .bool y.c]:=by{rw[jI];rfl};rw[e];exact hown'
theorem SG.block {W:World}{n₀ g n c:Nat}{l:List Sp.S}(h:SG W n₀ g n c l):∃cur,W.heap[g]?=some (.cells cur 45 (0,0)):=by rcases h.2.2 with⟨e,-⟩|⟨g',cap,cur,e,h1,h2,r⟩;{cases e};cases e;exact⟨cur,h2⟩
theorem II {W:World}{n₀ g n c gp:Nat}{l:List Sp.S}{vs:List Value}(h:SG W n₀ g n c l)(hA:gY W gp 63 vs):gp≠g:=by rintro rfl;obtain⟨cur,hb⟩:=h.block;have:=hb.symm.trans hA;simp at this
theorem oV (v:Value)(W:World):(Instr.typeAssert (.iface 45 v) 20 45 false).run Tryz.prog W= .ok v W:=by kernel_rfl
theorem CB (n₀ gp g c:Nat)(l:List Sp.S)(y:Sp.S)(hl:l.length<=1000)(w:World)(hn₀:n₀<=w.heap.size)(hs:WH w n₀ gp g c l):Calls Tryz.prog 164 #[.pointer (some ⟨gp,0,none⟩), .iface 45 (sv y)] w fun e w'=>e= .returned (.tuple #[])/\∃g' c',WH w' n₀ gp g' c' (l++[y])/\Below n₀ w w':=by
 have hcl:=hs.cell
 have hfz:=hs.frozen
 have hgp:=hs.1.lt
 have hsg:=hs.2.1
 have hg0:=hsg.lt.1
 have HS:=ae hs
 obtain⟨n,hnn⟩:∃n,l.length=n:=⟨_,rfl⟩
 rw[hnn]at hcl hl hsg
 have hB1:=aA w.drew (.cells #[.int .i64 y.b, .int .i64 y.f, .int .i64 y.t, .bool y.c] 45)
 have Ce:=ae ((hsg.kept (Below.refl _ _).drew).kept hB1)
 have HA:=ae ((hs.1.kept (Below.refl _ _).drew).kept hB1)
 have HC:=ae (mi w.drew (.int .i64 y.b) (.int .i64 y.f) (.int .i64 y.t) (.bool y.c) 45)
 have HB:=ae ((Below.refl n₀ w).drew.trans (hB1.mono hn₀))
 have HN:=ae hnn
 have hta:=oV
 clear hB1 hsg hs hnn
 unfold sv
 go_enter Tryz.func164,Tryz.ntmps164
 go_wp2_with fail
 go_region_law (first
   |(refine Cv _ rfl (.tmp 7) (.tmp 10) rfl n₀ g n c l (by simp[Act.eval]) Ce.out w.heap.size y (by simp[Act.eval]) HC.out hl (by simp;omega) ?_;intro g' c' N W' hN ho hgr;have hA':=HA.out.bS hgr (by have:=HS.out.2.2.1;simpa using this);have hcl':=hA'.cell (j:=0) rfl;have hfz':=hA'.frozen 0;have HF:=ae (ak hN.out (ak ho (ak hA' hgr)));clear ho hgr hA'))
 all_goals obtain⟨hN,ho,hA',hgr⟩:=HF.out;have hlN:(l++[y]).length=N:=ho.1;have hne:=II ho hA';refine bodyPost_end (results_none rfl _ _ _) rfl ⟨rfl,g',c',⟨?_,?_,hne,HS.out.2.2.2⟩,lK.below HB.out ((lK.yV hgr gp).trans (lK.BJ (aF W' ⟨gp,0,none⟩ _) g)) (Nat.le_trans hn₀ HB.out.size) HS.out.2.2.2 hg0⟩;{rw[hlN];exact hA'.set 0 _};rw[hlN];exact ho.bS (aF W' ⟨gp,0,none⟩ _) hne.symm
theorem EZ (n₀ gp g c:Nat)(l:List Sp.S)(m:Nat)(hl:l.length=m+1)(hm:m<=1000)(w:World)(hs:WH w n₀ gp g c l):Calls Tryz.prog 163 #[.pointer (some ⟨gp,0,none⟩)] w fun e w'=>e= .returned (.iface 45 (sv (l.getD m .z)))/\WH w' n₀ gp g c (l.take m)/\lK w w' gp g:=by have hcl:=hs.cell;have hfz:=hs.frozen;have hgp:=hs.1.lt;have hsg:=hs.2.1;have hcap:=hsg.cap;simp only[maxLen]at hcap;rw[hl]at hcl hsg hcap;obtain⟨d0,d1,d2,d3⟩:=hsg.cell (show m<m+1 by omega);have HS:=ae hs;have Ce:=ae hsg;have HL:=ae hl;have hcm:m<=c:=by{omega};have afv:(m:Int)<=(c:Int):=by{omega};have hc1:m+1<=c:=by{omega};have hmb:(m:Int)<=4611686018427387904:=by{omega};have hwr:IntKind.i64.wrap ((m:Int)+1-1)=(m:Int):=by{rw[IntKind.wrap_i64];omega};have hmm:((m:Int)+1-1)=(m:Int):=by{omega};unfold sv;generalize l.getD m .z=y at d0 d1 d2 d3 ⊢;obtain⟨sb,sf,st,sc⟩:=y;dsimp only at d0 d1 d2 d3 ⊢;clear hs hsg hl;go_enter Tryz.func163,Tryz.ntmps163;go_wp2;go_ret;have hA:=HS.out.1.set 0 (.slice (some ⟨g,0,none⟩) m c);have hT:=lK.BJ (aF w ⟨gp,0,none⟩ (.slice (some ⟨g,0,none⟩) m c)) g;have hS:=(Ce.out.take (Nat.le_succ m)).bS (aF w ⟨gp,0,none⟩ (.slice (some ⟨g,0,none⟩) m c)) HS.out.2.2.1.symm;have hal:=aA (w.setCell ⟨gp,0,none⟩ (.slice (some ⟨g,0,none⟩) m c)) (.cells #[.int .i64 sb, .int .i64 sf, .int .i64 st, .bool sc] 45);have hlm:(l.take m).length=m:=by{rw[List.length_take,HL.out];omega};refine⟨rfl,⟨?_,?_,HS.out.2.2⟩,hT.trans (lK.kQ hal _ _)⟩;{rw[hlm];exact hA.kept hal};rw[hlm];exact hS.kept hal
end
section
set_option linter.unusedSimpArgs false
structure WT (w W:World)(n₀ gp g c:Nat)(l:List Sp.S):Prop where
 wh:WH W n₀ gp g c l
 two:lK w W gp g
theorem WT.start {w:World}{n₀ gp g c:Nat}{l:List Sp.S}(h:WH w n₀ gp g c l):WT w w n₀ gp g c l:=⟨h,lK.kQ (Below.refl _ _) _ _⟩
theorem WT.kept {w W W':World}{n₀ gp g c:Nat}{l:List Sp.S}(h:WT w W n₀ gp g c l)(hB:Below W.heap.size W W'):WT w W' n₀ gp g c l:=⟨h.wh.kept hB,h.two.trans (lK.kQ hB _ _)⟩
theorem WT.sw {w W W':World}{n₀ gp g c:Nat}{l:List Sp.S}(h:WT w W n₀ gp g c l){i j:Nat}(hs:SG W' n₀ g l.length c (Hp.sw l i j))(hg:W.grownBy W' (some g)):WT w W' n₀ gp g c (Hp.sw l i j):=⟨h.wh.sw hs hg,h.two.trans (lK.yV hg _)⟩
theorem half (m:Nat):((m:Int)).tdiv 2=((m / 2:Nat):Int):=by rw[Int.tdiv_eq_ediv_of_nonneg (by omega)];omega
theorem Ip (n₀ gp g c:Nat)(l:List Sp.S)(j:Nat)(hj:j<l.length)(hn:l.length<=1000)(w:World)(hs:WH w n₀ gp g c l):Calls Tryz.prog 70 #[.iface 36 (.pointer (some ⟨gp,0,none⟩)), .int .i64 (j:Int)] w fun e w'=>e= .returned (.tuple #[])/\WT w w' n₀ gp g c (Hp.up (j+1) l j):=by
 have HS:=ae (WT.start hs)
 have hlen:Hid (l.length=l.length):=rfl
 obtain⟨n,hnn⟩:∃n,l.length=n:=⟨_,rfl⟩
 rw[hnn]at hj hn
 have HN:=ae hnn
 obtain⟨R,hR⟩:∃R,Hp.up (j+1) l j=R:=⟨_,rfl⟩
 rw[hR]
 have HR:=ae hR
 have hEL:=BD
 have hES:=wQ
 clear hs hnn hlen hR
 go_enter Tryz.func70,Tryz.ntmps70
 go_wp2
 go_loopg [1] (j+1) (fun gk vj wr=>∃(i:Nat)(lk:List Sp.S),vj= .int .i64 (i:Int)/\i<gk/\i<n/\Hid (lk.length=n)/\Hid (Hp.up gk lk i=R)/\WT w wr n₀ gp g c lk)
 case atStart=>exact⟨j,l,rfl,by omega,hj,HN,HR,HS.out⟩
 case round=>
  obtain⟨i,lk,rfl,hik,hin,mK,Vr,hw⟩:=hrel
  clear HS HR HN
  obtain⟨m,rfl⟩:∃m,gk=m+1:=⟨gk-1,by omega⟩
  have HW:=ae hw
  have Kr:=ll hw.wh.cell
  rw[mK.out]at Kr
  have hsg:=hw.wh.2.1
  rw[mK.out]at hsg
  by_cases hi0:i=0
  · subst hi0;have HE:Hid (lk=R):=by{show _=_;rw[←Vr.out];unfold Hp.up;rw[ay rfl]};clear hw hsg Vr;go_wp2;refine bodyPost_end (results_none rfl _ _ _) rfl ⟨rfl,?_⟩;rw[←HE.out];exact HW.out
  · obtain⟨p,rfl⟩:∃p,i=p+1:=⟨i-1,by omega⟩
    have hp:p / 2<n:=by omega
    have hq:=half p
    obtain⟨h,hh⟩:∃h,p / 2=h:=⟨_,rfl⟩
    rw[hh]at hq hp
    have hne:¬h=p+1:=by omega
    have afw:¬(h:Int)=(p:Int)+1:=by omega
    have hless:=jw n₀ g n c lk (p+1) h hin hp wr hsg
    have Jr:Hid ((if Hp.lt (lk.getD (p+1) .z) (lk.getD h .z)=true then Hp.up m (Hp.sw lk h (p+1)) h else lk)=R):=by show _=_;rw[←Vr.out];(conv=>rhs;unfold Hp.up);rw[show(p+1-1) / 2=h by omega,ax hne]
    have hwl:=hw.wh
    clear hw hsg Vr
    cases hv:Hp.lt (lk.getD (p+1) .z) (lk.getD h .z)with
    |false=>
     rw[hv]at hless Jr
     have HE:Hid (lk=R):=Jr.out
     go_wp2_with(go_at_call 162;refine hless.mono ?_;rintro e w4 ⟨rfl,hB4⟩;have ui:=ae (HW.out.kept hB4);clear hB4;dsimp only)
     refine bodyPost_end (results_none rfl _ _ _) rfl ⟨rfl,?_⟩
     rw[←HE.out]
     exact ui.out
    |true=>
     rw[hv]at hless Jr
     have HE:Hid (Hp.up m (Hp.sw lk h (p+1)) h=R):=Jr.out
     have hlk:lk.length=n:=mK.out
     go_wp2_with(first
       |(go_at_call 162;refine hless.mono ?_;rintro e w4 ⟨rfl,hB4⟩;have ui:=ae (HW.out.kept hB4);have G8:=mZ ui.out.wh.cell;rw[mK.out]at G8;clear hB4;dsimp only)
       |(go_at_call 165;refine(jq n₀ g n c lk h (p+1) hp hin w4 (by have:=ui.out.wh.2.1;rw[mK.out]at this;exact this)).mono ?_;rintro e w5 ⟨rfl,hs5,hg5⟩;have xE:=ae (ui.out.sw (by rw[mK.out];exact hs5) hg5);clear hs5 hg5;dsimp only))
     go_roundg m
     case measure=>omega
     case rel=>exact⟨h,_,rfl,by omega,hp,(show _=_ by rw[Hp.bT];exact mK.out),HE,xE.out⟩
theorem CL (n₀ gp g c:Nat) (l:List Sp.S) (k₀ i₀ n:Nat) (Kt:i₀<l.length) (hnl:n<=l.length) (Ud:n<i₀+k₀+1) (hb:l.length<=1000) (w:World) (hs:WH w n₀ gp g c l):Calls Tryz.prog 78 #[.iface 36 (.pointer (some ⟨gp,0,none⟩)), .int .i64 (i₀:Int), .int .i64 (n:Int)] w fun e w'=>(∃v,e= .returned v)/\WT w w' n₀ gp g c (Hp.down k₀ l i₀ n):=by
 have HS:=ae (WT.start hs)
 obtain⟨N,hnn⟩:∃N,l.length=N:=⟨_,rfl⟩
 rw[hnn]at Kt hnl hb
 have HN:=ae hnn
 obtain⟨R,hR⟩:∃R,Hp.down k₀ l i₀ n=R:=⟨_,rfl⟩
 rw[hR]
 have HR:=ae hR
 have hEL:=BD
 have hES:=wQ
 clear hs hnn hR
 go_enter Tryz.func78,Tryz.ntmps78
 go_wp2
 go_loopg [7] (k₀+1) (fun gk vj wr=>∃(k i:Nat)(lk:List Sp.S),gk=k+1/\vj= .int .i64 (i:Int)/\i<N/\n<i+k+1/\Hid (lk.length=N)/\Hid (Hp.down k lk i n=R)/\WT w wr n₀ gp g c lk)
 case atStart=>exact⟨k₀,i₀,l,rfl,rfl,Kt,Ud,HN,HR,HS.out⟩
 case round=>
  obtain⟨k,i,lk,mJ,rfl,NE,hik,mK,Vt,hw⟩:=hrel
  clear HS HR HN
  have HW:=ae hw
  have Kr:=ll hw.wh.cell
  rw[mK.out]at Kr
  have hsg:=hw.wh.2.1
  rw[mK.out]at hsg
  by_cases hend:n<=2*i+1
  · have HE:Hid (lk=R):=by
     show _=_
     rw[←Vt.out]
     cases k with
     |zero=>rfl
     |succ k=>
      unfold Hp.down
      rw[ay hend]
    have Ue:(n:Int)<=2*(i:Int)+1:=by omega
    clear hw hsg Vt
    go_wp2
    all_goals go_ret;refine⟨⟨_,rfl⟩,?_⟩;rw[←HE.out];exact HW.out
  · obtain⟨k',rfl⟩:∃k',k=k'+1:=⟨k-1,by omega⟩
    obtain⟨a,hae⟩:∃a,2*i+1=a:=⟨_,rfl⟩
    obtain⟨b,hbe⟩:∃b,2*i+2=b:=⟨_,rfl⟩
    have haZ:2*(i:Int)+1=(a:Int):=by omega
    have hbZ:(a:Int)+1=(b:Int):=by omega
    have Ue:¬(n:Int)<=(a:Int):=by omega
    have Gc:¬(a:Int)<0:=by omega
    have MM:a<N:=by omega
    have D8:Hid ((if Hp.lt (lk.getD (Hp.ch lk i n) .z) (lk.getD i .z)=true then Hp.down k' (Hp.sw lk i (Hp.ch lk i n)) (Hp.ch lk i n) n else lk)=R):=by show _=_;rw[←Vt.out];(conv=>rhs;unfold Hp.down);rw[ax hend]
    have HCH:Hid (Hp.ch lk i n=if b<n/\Hp.lt (lk.getD b .z) (lk.getD a .z)=true then b else a):=by show _=_;unfold Hp.ch;rw[hae,hbe]
    have hai:i<a:=by omega
    have hbi:i<b:=by omega
    have hia:n<a+k'+1:=by omega
    have hib:n<b+k'+1:=by omega
    clear Vt hend hae hw
    by_cases hbn:b<n
    · have aaT:(b:Int)<(n:Int):=by omega
      have hbN:b<N:=by omega
      clear hbe
      have hl1:=jw n₀ g N c lk b a hbN MM wr hsg
      cases hv1:Hp.lt (lk.getD b .z) (lk.getD a .z)with
      | true=>
       rw[hv1]at hl1
       have Ku:Hid (Hp.ch lk i n=b):=by show _=_;rw[HCH.out,ay ⟨hbn,hv1⟩]
       have hl2:=fun W hs=>jw n₀ g N c lk b i hbN NE W hs
       cases hv:Hp.lt (lk.getD b .z) (lk.getD i .z)with
       |false=>
        rw[hv]at hl2
        have HE:Hid (lk=R):=by show _=_;rw[←D8.out,Ku.out,hv];rfl
        go_wp2_with fail
        refine hl1.mono ?_
        rintro e w4 ⟨rfl,hB4⟩
        have ui:=ae (HW.out.kept hB4)
        have MN:=ll ui.out.wh.cell
        rw[mK.out]at MN
        clear hB4
        dsimp only
        go_wp2_with(first|(go_at_call 162;refine(hl2 w4 (by have:=ui.out.wh.2.1;rw[mK.out]at this;exact this)).mono ?_;rintro e w5 ⟨rfl,bI⟩;have xE:=ae (ui.out.kept bI);clear bI;dsimp only))
        go_ret
        refine⟨⟨_,rfl⟩,?_⟩
        rw[←HE.out]
        exact xE.out
       |true=>
        rw[hv]at hl2
        have HE:Hid (Hp.down k' (Hp.sw lk i b) b n=R):=by show _=_;rw[←D8.out,Ku.out,hv];rfl
        go_wp2_with fail
        refine hl1.mono ?_
        rintro e w4 ⟨rfl,hB4⟩
        have ui:=ae (HW.out.kept hB4)
        have MN:=ll ui.out.wh.cell
        rw[mK.out]at MN
        clear hB4
        dsimp only
        go_wp2_with(first|(go_at_call 162;refine(hl2 w4 (by have:=ui.out.wh.2.1;rw[mK.out]at this;exact this)).mono ?_;rintro e w5 ⟨rfl,bI⟩;have xE:=ae (ui.out.kept bI);have G8:=mZ xE.out.wh.cell;rw[mK.out]at G8;clear bI;dsimp only)|(go_at_call 165;refine(jq n₀ g N c lk i b NE hbN w5 (by have:=xE.out.wh.2.1;rw[mK.out]at this;exact this)).mono ?_;rintro e w6 ⟨rfl,hs6,xK⟩;have Uf:=ae (xE.out.sw (by rw[mK.out];exact hs6) xK);clear hs6 xK;dsimp only))
        go_roundg (k'+1)
        case measure=>omega
        case rel=>exact⟨k',b,_,rfl,rfl,hbN,by omega,(show _=_ by rw[Hp.bT];exact mK.out),HE,Uf.out⟩
      | false=>
       rw[hv1]at hl1
       have Ku:Hid (Hp.ch lk i n=a):=by show _=_;rw[HCH.out,ax (fun h=>by rw[hv1]at h;exact absurd h.2 (by decide))]
       have hl2:=fun W hs=>jw n₀ g N c lk a i MM NE W hs
       cases hv:Hp.lt (lk.getD a .z) (lk.getD i .z)with
       |false=>
        rw[hv]at hl2
        have HE:Hid (lk=R):=by show _=_;rw[←D8.out,Ku.out,hv];rfl
        go_wp2_with fail
        refine hl1.mono ?_
        rintro e w4 ⟨rfl,hB4⟩
        have ui:=ae (HW.out.kept hB4)
        have MN:=ll ui.out.wh.cell
        rw[mK.out]at MN
        clear hB4
        dsimp only
        go_wp2_with(first|(go_at_call 162;refine(hl2 w4 (by have:=ui.out.wh.2.1;rw[mK.out]at this;exact this)).mono ?_;rintro e w5 ⟨rfl,bI⟩;have xE:=ae (ui.out.kept bI);clear bI;dsimp only))
        go_ret
        refine⟨⟨_,rfl⟩,?_⟩
        rw[←HE.out]
        exact xE.out
       |true=>
        rw[hv]at hl2
        have HE:Hid (Hp.down k' (Hp.sw lk i a) a n=R):=by show _=_;rw[←D8.out,Ku.out,hv];rfl
        go_wp2_with fail
        refine hl1.mono ?_
        rintro e w4 ⟨rfl,hB4⟩
        have ui:=ae (HW.out.kept hB4)
        have MN:=ll ui.out.wh.cell
        rw[mK.out]at MN
        clear hB4
        dsimp only
        go_wp2_with(first|(go_at_call 162;refine(hl2 w4 (by have:=ui.out.wh.2.1;rw[mK.out]at this;exact this)).mono ?_;rintro e w5 ⟨rfl,bI⟩;have xE:=ae (ui.out.kept bI);have G8:=mZ xE.out.wh.cell;rw[mK.out]at G8;clear bI;dsimp only)|(go_at_call 165;refine(jq n₀ g N c lk i a NE MM w5 (by have:=xE.out.wh.2.1;rw[mK.out]at this;exact this)).mono ?_;rintro e w6 ⟨rfl,hs6,xK⟩;have Uf:=ae (xE.out.sw (by rw[mK.out];exact hs6) xK);clear hs6 xK;dsimp only))
        go_roundg (k'+1)
        case measure=>omega
        case rel=>exact⟨k',a,_,rfl,rfl,MM,by omega,(show _=_ by rw[Hp.bT];exact mK.out),HE,Uf.out⟩
    · have aaT:¬(b:Int)<(n:Int):=by omega
      have Ku:Hid (Hp.ch lk i n=a):=by show _=_;rw[HCH.out,ax (fun h=>hbn h.1)]
      clear hbe
      have hl2:=fun W hs=>jw n₀ g N c lk a i MM NE W hs
      cases hv:Hp.lt (lk.getD a .z) (lk.getD i .z)with
      |false=>
       rw[hv]at hl2
       have HE:Hid (lk=R):=by show _=_;rw[←D8.out,Ku.out,hv];rfl
       go_wp2_with(first|(go_at_call 162;refine(hl2 wr hsg).mono ?_;rintro e w5 ⟨rfl,bI⟩;have xE:=ae (HW.out.kept bI);clear bI;dsimp only))
       go_ret
       refine⟨⟨_,rfl⟩,?_⟩
       rw[←HE.out]
       exact xE.out
      |true=>
       rw[hv]at hl2
       have HE:Hid (Hp.down k' (Hp.sw lk i a) a n=R):=by show _=_;rw[←D8.out,Ku.out,hv];rfl
       go_wp2_with(first|(go_at_call 162;refine(hl2 wr hsg).mono ?_;rintro e w5 ⟨rfl,bI⟩;have xE:=ae (HW.out.kept bI);have G8:=mZ xE.out.wh.cell;rw[mK.out]at G8;clear bI;dsimp only)|(go_at_call 165;refine(jq n₀ g N c lk i a NE MM w5 (by have:=xE.out.wh.2.1;rw[mK.out]at this;exact this)).mono ?_;rintro e w6 ⟨rfl,hs6,xK⟩;have Uf:=ae (xE.out.sw (by rw[mK.out];exact hs6) xK);clear hs6 xK;dsimp only))
       go_roundg (k'+1)
       case measure=>omega
       case rel=>exact⟨k',a,_,rfl,rfl,MM,by omega,(show _=_ by rw[Hp.bT];exact mK.out),HE,Uf.out⟩
end
end Go.Proofs.YthamlonlgnjljaaGreat
