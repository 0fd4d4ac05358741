/-
  Own texts for a law: RwA7 CopO Phi3 PhiW
-/
import Derived.Test.YthkjdjmjdlimnaaGreatKR20
namespace Go.Proofs.YthkjdjmjdlimnaaGreat
open Go.RowKit Go.Shelf
set_option linter.all false
set_option maxRecDepth 100000
set_option maxHeartbeats 16000000
theorem Du {W W':World}{n₀ e k n:Nat}{v:Value}{xs:List Value}(h:W.ownsRow n₀ e k v n xs)(hb:∀g,v.ownBlock=some g->W'.heap[g]?=W.heap[g]?):W'.ownsRow n₀ e k v n xs:=by rcases h with⟨h1,h2|⟨g,c,cur,h3,h4,h5,h6⟩⟩;{exact⟨h1, .inl h2⟩};exact⟨h1, .inr ⟨g,c,cur,h3,h4,(hb g (by rw[h3];rfl)).trans h5,h6⟩⟩
theorem RM.call {c:RC}{W0:World}{q:RQ}{bx mem ib:List Int}{n l:Nat}{W W':World}(Q:oZ c W0 q)(h:RM c W0 q bx mem n W)(hwk:RK c W0 W' ib l 0)(ha:jY c W W'):RM c W0 q bx ib l W':=by have h4:=h.gb;have iB:=Q.bO;have iM:=Q.vQ;refine⟨hwk,Du h.br (fun g e=>?_),h.bZ.trans ha⟩;simp only[Value.ownBlock,af]at e;subst e;exact ha.blk _ (by omega) (by omega) (by omega)
theorem GL {c:RC}{W0:World}{q:RQ}{aM:Nat}{bx mem:List Int}{m:Nat}{wr:World}{p dd a b nn:Int}{l:List Int}(Q:oZ c W0 q)(dB:Hid (RI c W0 q aM bx mem (m+1) wr))(HST:Hid (Rl.line c.cs q.k aM=⟨p,dd,a,b,nn,l⟩/\Ln.ok ⟨p,dd,a,b,nn,l⟩=true))(HP:Hid (p=7))(IH:yP c W0 m):gN c W0 q aM bx mem m wr:=by unfold gN;intros;rename_i HK;(conv=>arg 2;whnf);have hG:=dB.out.good;have hlB:=hG.lB;have hM:=dB.out.m;have b2:=(hM.wk.box.2 2 _ rfl).1;have pQ:=(hM.wk.box.2 2 _ rfl).2;have Dg:m+1<=200000:=dB.out.nb;have bJ:=ae (hM.aG Q m);clear hM;go_upto_region 11 with fail;obtain⟨W1,hW1⟩:∃W1,wr.setCell ⟨c.B,2,none⟩ (.int .i64 (m:Int))=W1:=⟨_,rfl⟩;rw[hW1]at bJ ⊢;clear hW1 b2 pQ;obtain⟨iy,iA,jo⟩:=Q.line bJ.out.wk.bZ hG.lt;rw[HST.out.1]at jo;obtain⟨z0,z1,z2,z3,z4,la,ll,dS,z5,hil⟩:=jo;simp only at z0 z1 z2 z3 z4 hil;have kY:q.ln<=300:=by{have:=(Q.lines W1 bJ.out.wk.bZ).1;have:=Rl.aZ (Q.tab.val.ok q.k Q.lt);omega};have nW:(aM:Int)<(q.ln:Int):=by{omega};have hal:=aB W1 (.cells #[.int .i64 p, .int .i64 dd, .int .i64 a, .int .i64 b, .int .i64 nn, .slice la ll dS] 109);have bG:=ae (bJ.out.kept hal);have jh:=ae (hil.kept hal);have aY:Hid (bF (W1.alloc (.cells #[.int .i64 p, .int .i64 dd, .int .i64 a, .int .i64 b, .int .i64 nn, .slice la ll dS] 109)) W1.heap.size [.int .i64 p, .int .i64 dd, .int .i64 a, .int .i64 b, .int .i64 nn, .slice la ll dS]):=bF.new W1 [.int .i64 p, .int .i64 dd, .int .i64 a, .int .i64 b, .int .i64 nn, .slice la ll dS] 109;clear hil;go_upto_region 14 with fail;obtain⟨W2,hW2⟩:∃W2,W1.alloc (.cells #[.int .i64 p, .int .i64 dd, .int .i64 a, .int .i64 b, .int .i64 nn, .slice la ll dS] 109)=W2:=⟨_,rfl⟩;rw[hW2]at bG aY jh ⊢;have s1:=(aY.out.2 1 _ rfl).1;have s2:=(aY.out.2 2 _ rfl).1;have s3:=(aY.out.2 3 _ rfl).1;have s4:=(aY.out.2 4 _ rfl).1;have s5:=(aY.out.2 5 _ rfl).1;have hsb:=aY.out.1;obtain⟨sb,bq⟩:∃sb,W1.heap.size=sb:=⟨_,rfl⟩;rw[bq]at s1 s2 s3 s4 s5 hsb aY ⊢;have pR:q.gb<sb:=by{rw[←bq];exact bJ.out.gb.2};obtain⟨g1,g2⟩:=bG.out.gb;have iB:=Q.bO;have iM:=Q.vQ;have lZ:=ae (aj dB.out bG.out);have hok:=HST.out.2;clear hal hW2 bq bJ z0 z1 z2 z3 z4 z5 iy iA;obtain rfl:=HP.out;simp[Ln.ok,Ln.asks,Ln.q0,Wd.bz,Ln.bR]at hok;have Tu:l.length<=3:=by{omega};have OV:Hid (∀y∈l,0<=y/\y<=39):=fun y hy=>hok.1 y hy;obtain⟨dn,rfl⟩:∃dn:Nat,dd=(dn:Int):=⟨dd.toNat,by omega⟩;have hdn:dn<40:=by{omega};have Cw:(dn:Int)<40:=by{omega};obtain⟨kn,rfl⟩:∃kn:Nat,nn=(kn:Int):=⟨nn.toNat,by omega⟩;have hstep:Rl.aV c.cs q.k aM bx mem= .call dn kn (l.map (Rl.bx bx)):=by{unfold Rl.aV;rw[HST.out.1];rfl};have F:=Rl.dC Q.tab.val Q.lt dB.out.good;rw[hstep]at F;obtain⟨F1,F2,F3,F4,F5⟩:=F;have HF:=ae (aj hstep (aj F1 (aj F2 (aj F3 F5))));have hll:l.length=ll:=jh.out.1;have XV:ll<=3:=by{omega};have OW:=ae hll;have hE:=OG.empty W2 W2.heap.size (Nat.le_refl _);have hal:=aB W2 (.cells #[] 2);have Ki:=Q.dp;clear hok F1 F2 F3 F4 F5 hstep hll Tu s2 s3;go_wp2;go_loopw [15,16] (fun ov i wy=>∃(g' c' j:Nat),ov= .slice (some ⟨g',0,none⟩) j c'/\i= .int .i64 (j:Int)/\j<=ll/\OG wy W2.heap.size g' j c' ((l.take j).map (Rl.bx bx))/\Below W2.heap.size W2 wy) (fun _ i _=>ll-(intOf i).toNat);(case atStart=>exact⟨W2.heap.size,0,0,rfl,rfl,Nat.zero_le _,hE,hal⟩);case round=>clear hE hal;obtain⟨g',c',j,rfl,rfl,hj,hog,Ak⟩:=hrel;have ZO:=(Ak.cell (p:=⟨sb,5,none⟩) hsb).trans s5;by_cases hlt:j<ll;{have OX:(j:Int)<(ll:Int):=by{omega};obtain⟨y,hy⟩:∃y,l.getD j 0=y:=⟨_,rfl⟩;have hjl:j<l.length:=by{rw[OW.out];exact hlt};have hyl:y∈l:=by{rw[←hy,ag,ah hjl];exact List.getElem_mem hjl};have hy39:=OV.out y hyl;obtain⟨yn,rfl⟩:∃yn:Nat,y=(yn:Int):=⟨y.toNat,by omega⟩;have hyn:yn<40:=by{omega};have R9:(yn:Int)<40:=by{omega};obtain⟨-,-,h0|⟨bb,bo,rfl,hbb,lY⟩⟩:=jh.out.kept Ak;{omega};have zl:=lY j hlt;rw[hy]at zl;have tb:=(bG.out.kept Ak).box hlB hyn;obtain⟨v,hv⟩:∃v,bx.getD yn 0=v:=⟨_,rfl⟩;rw[hv]at tb;have HN:Hid ((l.take (j+1)).map (Rl.bx bx)=(l.take j).map (Rl.bx bx)++[v]):=by{show _=_;rw[←List.take_append_getElem hjl,List.map_append];congr 1;have e1:l[j]=(yn:Int):=by{rw[ag,ah hjl]at hy;exact hy};rw[e1,←hv];rfl};have hal:=aB wr (.cells #[.int .i64 v] 2);have Sa:=ae (hog.kept hal);have Sb:=ae (Ak.trans (hal.mono Ak.size));have hc1:Hid (∀i,i<1->(wr.alloc (.cells #[.int .i64 v] 2)).cell? ⟨wr.heap.size,0+i,none⟩=some (.int .i64 ([v].getD i 0))):=fun i hi=>by{rw[Nat.zero_add];exact(OG.one wr wr.heap.size (Nat.le_refl _) v).cell hi};have hgl:=hog.lt;have hsz:=Ak.size;clear lY hy hyl hy39 hv hal hog Ak hbb;go_wp2_with(at_builtin;refine mY _ rfl _ _ rfl W2.heap.size g' j c' _ rfl Sa.out wr.heap.size 0 1 1 [v] rfl rfl hc1.out (by omega) (by simp;omega) ?_;intro g4 c4 N4 w4 XW xO OY;have XY:=ae xO;have R8:=ae (aF Sb.out OY hgl.1);clear xO OY);obtain rfl:=XW.out;go_roundw;(case rel=>exact⟨_,_,_,_,_,_,_,_,_,_,_,_,_,_,_,_,_,_,_,_,⟨g4,c4,j+1,rfl,rfl,by omega,by rw[HN.out];exact XY.out,R8.out⟩,rfl⟩);case measure=>simp[intOf];omega};obtain rfl:j=ll:=by{omega};have OX:¬((j:Int)<(j:Int)):=by{omega};have hM:=bG.out.kept Ak;have hA1:l.take j=l:=List.take_of_length_le (by have:=OW.out;omega);rw[hA1]at hog;obtain⟨hstep,F1,F2,F3,F5⟩:=HF.out;have hal:(l.map (Rl.bx bx)).length=j:=by{rw[List.length_map];exact OW.out};have VQ:=hM.wk.box.1;have VR:c.M<wr.heap.size:=(hM.wk.row.lt c.M rfl).2;have hcall:=IH wr kn (q.d+1) mem (l.map (Rl.bx bx)) (some ⟨g',0,none⟩) c' hM.wk VQ VR F1 (by omega) hG.mm F3 F2 (by rw[hal];exact AQ hog.2 hal (by simp only[maxLen];omega)) (by omega);rw[hal,show((q.d+1:Nat):Int)=(q.d:Int)+1 by omega]at hcall;have s1':=(Ak.cell (p:=⟨sb,1,none⟩) hsb).trans s1;have ZP:=(Ak.cell (p:=⟨sb,4,none⟩) hsb).trans s4;have Tv:sb<wr.heap.size:=ai hsb Ak.size;obtain⟨Rr,hRr⟩:∃Rr,Rl.gX c.cs m (q.d+1) kn (l.map (Rl.bx bx)) mem=Rr:=⟨_,rfl⟩;rw[hRr]at hcall;have Tw:=ae hRr;have Qs:=ae hM;clear hM hA1 hog hal hRr hstep F1 F2 F3 F5 s5 VQ VR Ak;go_wp2_with fail;refine hcall.mono ?_;rintro e w4 ⟨rfl,Kj,Dh⟩;dsimp only;clear hcall;obtain⟨hstep,F1,F2,F3,F5⟩:=HF.out;have hcell:∀o,w4.cell? ⟨sb,o,none⟩=wr.cell? ⟨sb,o,none⟩:=fun o=>World.cell?_of_block (a:=⟨sb,o,none⟩) (Dh.blk sb Tv (by omega) (by omega));have r1:=(hcell 1).trans s1';rcases Rr with⟨v,m2,l2⟩|⟨cd,m2,l2⟩;{have xP:RK c W0 w4 m2 l2 0:=Kj;have Cz:¬12<=q.d+1:=fun h=>by{have:=Tw.out;unfold Rl.gX at this;rw[ax h]at this;cases this};have hrun:Rl.run c.cs (m+1) m (q.d+1) kn 0 (Rl.jZ (l.map (Rl.bx bx))) mem= .done v m2 l2:=by{have:=Tw.out;unfold Rl.gX at this;rw[au Cz]at this;exact this};have fq:=Rl.dx Q.tab.val (m+1) m (q.d+1) _ _ _ _ F1 (Rl.cK Q.tab.val F1 F2 F3 hG.mm);rw[hrun]at fq;have hl2:l2<=m:=by{have:=(Rl.eH (cs:=c.cs) (m+1) m (q.d+1) kn 0 (Rl.jZ (l.map (Rl.bx bx))) mem).1;rw[hrun]at this;exact this};have hgood:=F5 m2 fq.2 v fq.1;have hrn:Rl.run c.cs (l2+1) l2 q.d q.k (aM+1) (bx.set dn v) m2=q.R:=by{rw[←dB.out.run,Rl.dL hstep Cz hrun];exact Rl.gq _ _ _ _ _ _ _ _ (by omega) (by omega)};have Qt:=Qs.out.call Q xP Dh;have b3:=(xP.box.2 3 _ rfl).1;have td:=Qt.box hlB hdn;have hf0:=Qt.br.frozenAt dn;have qp:=ae (Qt.jC Q dn v);have Fy:=ae (aj hgood (aj hrn hl2));clear Kj xP Qt hgood hrn hrun fq hstep F1 F2 F3 F5 hcell Dh Qs Cz;simp only[Mn.Rs.value];go_wp2;apply HK.out l2 Fy.out.2.2 (aM+1) (bx.set dn v) m2;{exact⟨by have:=Fy.out.2.2;omega,qp.out,Fy.out.1,Fy.out.2.1⟩};simp};have xP:RK c W0 w4 m2 l2 cd:=Kj;have hR:q.R= .stop cd m2 l2/\cd≠0:=by{rw[←dB.out.run];have:=Tw.out;unfold Rl.gX at this;by_cases h:12<=q.d+1;{rw[ax h]at this;rw[Rl.dK hstep h];cases this;exact⟨rfl,by decide⟩};rw[au h]at this;refine⟨Rl.dM hstep h this,?_⟩;have fq:=Rl.dx Q.tab.val (m+1) m (q.d+1) _ _ _ _ F1 (Rl.cK Q.tab.val F1 F2 F3 hG.mm);rw[this]at fq;have h2:=fq.2.1;omega};have hcd:(cd==0)=false:=by{simpa using hR.2};have b3:=(xP.box.2 3 _ rfl).1;have Fy:=ae (aj hR.1 (aj xP (Qs.out.bZ.trans Dh)));clear Kj xP hR hstep F1 F2 F3 F5 hcell Dh Qs;simp only[Mn.Rs.value];go_wp2;go_ret;rw[Fy.out.1];exact⟨rfl,Fy.out.2.1,Fy.out.2.2⟩
theorem oH {P:Program}(w:World)(t ty e:TypeId)(i:TypeInfo)(ht:P.underlying t=some (.slice e))(hi:P.info? e=some i)(g cap c:Nat):(Builtin.append_ #[t,t] ty #[.slice (some ⟨g,0,none⟩) 0 cap, .slice none 0 c]).run P w= .ok (.slice (some ⟨g,0,none⟩) 0 cap) w:=by simp[Builtin.append_,run_underlying ht,sizeOf,typeInfo,hi,Builtin.lenOf,Builtin.firstCells,storeCells]
theorem je (a:Option Addr)(n cap:Nat)(xs:List Int)(hn:n<=1048576)(w:World)(hs:IL w a n xs):Calls Tryz.prog 72 #[.slice a n cap] w fun e w'=>∃g c,e= .returned (.slice (some ⟨g,0,none⟩) n c)/\w.heap.size<=g/\g<w'.heap.size/\w'.ownsRow w.heap.size 2 1 (.slice (some ⟨g,0,none⟩) n c) n (xs.map iv)/\Below w.heap.size w w':=by rcases a with _|ad;{obtain⟨hl,-,h3|⟨b',off',e,hb,hx⟩⟩:=hs;{subst h3;obtain rfl:xs=[]:=List.eq_nil_of_length_eq_zero hl;obtain⟨i0,hi,hz0,hz1,hz2⟩:=info_parts iK;have hem:=OI.empty w;have HE:=ae hem;have HR:∀(x:World)(ty:TypeId),(Builtin.append_ #[27,27] ty #[.slice (some ⟨w.heap.size,0,none⟩) 0 0, .slice none 0 cap]).run Tryz.prog x= .ok (.slice (some ⟨w.heap.size,0,none⟩) 0 0) x:=fun x ty=>oH x _ _ _ i0 Tryz.underlying27 hi _ _ _;have HRR:=ae HR;clear hem HR hl;go_enter Tryz.func72,Tryz.ntmps72;go_wp2_with(at_builtin;refine Lib.wpList_append_run _ rfl _ _ _ _ rfl _ _ rfl rfl _ _ (HRR.out _ _) ?_);go_ret;exact⟨w.heap.size,0,rfl,Nat.le_refl _,by simp,by simpa[OI]using HE.out,(Below.refl _ w).alloc (Nat.le_refl _) _⟩};cases e};obtain⟨i0,hi,hz0,hz1,hz2⟩:=info_parts iK;have hl:=hs.1;have HN:Hid (∀(o:Obj) j u,(xs.map iv)[j]?=some u->(w.alloc o).cell? (ad.add j)=some u):=by{intro o j u hu;have hj:j<n:=by{have:=(List.getElem?_eq_some_iff.1 hu).1;rwa [List.length_map,hl]at this};obtain⟨-,-,h3|⟨b',off',e,hb,hx⟩⟩:=hs;{omega};simp only[af]at e;subst e;rw[dV (by rw[hl];exact hj)]at hu;cases hu;(have hadd:(⟨b',off',none⟩:Addr).add j=⟨b',off'+j,none⟩:=by unfold Addr.add;split<;>simp_all);rw[hadd];exact(((Below.refl _ w).alloc (Nat.le_refl _) o).cell (p:=⟨b',off'+j,none⟩) hb).trans (hx j hj)};have HL:=ae hl;have hem:=OI.empty w;have HE:=ae hem;clear hl hem hs;go_enter Tryz.func72,Tryz.ntmps72;go_wp2_with(at_builtin;refine wpList_append_own _ rfl _ _ 27 rfl w.heap.size 2 i0 (.int .i64 0) 1 8 Tryz.underlying27 hi hz0 hz1 hz2 rfl (by decide) _ _ _ rfl HE.out ad n cap (xs.map iv) rfl (by rw[List.length_map,HL.out,Nat.mul_one]) (HN.out _) nP (by simp only[maxLen,List.length_nil];omega) (by simp only[List.length_nil];omega) (by simp) ?_;intro v' wA hown' hgrow hnn);go_ret;rcases hown'.2 with⟨rfl,h0⟩|⟨g',cap',cur,rfl,_⟩;{exact absurd (hnn.1 rfl).1 (fun h=>by cases h)};have hlt:=hown'.lt g' rfl;have e:([]:List Int).length+n=n:=by{simp};refine⟨g',cap',congrArg (fun m=>Ending.returned (.slice (some ⟨g',0,none⟩) m cap')) e,hlt.1,hlt.2,?_,?_⟩;{simpa using hown'};exact((Below.refl _ w).alloc (Nat.le_refl _) _).grown hgrow (by simp) (fun j ej=>by cases ej;exact Nat.le_refl _)
section
open Go.RowKit
variable {P : Program} {ops : Array Oper} {md : Region.Mode} {Q : Exit → Act → World → Prop} {n : Nat}
theorem wpAny_all (I:Array Bool->Act->World->Prop)(hback:∀i o,ops[i]?=some o->∀e∈o.after,Region.binds md e=true->e.on<i)(hstep:∀l b x i o,l.size=ops.size->ops[i]?=some o->i<ops.size->l.getD i true=false->(∀e∈o.after,Region.binds md e=true->l.getD e.on false=true)->I l b x->wpOp P ops Q i (fun b' x'=>I (l.setIfInBounds i true) b' x') b x)(hend:∀l b x,l.size=ops.size->(∀i,i<ops.size->l.getD i true=true)->I l b x->Q .normal b x):∀f l b x,l.size=ops.size->pF ops.size l=f->I l b x->wpAny P md ops Q f l b x:=by
 intro f
 induction f with
 |zero=>
  intro l b x hsz hu hI
  refine⟨?_,hend l b x hsz (fun i hi=>kE hu i hi) hI⟩
  rcases hr:Region.ready md ops l with _|⟨j,r⟩
  · rfl
  · have hj:j∈Region.ready md ops l:=by{rw[hr];simp};obtain⟨h1,o,ho,-⟩:=mem_ready.1 hj;have hlt:j<ops.size:=(Array.getElem?_eq_some_iff.1 ho).1;rw[kE hu j hlt]at h1;cases h1
 |succ f ih=>
  intro l b x hsz hu hI
  obtain⟨i,hin,hun,hmin⟩:=yK (l:=l) (n:=ops.size) (by omega)
  refine⟨fun h0=>?_,fun j hj=>?_⟩
  · have ho:∃o,ops[i]?=some o:=⟨ops[i]'(by omega),Array.getElem?_eq_getElem (by omega)⟩
    obtain⟨o,ho⟩:=ho
    have:i∈Region.ready md ops l:=mem_ready.2 ⟨hun,o,ho,fun e he hbi=>by
     have h1:=hback i o ho e he hbi
     have h2:=hmin e.on h1
     have h3:e.on<l.size:=by omega
     simp[h3]at h2 ⊢
     exact h2⟩
    rw[h0]at this
    cases this
  · obtain⟨hjun,o,ho,hall⟩:=mem_ready.1 hj;have hlt:j<ops.size:=(Array.getElem?_eq_some_iff.1 ho).1;refine wpOp_mono (fun b' x' h'=>ih _ b' x' (by simpa using hsz) ?_ h') (hstep l b x j o hsz ho hlt hjun hall hI);have:=qO hjun ops.size hlt;omega
def Cj (l:List Oper)(sz s:Nat)(ds:List Nat):Bool:=
 decide (ds.length=l.length)&&ds.Nodup&&(List.range l.length).all fun i=>match l[i]? with
   |some o=>(if i=s then o.dst==none&&decide (sz<=ds.getD i 0)else o.dst==ds[i]?&&decide (ds.getD i 0<sz))&&o.guard.isNone&&o.after.all fun e=> !Region.binds .any e||decide (e.on<i)
   |none=>false
theorem nQ {id:Nat}{a:Act}{w:World}{l:List Oper}(ds:List Nat)(m s:Nat)(A:Bool->World->Prop)(bY:List Value)(hm:P.follows .mixedOrders=true)(hB:Cj l a.tmps.size s ds=true)(hvs:bY.getD s undef=undef)(h0:A false w.drew)(hall:jM P Q a ds m A (fun j y _=>y=bY.getD j undef) 0 l)(hend:∀b x,A (decide (m<l.length)) x->(∀j,j<l.length->b.eval (.tmp (ds.getD j 0))=bY.getD j undef)->b=ds.foldl (fun a' t=>a'.put (some t) (b.eval (.tmp t))) a->Q .normal b x):(Code.region id l.toArray true).wp P Q a w:=by
 simp only[Cj,ak,decide_eq_true_eq,List.all_eq_true,List.mem_range]at hB
 obtain⟨⟨hdl,hnd⟩,hops⟩:=hB
 have hgd:∀i,i<l.length->ds[i]?=some (ds.getD i 0):=fun i hi=>by rw[ag,ah (by omega)];rfl
 have hop:∀i o,l.toArray[i]?=some o->((i=s->o.dst=none/\a.tmps.size<=ds.getD i 0)/\(i≠s->o.dst=some (ds.getD i 0)/\ds.getD i 0<a.tmps.size))/\o.guard=none/\(∀e∈o.after,Region.binds .any e=true->e.on<i)/\ds.getD i 0∈ds/\i<l.length:=by intro i o ho;have ho':l[i]?=some o:=by{simpa using ho};have hi:i<l.length:=(List.getElem?_eq_some_iff.1 ho').1;have h1:=hops i hi;rw[ho']at h1;simp only[ak,Option.isNone_iff_eq_none,Array.all_eq_true',decide_eq_true_eq,Bool.or_eq_true,Bool.not_eq_true']at h1;obtain⟨⟨h2,h3⟩,h4⟩:=h1;refine⟨⟨fun e=>?_,fun e=>?_⟩,h3,fun e he hbi=>(h4 e he).elim (fun h=>by rw[hbi]at h;cases h) (fun h=>h),List.mem_of_getElem? (hgd i hi),hi⟩;{rw[ax e]at h2;simpa using h2};rw[au e,hgd i hi]at h2;simpa using h2
 have hinj:∀i j,i<l.length->j<l.length->ds.getD i 0=ds.getD j 0->i=j:=by intro i j hi hj e;rw[ag,ag,ah (by omega),ah (by omega)]at e;have e':ds[i]'(by omega)=ds[j]'(by omega):=e;rcases Nat.lt_trichotomy i j with h|h|h;{exact absurd e' (List.pairwise_iff_getElem.1 hnd i j (by omega) (by omega) h)};{exact h};exact absurd e'.symm (List.pairwise_iff_getElem.1 hnd j i (by omega) (by omega) h)
 let I:Array Bool->Act->World->Prop:=fun q b x=>A (q.getD m false&&decide (m<l.length)) x/\b.defers=a.defers/\b.tmps.size=a.tmps.size/\(∀t,t∉ds->b.eval (.tmp t)=a.eval (.tmp t))/\∀j,j<l.length->q.getD j false=true->b.eval (.tmp (ds.getD j 0))=bY.getD j undef
 have hsl:l.toArray.size=l.length:=by simp
 have hu:pF l.length (Array.replicate l.toArray.size false)=l.length:=by
  have:∀m,m<=l.toArray.size->pF m (Array.replicate l.toArray.size false)=m:=by
   intro m
   induction m with
   |zero=>intro _;rfl
   |succ m ih=>
    intro hm
    rw[eP,ih (by omega)]
    have:(Array.replicate l.toArray.size false).getD m true=false:=getD_in (by simp at hm ⊢;omega) (getD_replicate_false _ _)
    rw[ax this]
  exact this _ (by omega)
 have H := wpAny_all (P:=P) (Q:=Q) (md:= .any) (ops:=l.toArray) I (fun i o ho=>(hop i o ho).2.2.1)
   (fun q b x i o hq ho hi hun hafter hI=>by
     obtain⟨hA,hdf,hsize,hfr,hF⟩:=hI
     obtain⟨⟨hds,hdn⟩,hg,hb,hmem,hil⟩:=hop i o ho
     have VS:q.size=l.length:=by rw[hq,hsl]
     have Ai:=hall.at i o (by simpa using ho)
     rw[Nat.zero_add]at Ai
     have hwp:=Ai (q.getD m false&&decide (m<l.length)) b x hA (fun e=>by
       subst e
       have h3:i<q.size:=by omega
       simp[h3]at hun ⊢
       intro h4
       rw[hun]at h4
       cases h4) (fun hj=>by
       obtain⟨e,he,hbe⟩:=Array.any_eq_true'.1 hj
       simp only[ak,beq_iff_eq]at hbe
       have h1:=hafter e he hbe.1
       have h2:=hb e he hbe.1
       rw[hbe.2]at h1 h2
       rw[h1]
       simpa using(show m<l.length by omega)) hfr hdf (fun j hj=>by
       obtain⟨e,he,hbe⟩:=Array.any_eq_true'.1 hj
       simp only[ak,beq_iff_eq]at hbe
       have h1:=hafter e he hbe.1
       have h2:=hb e he hbe.1
       rw[hbe.2]at h1 h2
       exact hF j (by omega) h1)
     unfold wpOp
     simp only[ho]
     have hw:Region.wanted o (yielded l.toArray b.tmps)=true:=by simp[Region.wanted,hg]
     rw[ax hw]
     refine .inl (Oper.wp_mono (fun b' x' h'=>?_) hwp)
     obtain⟨y,rfl,hA',hF',Ct⟩:=h'
     have hA2:A ((q.setIfInBounds i true).getD m false&&decide (m<l.length)) x':=by
       by_cases e:i=m
       · subst e
         have h3:i<q.size:=by omega
         have h4:(q.setIfInBounds i true).getD i false=true:=by simp[h3]
         rw[h4]
         simpa[hil]using hA'
       · rw[getD_set_ne false e]
         simpa[e]using hA'
     by_cases es:i=s
     · obtain⟨hd,hge⟩:=hds es
       rw[hd]
       refine⟨hA2,hdf,hsize,hfr,fun j hj hq'=>?_⟩
       by_cases e:i=j
       · subst e
         subst es
         rw[hvs]
         unfold Act.eval
         have:b.tmps.size<=ds.getD i 0:=by rw[hsize];exact hge
         have h5:b.tmps[ds.getD i 0]?=none:=Array.getElem?_eq_none this
         show b.tmps.getD _ undef=undef
         rw[Array.getD_eq_getD_getElem?,h5]
         rfl
       · rw[getD_set_ne false e]at hq'
         exact hF j hj hq'
     · obtain⟨hd,hlt⟩:=hdn es
       rw[hd]
       have hlt':ds.getD i 0<b.tmps.size:=by rw[hsize];exact hlt
       refine⟨hA2,hdf,by simpa[Act.put]using hsize,fun t ht=>?_,fun j hj hq'=>?_⟩
       · rw[fM _ _ _ _ hlt',au (fun e=>ht (by rw[←e];exact hmem))]
         exact hfr t ht
       · rw[fM _ _ _ _ hlt']
         by_cases e:i=j
         · subst e
           rw[ax rfl]
           exact hF'
         · rw[au (fun e2=>e (hinj i j hil hj e2))]
           rw[getD_set_ne false e]at hq'
           exact hF j hj hq')
   (fun q b x hq jg hI=>by
     obtain⟨hA,hdf,hsize,hfr,hF⟩:=hI
     have VS:q.size=l.length:=by rw[hq,hsl]
     have hF2:∀j,j<l.length->b.eval (.tmp (ds.getD j 0))=bY.getD j undef:=fun j hj=>hF j hj (by
       have:=jg j (by omega)
       have h1:j<q.size:=by omega
       simp[h1]at this ⊢
       exact this)
     have hbf:b=ds.foldl (fun a' t=>a'.put (some t) (b.eval (.tmp t))) a:=by
       obtain⟨s1,s2,s3⟩:=iD (fun t=>b.eval (.tmp t)) ds a
       have ht:b.tmps=(ds.foldl (fun a' t=>a'.put (some t) (b.eval (.tmp t))) a).tmps:=by
         apply Array.ext_getElem?
         intro t
         rw[s3 t]
         by_cases e:t<a.tmps.size
         · have eb:b.tmps[t]?=some (b.eval (.tmp t)):=by
             have h1:t<b.tmps.size:=by omega
             simp[Act.eval,h1]
           by_cases e2:t∈ds
           · rw[ax ⟨e2,e⟩,eb]
           · rw[au (fun h=>e2 h.1),eb,hfr t e2]
             simp[Act.eval,e]
         · rw[au (fun h=>e h.2),Array.getElem?_eq_none (by omega),Array.getElem?_eq_none (by omega)]
       have e3:∀c d:Act,c.tmps=d.tmps->c.defers=d.defers->c=d:=by
         rintro⟨c1,c2⟩ ⟨d1,d2⟩ h1 h2
         simp only at h1 h2
         rw[h1,h2]
       exact e3 _ _ ht (hdf.trans s2.symm)
     have hA3:A (decide (m<l.length)) x:=by
       by_cases e:m<l.length
       · have h1:=jg m (by omega)
         have h2:m<q.size:=by omega
         have h3:q.getD m false=true:=by simp[h2]at h1 ⊢;exact h1
         rw[h3,Bool.true_and]at hA
         exact hA
       · simp[e]at hA ⊢
         exact hA
     exact hend b x hA3 hF2 hbf)
   l.length (Array.replicate l.toArray.size false) a w.drew (by simp) (by rw[hsl];exact hu) ⟨by rw[getD_replicate_false,Bool.false_and];exact h0,rfl,rfl,fun t _=>rfl,fun j hj h=>by rw[getD_replicate_false]at h;cases h⟩
 rw[←hsl]at H
 exact wp_region_any hm H
end
section
open Go.RowKit
variable {P : Program} {ops : Array Oper} {md : Region.Mode} {Q : Exit → Act → World → Prop} {n : Nat}
def Ff (l:List Oper)(sz:Nat)(ss ds:List Nat):Bool:=
 decide (ds.length=l.length)&&ds.Nodup&&(List.range l.length).all fun i=>match l[i]? with
   |some o=>(if ss.contains i then o.dst==none&&decide (sz<=ds.getD i 0)else o.dst==ds[i]?&&decide (ds.getD i 0<sz))&&(match o.guard with|none=>true|some (j,_)=>decide (j<l.length)&& !ss.contains j)&&o.after.all fun e=> !Region.binds .any e||decide (e.on<i)
   |none=>false
def La (ds:List Nat)(b:Act)(f:Bool->Bool):Option (Nat×Bool)->Prop->Prop
 |none,p=>p
 |some (j,v),_=>b.eval (.tmp (ds.getD j 0))= .bool (f v)
def Ci (P:Program)(Q:Exit->Act->World->Prop)(a:Act)(ds:List Nat)(A:World->Prop)(R:World->World->Prop)(F:Nat->Value->World->Prop)(k:Nat)(o:Oper):Prop:=
 ∀ (b:Act) (x:World),A x->(∀t,t∉ds->b.eval (.tmp t)=a.eval (.tmp t))->(∀j,(o.after.any fun e=>Region.binds .any e&&e.on==j)=true->F j (b.eval (.tmp (ds.getD j 0))) x)->
   (La ds b id o.guard True/\o.wp P b x (fun b' x'=>∃y,b'=b.put o.dst y/\A x'/\F k y x'/\R x x') Q)\/(La ds b not o.guard False/\F k undef x/\R x x)
def kD (P:Program)(Q:Exit->Act->World->Prop)(a:Act)(ds:List Nat)(A:World->Prop)(R:World->World->Prop)(F:Nat->Value->World->Prop):Nat->List Oper->Prop
 |_,[]=>True
 |k,o::r=>Ci P Q a ds A R F k o/\kD P Q a ds A R F (k+1) r
theorem kD.at {a:Act}{ds:List Nat}{A:World->Prop}{R:World->World->Prop}{F:Nat->Value->World->Prop}:∀{r:List Oper}{k:Nat},kD P Q a ds A R F k r->∀i o,r[i]?=some o->Ci P Q a ds A R F (k+i) o
 |[],_,_,i,o,h=>by simp at h
 |q::r,k,h,0,o,e=>by cases e;exact h.1
 | q::r,k,h,i+1,o,e=>by
   have:=kD.at h.2 i o (by simpa using e)
   rwa [show k+1+i=k+(i+1)by omega]at this
theorem mU {id:Nat}{a:Act}{w:World}{l:List Oper}(ss ds:List Nat)(A:World->Prop)(R:World->World->Prop)(F:Nat->Value->World->Prop)(hm:P.follows .mixedOrders=true)(hB:Ff l a.tmps.size ss ds=true)(hS:∀i∈ss,∀y x,F i y x->F i undef x)(h0:A w.drew)(hR:∀i y x x',R x x'->F i y x->F i y x')(hall:kD P Q a ds A R F 0 l)(hend:∀b x,A x->(∀j,j<l.length->F j (b.eval (.tmp (ds.getD j 0))) x)->b=ds.foldl (fun a' t=>a'.put (some t) (b.eval (.tmp t))) a->Q .normal b x):(Code.region id l.toArray true).wp P Q a w:=by
 simp only[Ff,ak,decide_eq_true_eq,List.all_eq_true,List.mem_range]at hB
 obtain⟨⟨hdl,hnd⟩,hops⟩:=hB
 have hgd:∀i,i<l.length->ds[i]?=some (ds.getD i 0):=fun i hi=>by rw[ag,ah (by omega)];rfl
 have hop:∀i o,l.toArray[i]?=some o->((ss.contains i=true->o.dst=none/\a.tmps.size<=ds.getD i 0)/\(ss.contains i=false->o.dst=some (ds.getD i 0)/\ds.getD i 0<a.tmps.size))/\(∀j v,o.guard=some (j,v)->j<l.length/\ss.contains j=false)/\(∀e∈o.after,Region.binds .any e=true->e.on<i)/\ds.getD i 0∈ds/\i<l.length:=by intro i o ho;have ho':l[i]?=some o:=by{simpa using ho};have hi:i<l.length:=(List.getElem?_eq_some_iff.1 ho').1;have h1:=hops i hi;rw[ho']at h1;simp only[ak,Array.all_eq_true',decide_eq_true_eq,Bool.or_eq_true,Bool.not_eq_true']at h1;obtain⟨⟨h2,h3⟩,h4⟩:=h1;refine⟨⟨fun e=>?_,fun e=>?_⟩,fun j v e=>?_,fun e he hbi=>(h4 e he).elim (fun h=>by rw[hbi]at h;cases h) (fun h=>h),List.mem_of_getElem? (hgd i hi),hi⟩;{rw[ax e]at h2;simpa using h2};{rw[au (by rw[e];decide),hgd i hi]at h2;simpa using h2};rw[e]at h3;simpa using h3
 have hinj:∀i j,i<l.length->j<l.length->ds.getD i 0=ds.getD j 0->i=j:=by intro i j hi hj e;rw[ag,ag,ah (by omega),ah (by omega)]at e;have e':ds[i]'(by omega)=ds[j]'(by omega):=e;rcases Nat.lt_trichotomy i j with h|h|h;{exact absurd e' (List.pairwise_iff_getElem.1 hnd i j (by omega) (by omega) h)};{exact h};exact absurd e'.symm (List.pairwise_iff_getElem.1 hnd j i (by omega) (by omega) h)
 let I:Array Bool->Act->World->Prop:=fun q b x=>A x/\b.defers=a.defers/\b.tmps.size=a.tmps.size/\(∀t,t∉ds->b.eval (.tmp t)=a.eval (.tmp t))/\∀j,j<l.length->q.getD j false=true->F j (b.eval (.tmp (ds.getD j 0))) x
 have hsl:l.toArray.size=l.length:=by simp
 have hu:pF l.length (Array.replicate l.toArray.size false)=l.length:=by
  have:∀m,m<=l.toArray.size->pF m (Array.replicate l.toArray.size false)=m:=by
   intro m
   induction m with
   |zero=>intro _;rfl
   |succ m ih=>
    intro hm
    rw[eP,ih (by omega)]
    have:(Array.replicate l.toArray.size false).getD m true=false:=getD_in (by simp at hm ⊢;omega) (getD_replicate_false _ _)
    rw[ax this]
  exact this _ (by omega)
 have H := wpAny_all (P:=P) (Q:=Q) (md:= .any) (ops:=l.toArray) I (fun i o ho=>(hop i o ho).2.2.1)
   (fun q b x i o hq ho hi hun hafter hI=>by
     obtain⟨hA,hdf,hsize,hfr,hF⟩:=hI
     obtain⟨⟨hds,hdn⟩,hg,hb,hmem,hil⟩:=hop i o ho
     have Ai:=hall.at i o (by simpa using ho)
     rw[Nat.zero_add]at Ai
     have hwp:=Ai b x hA hfr (fun j hj=>by
       obtain⟨e,he,hbe⟩:=Array.any_eq_true'.1 hj
       simp only[ak,beq_iff_eq]at hbe
       have h1:=hafter e he hbe.1
       have h2:=hb e he hbe.1
       rw[hbe.2]at h1 h2
       exact hF j (by omega) h1)
     have hcl:∀y x',A x'->F i y x'->R x x'->I (q.setIfInBounds i true) (b.put o.dst y) x':=fun y x' hA' hF' Ct=>by
       rcases es:ss.contains i with _|_
       · obtain⟨hd,hlt⟩:=hdn es
         rw[hd]
         have hlt':ds.getD i 0<b.tmps.size:=by rw[hsize];exact hlt
         refine⟨hA',hdf,by simpa[Act.put]using hsize,fun t ht=>?_,fun j hj hq'=>?_⟩
         · rw[fM _ _ _ _ hlt',au (fun e=>ht (by rw[←e];exact hmem))]
           exact hfr t ht
         · rw[fM _ _ _ _ hlt']
           by_cases e:i=j
           · subst e
             rw[ax rfl]
             exact hF'
           · rw[au (fun e2=>e (hinj i j hil hj e2))]
             rw[getD_set_ne false e]at hq'
             exact hR j _ x x' Ct (hF j hj hq')
       · obtain⟨hd,hge⟩:=hds es
         rw[hd]
         refine⟨hA',hdf,hsize,hfr,fun j hj hq'=>?_⟩
         by_cases e:i=j
         · subst e
           have h5:b.tmps[ds.getD i 0]?=none:=Array.getElem?_eq_none (by rw[hsize];exact hge)
           have h6:b.eval (.tmp (ds.getD i 0))=undef:=by
             show b.tmps.getD _ undef=undef
             rw[Array.getD_eq_getD_getElem?,h5]
             rfl
           show F i (b.eval (.tmp (ds.getD i 0))) x'
           rw[h6]
           exact hS i (by simpa using es) _ _ hF'
         · rw[getD_set_ne false e]at hq'
           exact hR j _ x x' Ct (hF j hj hq')
     have hy:∀j v u,o.guard=some (j,v)->b.eval (.tmp (ds.getD j 0))= .bool u->Region.wanted o (yielded l.toArray b.tmps)=(u==v):=fun j v u hj hu=>by
       obtain⟨hjn,hjs⟩:=hg j v hj
       obtain⟨⟨-,hd2⟩,-⟩:=hop j (l.toArray[j]'(by omega)) (Array.getElem?_eq_getElem (by omega))
       obtain⟨hd2,hlt2⟩:=hd2 hjs
       have h4:b.tmps[ds.getD j 0]?=some (.bool u):=by
         rw[←hsize]at hlt2
         rw[←hu]
         generalize ds.getD j 0=t at hlt2 ⊢
         simp[Act.eval,hlt2]
       have h6:yielded l.toArray b.tmps j=some u:=by
         unfold yielded
         rw[Array.getElem?_eq_getElem (by omega)]
         simp only[Option.bind_some,hd2,h4]
       unfold Region.wanted
       rw[hj]
       simp only[h6]
       cases u<;>cases v<;>rfl
     unfold wpOp
     simp only[ho]
     rcases hwp with⟨hw1,hwp⟩|⟨hw1,hF',Ct⟩
     · have hw:Region.wanted o (yielded l.toArray b.tmps)=true:=by
         rcases hgo:o.guard with _|⟨j,v⟩
         · simp[Region.wanted,hgo]
         · rw[hgo]at hw1
           rw[hy j v v hgo hw1]
           cases v<;>rfl
       rw[ax hw]
       refine .inl (Oper.wp_mono (fun b' x' h'=>?_) hwp)
       obtain⟨y,rfl,hA',hF',Ct⟩:=h'
       exact hcl y x' hA' hF' Ct
     · have hw:¬Region.wanted o (yielded l.toArray b.tmps)=true:=by
         rcases hgo:o.guard with _|⟨j,v⟩
         · rw[hgo]at hw1
           exact hw1.elim
         · rw[hgo]at hw1
           rw[hy j v (!v) hgo hw1]
           cases v<;>decide
       rw[au hw]
       exact hcl undef x hA hF' Ct)
   (fun q b x hq jg hI=>by
     obtain⟨hA,hdf,hsize,hfr,hF⟩:=hI
     have VS:q.size=l.length:=by rw[hq,hsl]
     have hF2:∀j,j<l.length->F j (b.eval (.tmp (ds.getD j 0))) x:=fun j hj=>hF j hj (by
       have:=jg j (by omega)
       have h1:j<q.size:=by omega
       simp[h1]at this ⊢
       exact this)
     have hbf:b=ds.foldl (fun a' t=>a'.put (some t) (b.eval (.tmp t))) a:=by
       obtain⟨s1,s2,s3⟩:=iD (fun t=>b.eval (.tmp t)) ds a
       have ht:b.tmps=(ds.foldl (fun a' t=>a'.put (some t) (b.eval (.tmp t))) a).tmps:=by
         apply Array.ext_getElem?
         intro t
         rw[s3 t]
         by_cases e:t<a.tmps.size
         · have eb:b.tmps[t]?=some (b.eval (.tmp t)):=by
             have h1:t<b.tmps.size:=by omega
             simp[Act.eval,h1]
           by_cases e2:t∈ds
           · rw[ax ⟨e2,e⟩,eb]
           · rw[au (fun h=>e2 h.1),eb,hfr t e2]
             simp[Act.eval,e]
         · rw[au (fun h=>e h.2),Array.getElem?_eq_none (by omega),Array.getElem?_eq_none (by omega)]
       have e3:∀c d:Act,c.tmps=d.tmps->c.defers=d.defers->c=d:=by
         rintro⟨c1,c2⟩ ⟨d1,d2⟩ h1 h2
         simp only at h1 h2
         rw[h1,h2]
       exact e3 _ _ ht (hdf.trans s2.symm)
     exact hend b x hA hF2 hbf)
   l.length (Array.replicate l.toArray.size false) a w.drew (by simp) (by rw[hsl];exact hu) ⟨h0,rfl,rfl,fun t _=>rfl,fun j hj h=>by rw[getD_replicate_false]at h;cases h⟩
 rw[←hsl]at H
 exact wp_region_any hm H
def PF (ps:Nat->Value->World->Prop)(l:List (Option Value))(j:Nat)(y:Value)(x:World):Prop:=
 match l.getD j none with
 |some v=>y=v
 |none=>ps j y x
theorem PF.F7 {R:World->World->Prop}{ps:Nat->Value->World->Prop}{l:List (Option Value)}(h:∀i y x x',R x x'->ps i y x->ps i y x')(i:Nat)(y:Value)(x x':World)(hr:R x x')(hf:PF ps l i y x):PF ps l i y x':=by unfold PF at hf ⊢;split at hf;{exact hf};exact h i y x x' hr hf
end
end Go.Proofs.YthkjdjmjdlimnaaGreat
