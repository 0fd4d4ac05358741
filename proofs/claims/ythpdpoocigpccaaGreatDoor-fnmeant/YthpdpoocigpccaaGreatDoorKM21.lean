/-
  Own texts for a law: CalG2 Gen1 Leb4 LebR Big Draw3x PhiW Mean3
-/
import Derived.Test.YthpdpoocigpccaaGreatDoorKM09
namespace Go.Proofs.YthpdpoocigpccaaGreatDoor
open Go.RowKit Go.Shelf
set_option linter.all false
set_option maxRecDepth 100000
set_option maxHeartbeats 16000000
theorem xe {c:WC}{W0:World}{q:CC}{aB:Nat}{pile loc mem:List Int}{m gp cp:Nat}{wr:World}{p a:Int}(Q:CQ c W0 q)(aN:Hid (CI c W0 q aB pile loc mem (m+1) gp cp wr))(HST:Hid (aG.op (Mn.fn c.fs q.k).b aB=p/\Hg.arg (Mn.fn c.fs q.k).b aB=a/\St.ok p a=true))(HC:Hid (p=8\/p=9\/p=20\/(p=10/\¬Mn.dx pile=0)\/(p=10/\Mn.dx pile=0)\/p=11)):iC c W0 q aB pile loc mem m gp cp wr:=by unfold iC;intros;rename_i Ey ou;have HK:=aa (Ey.out m (Nat.le_refl _));clear Ey;(conv=>arg 2;whnf);obtain⟨j0,hj,hy0,hy1,hy2⟩:=info_parts bW;have hG:=aN.out.good;have ow:=aN.out.wk;have hat:aB<q.bl:=by{have:=hG.lt;have:=Q.len;omega};have dM:=Q.mR;have hpl:pile.length<=20:=by{have h1:=hG.here;have h2:=(Q.dE.val.acc q.k Q.lt).dx aB hG.lt;omega};have b6:=(ow.box.2 6 _ rfl).1;have JE:=(ow.box.2 6 _ rfl).2;have hm3:m+1<=3000:=aN.out.nb;have ed:=aa (aN.out.cm.aI Q m);clear ow;go_upto_region 13 with fail;obtain⟨W1,hW1⟩:∃W1,wr.setCell ⟨c.B,6,none⟩ (.int .i64 (m:Int))=W1:=⟨_,rfl⟩;rw[hW1]at ed ⊢;clear hW1 b6 JE;have x3:=(ed.out.co.fx.2 3 _ rfl).1;have mY:=mI Q ed.out.wk.dI;obtain⟨-,-,hrow⟩:=mY;rcases hrow with h0|⟨bb,bo,eb,hbb,dL⟩;{omega};obtain⟨gq,gu⟩:q.bb=bb/\q.bo=bo:=by{simpa using eb};have z0:=(dL aB hat).1;have z1:=(dL aB hat).2;have e0:((Mn.fn c.fs q.k).b.getD aB (0,0)).1=p:=HST.out.1;have e1:((Mn.fn c.fs q.k).b.getD aB (0,0)).2=a:=HST.out.2.1;rw[e0,←gq,←gu]at z0;rw[e1,←gq,←gu]at z1;clear dL eb gq gu e0 e1 hbb;have gy:(aB:Int)<(q.bl:Int):=by{omega};have hal:=aC W1 (.cells #[.int .i64 p, .int .i64 a] 78);have bN:=aa (ed.out.kept hal);have gJ:Hid (bG (W1.alloc (.cells #[.int .i64 p, .int .i64 a] 78)) W1.heap.size [.int .i64 p, .int .i64 a]):=bG.new W1 [.int .i64 p, .int .i64 a] 78;go_upto_region 19 with fail;obtain⟨W2,hW2⟩:∃W2,W1.alloc (.cells #[.int .i64 p, .int .i64 a] 78)=W2:=⟨_,rfl⟩;rw[hW2]at bN gJ ⊢;have s0:=(gJ.out.2 0 _ rfl).1;have s1:=(gJ.out.2 1 _ rfl).1;have hsb:=gJ.out.1;have h12:=ed.out.dI.size;obtain⟨sb,jB⟩:∃sb,W1.heap.size=sb:=⟨_,rfl⟩;rw[jB]at s0 s1 hsb h12 gJ ⊢;have hsl:gp<sb:=by{rw[←jB];exact ed.out.co.ord.2.2};obtain⟨o1,o2,-⟩:=bN.out.co.ord;have o4:=bN.out.n4;have iB:=Q.iK;have iM:=Q.JV;have eu:=aa (ai aN.out bN.out);clear hal hW2 jB ed x3 z0 z1;rcases HC.out with hc|hc|hc|hc|hc|hc;{have HP:Hid (p=8):=hc;clear hc HC;obtain rfl:=HP.out;go_wp2;obtain⟨gd,rn⟩:=eu.out.1.next Q (Mn.st8 HST.out.1 HST.out.2.1);apply HK.out (aB+1) (pile) (loc) (mem) gp cp;{exact bN.out.ci (by omega) gd rn};{exact rfl};{exact rfl};exact(by simp)};{have HP:Hid (p=9):=hc;clear hc HC;obtain rfl:=HP.out;go_wp2;obtain⟨gd,rn⟩:=eu.out.1.next Q (Mn.st9 HST.out.1 HST.out.2.1);apply HK.out (aB+1) (pile) (loc) (mem) gp cp;{exact bN.out.ci (by omega) gd rn};{exact rfl};{exact rfl};exact(by simp)};{have HP:Hid (p=20):=hc;clear hc HC;obtain rfl:=HP.out;go_wp2;obtain⟨gd,rn⟩:=eu.out.1.next Q (Mn.abf HST.out.1 HST.out.2.1);apply HK.out (aB+1) (pile) (loc) (mem) gp cp;{exact bN.out.ci (by omega) gd rn};{exact rfl};{exact rfl};exact(by simp)};{have HP:Hid (p=10):=hc.1;have HN:Hid (¬Mn.dx pile=0):=hc.2;clear hc HC;obtain rfl:=HP.out;have hty:=(eu.out.1.take Q).iff HST.out.1;have htk:=(eu.out.1.take Q).take;rw[HST.out.1,HST.out.2.1,show Hg.tk c.fs 10 a=1 by simp[Hg.tk]]at htk;have hlen:=eu.out.1.good.here;obtain⟨j,hj1⟩:∃j,pile.length=j+1:=⟨pile.length-1,by omega⟩;have hcap:j+1<=cp:=by{rw[←hj1];exact dw bN.out.co.pr};have HJ:=aa hj1;have t1:=dz bN.out.co.pr rfl (j:=j+1-1) (by omega);rw[hj1]at hpl ⊢;have htop:=Mn.dP HJ.out;rw[Nat.add_sub_cancel]at t1;rw[←htop]at t1;obtain⟨v,hv⟩:∃v,Mn.dx pile=v:=⟨_,rfl⟩;rw[hv]at t1;have HV:=aa hv;clear hj1 htk hlen htop hv;have hv0:¬v=0:=by{rw[←HV.out];exact HN.out};have hvb:(v==0)=false:=by{simpa using hv0};clear hty;go_wp2;obtain⟨gd,rn⟩:=eu.out.1.next Q ((by rw[Mn.VV HST.out.1 HST.out.2.1 HN.out,Mn.di HJ.out]:Mn.aY c.fs q.k aB pile loc mem= .next (aB+1) (pile.take j) loc mem));apply HK.out (aB+1) (pile.take j) (loc) (mem) gp cp;{exact(bN.out.cut j (by rw[HJ.out];omega)).ci (by omega) gd rn};{exact(by rw[List.length_take,HJ.out];omega)};{exact rfl};exact(by simp)};{have HP:Hid (p=10):=hc.1;have HN:Hid (Mn.dx pile=0):=hc.2;clear hc HC;obtain rfl:=HP.out;have hty:=(eu.out.1.take Q).iff HST.out.1;have htk:=(eu.out.1.take Q).take;rw[HST.out.1,HST.out.2.1,show Hg.tk c.fs 10 a=1 by simp[Hg.tk]]at htk;have hlen:=eu.out.1.good.here;obtain⟨j,hj1⟩:∃j,pile.length=j+1:=⟨pile.length-1,by omega⟩;have hcap:j+1<=cp:=by{rw[←hj1];exact dw bN.out.co.pr};have HJ:=aa hj1;have t1:=dz bN.out.co.pr rfl (j:=j+1-1) (by omega);rw[hj1]at hpl ⊢;have htop:=Mn.dP HJ.out;rw[Nat.add_sub_cancel]at t1;rw[←htop]at t1;obtain⟨v,hv⟩:∃v,Mn.dx pile=v:=⟨_,rfl⟩;rw[hv]at t1;have HV:=aa hv;clear hj1 htk hlen htop hv;obtain rfl:v=0:=by{rw[←HV.out];exact HN.out};have b3:=(bN.out.wk.box.2 3 _ rfl).1;have hkl:=Q.lt;have hk4:=Q.dE.val.len.2;obtain⟨ea,em,ec,te0,wy⟩:=Q.dE.te W2 bN.out.wk.dI q.k Q.lt;dsimp only at wy;have MR:(q.k:Int)<(c.fs.length:Int):=by{omega};have Ez:(aG.ends (Mn.fn c.fs q.k).b).length=q.bl:=by{rw[(Q.dE.val.acc q.k Q.lt).vo.lE,Q.len]};obtain⟨hEl,-,h0|⟨ebk,eo,rfl,-,hEx⟩⟩:=wy;{omega};have te1:=hEx aB (by omega);have hem:em=q.bl:=by{rw[←hEl,Ez]};rw[hem]at te0;clear hem;have Tg:aG.aB (aG.ends (Mn.fn c.fs q.k).b) aB=(aG.ends (Mn.fn c.fs q.k).b).getD aB 0:=by{unfold aG.aB;rw[af,af,ag (by omega)];rfl};rw[←Tg]at te1;obtain⟨z,hz⟩:∃z,aG.aB (aG.ends (Mn.fn c.fs q.k).b) aB=z:=⟨_,rfl⟩;rw[hz]at te1;have HZ:=aa hz;clear hEx Tg hz Ez hEl;have b4:=(bN.out.wk.box.2 4 _ rfl).1;obtain⟨oa,om,oc,to0,adT⟩:=Q.dE.tn W2 bN.out.wk.dI q.k Q.lt;dsimp only at adT;have Xk:(aG.aT (Mn.fn c.fs q.k).b).length=q.bl:=by{rw[(Q.dE.val.acc q.k Q.lt).vo.lO,Q.len]};obtain⟨hOl,-,h0|⟨obk,oof,rfl,-,JC⟩⟩:=adT;{omega};have to1:=JC aB (by omega);have hom:om=q.bl:=by{rw[←hOl,Xk]};rw[hom]at to0;clear hom;have adU:aG.aB (aG.aT (Mn.fn c.fs q.k).b) aB=(aG.aT (Mn.fn c.fs q.k).b).getD aB 0:=by{unfold aG.aB;rw[af,af,ag (by omega)];rfl};rw[←adU]at to1;obtain⟨y,hy⟩:∃y,aG.aB (aG.aT (Mn.fn c.fs q.k).b) aB=y:=⟨_,rfl⟩;rw[hy]at to1;have HY:=aa hy;clear JC adU hy Xk hOl;rw[HY.out,HZ.out]at hty;have JX:=Q.len;rcases hty with⟨o1',o2',o3'⟩|⟨o1',o2',o3',o4'⟩;{have hyb:y+1<q.bl:=by{omega};have hzb:-1<=z/\z<q.bl:=by{have hF:=(Q.dE.val.acc q.k Q.lt).vo.f1 aB (by omega);have h1:0<=z:=by{have:=hF.2 (.inl (aG.bI.2 (.inr (.inr HST.out.1))));rw[HZ.out]at this;exact this};have h2:=((Q.dE.val.acc q.k Q.lt).vo.f3 aB (by omega) (by rw[HZ.out];exact h1)).2.1;rw[HZ.out]at h2;omega};clear o3' JX;go_wp2;obtain⟨gd,rn⟩:=eu.out.1.next Q ((by rw[Mn.Ie HST.out.1 HST.out.2.1 HN.out,Mn.di HJ.out,HY.out,ax o1']:Mn.aY c.fs q.k aB pile loc mem= .next (y.toNat+1) (pile.take j) loc mem));apply HK.out (y.toNat+1) (pile.take j) (loc) (mem) gp cp;{exact(bN.out.cut j (by rw[HJ.out];omega)).ci (by omega) gd rn};{exact(by rw[List.length_take,HJ.out];omega)};{exact rfl};exact(by omega)};have hzb:z+1<q.bl:=by{omega};have hyb:y<0:=o1';clear o4' JX;go_wp2;obtain⟨gd,rn⟩:=eu.out.1.next Q ((by rw[Mn.Ie HST.out.1 HST.out.2.1 HN.out,Mn.di HJ.out,HY.out,HZ.out,ak (by omega)]:Mn.aY c.fs q.k aB pile loc mem= .next (z.toNat+1) (pile.take j) loc mem));apply HK.out (z.toNat+1) (pile.take j) (loc) (mem) gp cp;{exact(bN.out.cut j (by rw[HJ.out];omega)).ci (by omega) gd rn};{exact(by rw[List.length_take,HJ.out];omega)};{exact rfl};exact(by omega)};have HP:Hid (p=11):=hc;clear hc HC;obtain rfl:=HP.out;have hty:=(eu.out.1.take Q).JQ HST.out.1;have b3:=(bN.out.wk.box.2 3 _ rfl).1;have hkl:=Q.lt;have hk4:=Q.dE.val.len.2;obtain⟨ea,em,ec,te0,wy⟩:=Q.dE.te W2 bN.out.wk.dI q.k Q.lt;dsimp only at wy;have MR:(q.k:Int)<(c.fs.length:Int):=by{omega};have Ez:(aG.ends (Mn.fn c.fs q.k).b).length=q.bl:=by{rw[(Q.dE.val.acc q.k Q.lt).vo.lE,Q.len]};obtain⟨hEl,-,h0|⟨ebk,eo,rfl,-,hEx⟩⟩:=wy;{omega};have te1:=hEx aB (by omega);have hem:em=q.bl:=by{rw[←hEl,Ez]};rw[hem]at te0;clear hem;have Tg:aG.aB (aG.ends (Mn.fn c.fs q.k).b) aB=(aG.ends (Mn.fn c.fs q.k).b).getD aB 0:=by{unfold aG.aB;rw[af,af,ag (by omega)];rfl};rw[←Tg]at te1;obtain⟨z,hz⟩:∃z,aG.aB (aG.ends (Mn.fn c.fs q.k).b) aB=z:=⟨_,rfl⟩;rw[hz]at te1;have HZ:=aa hz;clear hEx Tg hz Ez hEl;have hz0:0<=z:=by{rw[←HZ.out];exact hty.1};have hz1:z+1<q.bl:=by{have h1:=hty.2.1;rw[HZ.out]at h1;have:=Q.len;omega};clear hty;go_wp2;obtain⟨gd,rn⟩:=eu.out.1.next Q ((by rw[Mn.abS HST.out.1 HST.out.2.1,HZ.out]:Mn.aY c.fs q.k aB pile loc mem= .next (z.toNat+1) pile loc mem));apply HK.out (z.toNat+1) (pile) (loc) (mem) gp cp;{exact bN.out.ci (by omega) gd rn};{exact rfl};{exact rfl};exact(by omega)
section
structure KB (N B:Nat)(W W':World):Prop where
 os:W'.os=W.os
 tape:W'.tape=W.tape
 output:W'.output=W.output
 size:W.heap.size<=W'.heap.size
 block:∀k,k<N->k≠B->W'.heap[k]?=W.heap[k]?
theorem KB.refl (N B:Nat)(W:World):KB N B W W:=⟨rfl,rfl,rfl,Nat.le_refl _,fun _ _ _=>rfl⟩
theorem KB.trans {N B:Nat}{U V W:World}(h:KB N B U V)(k:KB N B V W):KB N B U W:=
 ⟨k.os.trans h.os,k.tape.trans h.tape,k.output.trans h.output,Nat.le_trans h.size k.size,fun i h1 h2=>(k.block i h1 h2).trans (h.block i h1 h2)⟩
theorem KB.grown {N B:Nat}{W W':World}{row:Option Nat}(hg:W.grownBy W' row)(hN:N<=W.heap.size)(h:∀k,row=some k->k=B\/N<=k):KB N B W W':=
 ⟨hg.os,hg.tape,hg.output,hg.size,fun i h1 h2=>hg.block i (by omega) (fun e=>by have:=h i e.symm;omega)⟩
theorem KB.below {N B:Nat}{W W':World}(hB:Below W.heap.size W W')(hN:N<=W.heap.size):KB N B W W':=
 ⟨hB.os,hB.tape,hB.output,hB.size,fun i h1 h2=>hB.block i (by omega)⟩
theorem KB.mono {N M B:Nat}{W W':World}(h:KB N B W W')(hM:M<=N):KB M B W W':=
 ⟨h.os,h.tape,h.output,h.size,fun i h1 h2=>h.block i (by omega) h2⟩
def Ty (W:World)(b:Nat)(t:TypeId):Prop:=∃cs fr,W.heap[b]?=some (.cells cs t fr)
theorem Ty.of {W W':World}{b:Nat}{t:TypeId}(h:Ty W b t)(e:W'.heap[b]?=W.heap[b]?):Ty W' b t:=by obtain⟨cs,fr,h⟩:=h;exact⟨cs,fr,e.trans h⟩
theorem Ty.lt {W:World}{b:Nat}{t:TypeId}(h:Ty W b t):b<W.heap.size:=by obtain⟨cs,fr,h⟩:=h;rcases Nat.lt_or_ge b W.heap.size with k|k;{exact k};rw[Array.getElem?_eq_none (by omega)]at h;cases h
theorem Ty.ne {W:World}{b d:Nat}{t u:TypeId}(h:Ty W b t)(k:Ty W d u)(hne:t≠u):b≠d:=by rintro rfl;obtain⟨cs,fr,h⟩:=h;obtain⟨cs',fr',k⟩:=k;rw[h]at k;simp only[ae,Obj.cells.injEq]at k;exact hne k.2.1
theorem Ty.set {W:World}{b:Nat}{t:TypeId}(h:Ty W b t)(p:Addr)(x:Value):Ty (W.setCell p x) b t:=by by_cases e:b=p.block;{obtain⟨cs,fr,h⟩:=h;subst e;unfold Ty;simp[World.setCell,Array.getElem?_modify,h]};exact h.of (Below.heap_setCell _ _ _ _ e)
theorem Ty.row {W:World}{n₀ e k n g c:Nat}{xs:List Value}(h:W.ownsRow n₀ e k (.slice (some ⟨g,0,none⟩) n c) n xs):Ty W g e:=by rcases h.2 with⟨h',_⟩|⟨g',c',cur,h',_,hb,_⟩;{cases h'};cases h';exact⟨_,_,hb⟩
theorem xV {W W':World}{n₀ e k n b:Nat}{v:Value}{xs:List Value}(h:W.ownsRow n₀ e k v n xs)(hg:W.grownBy W' (some b))(hb:b<n₀):W'.ownsRow n₀ e k v n xs:=by refine World.ownsRow.kept h hg ?_;rcases hv:v.ownBlock with _|g;{exact .inl rfl};refine .inr ?_;have:=(h.lt g hv).1;simp only[ne_eq,ae];omega
theorem xZ {W W':World}{n₀ e k n b:Nat}{v:Value}{xs:List Value}(h:W.ownsRow n₀ e k v n xs)(hg:W.grownBy W' (some b))(hb:∀g,v.ownBlock=some g->g≠b):W'.ownsRow n₀ e k v n xs:=by refine World.ownsRow.kept h hg ?_;rcases hv:v.ownBlock with _|g;{exact .inl rfl};refine .inr ?_;have:=hb g hv;simp only[ne_eq,ae];omega
def wS (W:World)(N G nl:Nat)(u:Value):Prop:=
 ∃lb off lc,u= .slice (some ⟨lb,off,none⟩) nl lc/\N<=lb/\lb≠G/\nl<=lc/\lc<=maxLen/\Ty W lb 2/\∀j,j<nl->∃x:Int,W.cell? ⟨lb,off+j,none⟩=some (.int .i64 x)
theorem wS.of {W W':World}{N G nl:Nat}{u:Value}(h:wS W N G nl u)(hk:∀b,N<=b->Ty W b 2->W'.heap[b]?=W.heap[b]?):wS W' N G nl u:=by obtain⟨lb,off,lc,rfl,h1,h2,h3,h4,h5,h6⟩:=h;have e:=hk lb h1 h5;exact⟨lb,off,lc,rfl,h1,h2,h3,h4,h5.of e,fun j hj=>let⟨x,hx⟩:=h6 j hj;⟨x,(World.cell?_of_block e).trans hx⟩⟩
structure GC where
 N:Nat
 G:Nat
 B:Nat
 a:Option Addr
 len:Nat
 cap:Nat
 zs:List Int
 L:Int
 F:Nat
 nf:Nat
 fc:Nat
 gv:Int
def GC.jh (c:GC)(v u:Value):List Value:=
 [.pointer (some ⟨c.B,0,none⟩),v, .int .i64 c.L, .slice (some ⟨c.F,0,none⟩) c.nf c.fc,u, .int .i64 c.gv]
structure GS (c:GC)(n:Nat)(v:Value)(nl:Nat)(u:Value)(W:World):Prop where
 cur:jR W c.B c.a c.len c.cap c.zs
 ix:c.B<c.N/\c.N<=c.G/\c.F<c.N/\c.F≠c.B
 box:bG W c.G (c.jh v u)
 ty:Ty W c.G 100
 row:∃l,W.ownsRow c.N 78 2 v n (iy l)
 jS:wS W c.N c.G nl u
 fn:∀j,j<c.nf->∃p q:Int,0<=p/\p<=3/\W.cell? ⟨c.F,j*4,none⟩=some (.int .i64 p)/\W.cell? ⟨c.F,j*4+2,none⟩=some (.int .i64 q)
 nf:0<c.nf/\c.nf<=3/\c.nf<=c.fc
 nl:0<nl
variable {c : GC} {n nl : Nat} {v u : Value} {W W' : World}
theorem GS.size (h:GS c n v nl u W):c.N<=W.heap.size:=by have:=h.ix;have:=h.box.1;omega
theorem GS.of (h:GS c n v nl u W)(kZ:jR W' c.B c.a c.len c.cap c.zs){b:Nat}(hg:W.grownBy W' (some b))(h1:b≠c.G)(h2:b≠c.F)(h3:b<c.N):GS c n v nl u W':=by obtain⟨l,hl⟩:=h.row;have ix:=h.ix;have hs:=h.size;have hbl:∀k,k<W.heap.size->k≠b->W'.heap[k]?=W.heap[k]?:=fun k hk hne=>hg.block k hk (by simpa using hne);refine⟨kZ,ix,h.box.dN hg (by simpa using h1),h.ty.of (hbl _ h.ty.lt (Ne.symm h1)),⟨l,xV hl hg h3⟩,h.jS.of (fun d hd ht=>hbl d ht.lt (by omega)),fun j hj=>?_,h.nf,h.nl⟩;obtain⟨p,q,h4,h5,h6,h7⟩:=h.fn j hj;have e:=hbl c.F (by omega) (Ne.symm h2);exact⟨p,q,h4,h5,(World.cell?_of_block e).trans h6,(World.cell?_of_block e).trans h7⟩
theorem GS.drawn (h:GS c n v nl u W)(hd:aM W W' c.B c.a c.len c.cap c.zs):GS c n v nl u W'/\KB c.N c.B W W':=by have ix:=h.ix;exact⟨h.of hd.1 hd.2 (by omega) (by omega) (by omega),KB.grown hd.2 h.size (fun k e=> .inl (by simpa using e.symm))⟩
theorem GS.kept (h:GS c n v nl u W)(hB:Below W.heap.size W W'):GS c n v nl u W':=by obtain⟨l,hl⟩:=h.row;have ix:=h.ix;have hs:=h.size;refine⟨h.cur.kept (row:=none) ⟨hB.os,hB.tape,hB.output,hB.size,fun k hk _=>hB.block k hk⟩ (by simp) (.inr (by simp)),ix,h.box.kept hB,h.ty.of (hB.block _ h.ty.lt),⟨l,aH hl hB⟩,h.jS.of (fun d hd ht=>hB.block d ht.lt),fun j hj=>?_,h.nf,h.nl⟩;obtain⟨p,q,h4,h5,h6,h7⟩:=h.fn j hj;have e:=hB.block c.F (by omega);exact⟨p,q,h4,h5,(World.cell?_of_block e).trans h6,(World.cell?_of_block e).trans h7⟩
theorem GS.app {W1:World}{v':Value}{n':Nat}{l:List (Int×Int)}(h:GS c n v nl u W)(hg:W.grownBy W1 v.ownBlock)(hrow:W1.ownsRow c.N 78 2 v' n' (iy l)):GS c n' v' nl u (W1.setCell ⟨c.G,1,none⟩ v')/\KB c.N c.B W (W1.setCell ⟨c.G,1,none⟩ v'):=by
 obtain⟨l0,hl⟩:=h.row
 have ix:=h.ix
 have hs:=h.size
 have hown:∀g,v.ownBlock=some g->c.N<=g/\Ty W g 78:=fun g e=>by refine⟨(hl.lt g e).1,?_⟩;rcases hl.2 with⟨rfl,_⟩|⟨g',c',cur,rfl,_,hb,_⟩;{cases e};cases e;exact⟨_,_,hb⟩
 have hbl:∀k,k<W.heap.size->(c.N<=k->¬Ty W k 78)->W1.heap[k]?=W.heap[k]?:=fun k hk hne=>hg.block k hk (fun e=>by
  obtain⟨a1,a2⟩:=hown k e.symm
  exact hne a1 a2)
 have hnt:∀k t,Ty W k t->t≠78->W1.heap[k]?=W.heap[k]?:=fun k t ht hne=>hbl k ht.lt (fun _ h2=>ht.ne h2 hne rfl)
 have hG:=hnt _ _ h.ty (by decide)
 have adW:bG W1 c.G (c.jh v u):=by refine h.box.dN hg (fun e=>?_);exact(h.ty.ne (hown _ e).2 (by decide)) rfl
 have adX:=h.ty.of hG
 have hset:=aF W1 ⟨c.G,1,none⟩ v'
 have hlo:∀k,k<c.N->(W1.setCell ⟨c.G,1,none⟩ v').heap[k]?=W.heap[k]?:=fun k hk=>(Below.heap_setCell _ _ _ _ (by simp only;omega)).trans (hbl k (by omega) (fun h'=>by omega))
 have hsz:W.heap.size<=(W1.setCell ⟨c.G,1,none⟩ v').heap.size:=Nat.le_trans hg.size hset.size
 refine⟨⟨?_,ix,adW.set 1 v',adX.set _ _,⟨l,xZ hrow hset (fun g e=>?_)⟩,?_,fun j hj=>?_,h.nf,h.nl⟩,⟨hset.os.trans hg.os,hset.tape.trans hg.tape,hset.output.trans hg.output,hsz,fun k hk _=>hlo k hk⟩⟩
 · have c1:=h.cur.kept (w':=W1) hg (fun e=>by have:=(hown _ e.symm).1;omega) (h.cur.2.1.imp_right fun hx x e e'=>by have:=hx x e;have:=(hown _ e'.symm).1;omega);exact c1.kept hset (by simp only[ne_eq,ae];omega) (h.cur.2.1.imp_right fun hx x e e'=>by have:=hx x e;simp only[ae]at e';omega)
 · rcases hrow.2 with⟨rfl,_⟩|⟨g',c',cur,rfl,_,hb,_⟩;{cases e};cases e;exact Ty.ne ⟨_,_,hb⟩ adX (by decide)
 · have l1:wS W1 c.N c.G nl u:=h.jS.of (fun d hd ht=>hnt d _ ht (by decide));obtain⟨lb,off,lc,rfl,h1,h2,h3,h4,h5,h6⟩:=l1;have e:(W1.setCell ⟨c.G,1,none⟩ v').heap[lb]?=W1.heap[lb]?:=Below.heap_setCell _ _ _ _ h2;exact⟨lb,off,lc,rfl,h1,h2,h3,h4,h5.of e,fun j hj=>let⟨x,hx⟩:=h6 j hj;⟨x,(World.cell?_of_block e).trans hx⟩⟩
 · obtain⟨p,q,h4,h5,h6,h7⟩:=h.fn j hj;have e:=hlo c.F (by omega);exact⟨p,q,h4,h5,(World.cell?_of_block e).trans h6,(World.cell?_of_block e).trans h7⟩
theorem GS.gP {nl':Nat}{u':Value}(h:GS c n v nl u W)(hl:wS W c.N c.G nl' u')(h0:0<nl'):GS c n v nl' u' (W.setCell ⟨c.G,4,none⟩ u')/\KB c.N c.B W (W.setCell ⟨c.G,4,none⟩ u'):=by obtain⟨l,hr⟩:=h.row;have ix:=h.ix;have hs:=h.size;have hset:=aF W ⟨c.G,4,none⟩ u';refine⟨⟨h.cur.kept hset (by simp only[ne_eq,ae];omega) (h.cur.2.1.imp_right fun hx x e e'=>by have:=hx x e;simp only[ae]at e';omega),ix,h.box.set 4 u',h.ty.set _ _,⟨l,xZ hr hset (fun g e=>?_)⟩,?_,fun j hj=>?_,h.nf,h0⟩,KB.grown hset hs (fun k e=> .inr (by simp only[ae]at e;omega))⟩;{rcases hr.2 with⟨rfl,_⟩|⟨g',c',cur,rfl,_,hb,_⟩;{cases e};cases e;exact Ty.ne ⟨_,_,hb⟩ h.ty (by decide)};{obtain⟨lb,off,lc,rfl,h1,h2,h3,h4,h5,h6⟩:=hl;have e:(W.setCell ⟨c.G,4,none⟩ (.slice (some ⟨lb,off,none⟩) nl' lc)).heap[lb]?=W.heap[lb]?:=Below.heap_setCell _ _ _ _ h2;exact⟨lb,off,lc,rfl,h1,h2,h3,h4,h5.of e,fun j hj=>let⟨x,hx⟩:=h6 j hj;⟨x,(World.cell?_of_block e).trans hx⟩⟩};obtain⟨p,q,h4,h5,h6,h7⟩:=h.fn j hj;have e:(W.setCell ⟨c.G,4,none⟩ u').heap[c.F]?=W.heap[c.F]?:=Below.heap_setCell _ _ _ _ (by simp only;omega);exact⟨p,q,h4,h5,(World.cell?_of_block e).trans h6,(World.cell?_of_block e).trans h7⟩
theorem GS.slice (h:GS c n v nl u W):∃ad cv,v= .slice ad n cv:=by obtain⟨l,hl⟩:=h.row;rcases hl.2 with⟨rfl,h0⟩|⟨g,cv,cur,rfl,_⟩;{exact⟨none,0,by rw[h0]⟩};exact⟨_,cv,rfl⟩
theorem fI (h:GS c n v nl u W)(x:Int):
   Calls Tryz.prog 32 #[.pointer (some ⟨c.B,0,none⟩), .int .i64 x] W fun e w'=>∃y:Int,e= .returned (.int .i64 y)/\0<=y/\y<=4294967295/\(y<x\/x<=0)/\GS c n v nl u w'/\KB c.N c.B W w':=
 (aR c.B c.a c.len c.cap c.zs x W h.cur).mono fun e w' ⟨y,h1,h2,h3,h4,hd⟩=>⟨y,h1,h2,h3,h4,h.drawn hd⟩
theorem jD (h:GS c n v nl u W)(x:Int):
   Calls Tryz.prog 45 #[.pointer (some ⟨c.B,0,none⟩), .int .i64 x] W fun e w'=>∃y:Bool,e= .returned (.bool y)/\GS c n v nl u w'/\KB c.N c.B W w':=
 (iD c.B c.a c.len c.cap c.zs x W h.cur).mono fun e w' ⟨y,h1,hd⟩=>⟨y,h1,h.drawn hd⟩
theorem sQ (h:GS c n v nl u W):
   Calls Tryz.prog 47 #[.pointer (some ⟨c.B,0,none⟩)] W fun e w'=>∃y:Int,e= .returned (.int .i64 y)/\GS c n v nl u w'/\KB c.N c.B W w':=
 (ja c.B c.a c.len c.cap c.zs W h.cur).mono fun e w' ⟨y,h1,h2,h3,hd⟩=>⟨y,h1,h.drawn hd⟩
end
section
open Go.RowKit
namespace Lb
def gth:Nat->List UInt8->Option (List UInt8)
 |0,_=>none
 |_+1,[]=>none
 |k+1,b::r=>if b.toNat<128 then some [b]else(gth k r).map (b::·)
def val:List UInt8->Nat
 |[]=>0
 |b::r=>b.toNat%128+128*val r
def rest (s:ByteArray)(at':Int):List UInt8:=if at'<0 then[]else s.data.toList.drop at'.toNat
def part (x:UInt8)(pre:List UInt8):Nat:=x.toNat%128*128 ^ pre.length
end Lb
end
section
open Go.RowKit
namespace Lb
def sgn (t:List UInt8):Int:=if(val t:Int) / 2 ^ (7*t.length-1)=1 then(val t:Int)-2 ^ (7*t.length)else val t
end Lb
end
section
open Go.RowKit
theorem MI (a:Option Addr)(len cap:Nat)(w:World)(h:len<=maxLen):Calls Tryz.prog 6 #[.slice a len cap] w fun e w'=>e= .returned (.bool (decide (4096<len)))/\w'=w:=by unfold maxLen at h;go_enter Tryz.func6,Tryz.ntmps6;go_wp2;go_ret;exact⟨cK (by simp;omega),rfl⟩
theorem Bytes.below {w w':World}{a:Option Addr}{len:Nat}{zs:List Int}(h:Bytes w a len zs)(hB:Below w.heap.size w w'):Bytes w' a len zs:=
 h.kept (row:=none) ⟨hB.os,hB.tape,hB.output,hB.size,fun k hk _=>hB.block k hk⟩ (.inr (by simp))
end
section
open Go.RowKit
def I64 (x:Int):Prop:=-9223372036854775808<=x/\x<=9223372036854775807
theorem wu (B:Nat)(a:Option Addr)(len cap:Nat)(zs:List Int)(w:World)(hc:jR w B a len cap zs):Calls Tryz.prog 48 #[.pointer (some ⟨B,0,none⟩)] w fun e w'=>∃x:Int,e= .returned (.int .i64 x)/\I64 x/\aM w w' B a len cap zs:=by go_enter Tryz.func48,Tryz.ntmps48;go_wp2_with fail;refine(iD B a len cap zs 10 _ hc).mono ?_;rintro e w1 ⟨x,rfl,hd⟩;cases x;{go_wp2_with fail;refine(ja B a len cap zs _ hd.1).mono ?_;rintro e w2 ⟨y,rfl,hy0,hy1,hd2⟩;go_wp2;go_ret;exact⟨_,rfl,⟨by omega,by omega⟩,hd.andThen hd2⟩};go_wp2_with fail;refine(aR B a len cap zs 4 _ (hd.alloc _).1).mono ?_;rintro e w2 ⟨y,rfl,hy0,hy1,hy2,hd2⟩;have ht:=fun k=>hd.dE hd2 k;have hy:y=0\/y=1\/y=2\/y=3:=by{omega};clear hy0 hy1 hy2;rcases hy with rfl|rfl|rfl|rfl;all_goals go_wp2;go_ret;exact⟨_,rfl,⟨by omega,by omega⟩,hd.behind hd2⟩
end
section
open Go.RowKit
variable {P : Program} {ops : Array Oper} {md : Region.Mode} {Q : Exit → Act → World → Prop} {n : Nat}
def VN (l:List Oper)(sz:Nat)(ss ds:List Nat):Bool:=
 decide (ds.length=l.length)&&ds.Nodup&&(List.range l.length).all fun i=>match l[i]? with
   |some o=>(if ss.contains i then o.dst==none&&decide (sz<=ds.getD i 0)else o.dst==ds[i]?&&decide (ds.getD i 0<sz))&&(match o.guard with|none=>true|some (j,_)=>decide (j<l.length)&& !ss.contains j)&&o.after.all fun e=> !Region.binds .any e||decide (e.on<i)
   |none=>false
def abg (ds:List Nat)(b:Act)(f:Bool->Bool):Option (Nat×Bool)->Prop->Prop
 |none,p=>p
 |some (j,v),_=>b.eval (.tmp (ds.getD j 0))= .bool (f v)
def Km (P:Program)(Q:Exit->Act->World->Prop)(a:Act)(ds:List Nat)(A:World->Prop)(R:World->World->Prop)(F:Nat->Value->World->Prop)(k:Nat)(o:Oper):Prop:=
 ∀ (b:Act) (x:World),A x->(∀t,t∉ds->b.eval (.tmp t)=a.eval (.tmp t))->(∀j,(o.after.any fun e=>Region.binds .any e&&e.on==j)=true->F j (b.eval (.tmp (ds.getD j 0))) x)->
   (abg ds b id o.guard True/\o.wp P b x (fun b' x'=>∃y,b'=b.put o.dst y/\A x'/\F k y x'/\R x x') Q)\/(abg ds b not o.guard False/\F k undef x/\R x x)
def pF (P:Program)(Q:Exit->Act->World->Prop)(a:Act)(ds:List Nat)(A:World->Prop)(R:World->World->Prop)(F:Nat->Value->World->Prop):Nat->List Oper->Prop
 |_,[]=>True
 |k,o::r=>Km P Q a ds A R F k o/\pF P Q a ds A R F (k+1) r
theorem pF.at {a:Act}{ds:List Nat}{A:World->Prop}{R:World->World->Prop}{F:Nat->Value->World->Prop}:∀{r:List Oper}{k:Nat},pF P Q a ds A R F k r->∀i o,r[i]?=some o->Km P Q a ds A R F (k+i) o
 |[],_,_,i,o,h=>by simp at h
 |q::r,k,h,0,o,e=>by cases e;exact h.1
 | q::r,k,h,i+1,o,e=>by
   have:=pF.at h.2 i o (by simpa using e)
   rwa [show k+1+i=k+(i+1)by omega]at this
theorem gB {id:Nat}{a:Act}{w:World}{l:List Oper}(ss ds:List Nat)(A:World->Prop)(R:World->World->Prop)(F:Nat->Value->World->Prop)(hm:P.follows .mixedOrders=true)(hB:VN l a.tmps.size ss ds=true)(hS:∀i∈ss,∀y x,F i y x->F i undef x)(h0:A w.drew)(hR:∀i y x x',R x x'->F i y x->F i y x')(hall:pF P Q a ds A R F 0 l)(hend:∀b x,A x->(∀j,j<l.length->F j (b.eval (.tmp (ds.getD j 0))) x)->b=ds.foldl (fun a' t=>a'.put (some t) (b.eval (.tmp t))) a->Q .normal b x):(Code.region id l.toArray true).wp P Q a w:=by
 simp only[VN,aj,decide_eq_true_eq,List.all_eq_true,List.mem_range]at hB
 obtain⟨⟨hdl,hnd⟩,hops⟩:=hB
 have hgd:∀i,i<l.length->ds[i]?=some (ds.getD i 0):=fun i hi=>by rw[af,ag (by omega)];rfl
 have hop:∀i o,l.toArray[i]?=some o->((ss.contains i=true->o.dst=none/\a.tmps.size<=ds.getD i 0)/\(ss.contains i=false->o.dst=some (ds.getD i 0)/\ds.getD i 0<a.tmps.size))/\(∀j v,o.guard=some (j,v)->j<l.length/\ss.contains j=false)/\(∀e∈o.after,Region.binds .any e=true->e.on<i)/\ds.getD i 0∈ds/\i<l.length:=by intro i o ho;have ho':l[i]?=some o:=by{simpa using ho};have hi:i<l.length:=(List.getElem?_eq_some_iff.1 ho').1;have h1:=hops i hi;rw[ho']at h1;simp only[aj,Array.all_eq_true',decide_eq_true_eq,Bool.or_eq_true,Bool.not_eq_true']at h1;obtain⟨⟨h2,h3⟩,h4⟩:=h1;refine⟨⟨fun e=>?_,fun e=>?_⟩,fun j v e=>?_,fun e he hbi=>(h4 e he).elim (fun h=>by rw[hbi]at h;cases h) (fun h=>h),List.mem_of_getElem? (hgd i hi),hi⟩;{rw[ax e]at h2;simpa using h2};{rw[ak (by rw[e];decide),hgd i hi]at h2;simpa using h2};rw[e]at h3;simpa using h3
 have hinj:∀i j,i<l.length->j<l.length->ds.getD i 0=ds.getD j 0->i=j:=by intro i j hi hj e;rw[af,af,ag (by omega),ag (by omega)]at e;have e':ds[i]'(by omega)=ds[j]'(by omega):=e;rcases Nat.lt_trichotomy i j with h|h|h;{exact absurd e' (List.pairwise_iff_getElem.1 hnd i j (by omega) (by omega) h)};{exact h};exact absurd e'.symm (List.pairwise_iff_getElem.1 hnd j i (by omega) (by omega) h)
 let I:Array Bool->Act->World->Prop:=fun q b x=>A x/\b.defers=a.defers/\b.tmps.size=a.tmps.size/\(∀t,t∉ds->b.eval (.tmp t)=a.eval (.tmp t))/\∀j,j<l.length->q.getD j false=true->F j (b.eval (.tmp (ds.getD j 0))) x
 have hsl:l.toArray.size=l.length:=by simp
 have hu:tQ l.length (Array.replicate l.toArray.size false)=l.length:=by
  have:∀m,m<=l.toArray.size->tQ m (Array.replicate l.toArray.size false)=m:=by
   intro m
   induction m with
   |zero=>intro _;rfl
   |succ m ih=>
    intro hm
    rw[ig,ih (by omega)]
    have:(Array.replicate l.toArray.size false).getD m true=false:=getD_in (by simp at hm ⊢;omega) (getD_replicate_false _ _)
    rw[ax this]
  exact this _ (by omega)
 have H := wpAny_all (P:=P) (Q:=Q) (md:= .any) (ops:=l.toArray) I (fun i o ho=>(hop i o ho).2.2.1)
   (fun q b x i o hq ho hi hun hafter hI=>by
     obtain⟨hA,hdf,hsize,hfr,hF⟩:=hI
     obtain⟨⟨hds,hdn⟩,hg,hb,hmem,hil⟩:=hop i o ho
     have AR:=hall.at i o (by simpa using ho)
     rw[Nat.zero_add]at AR
     have hwp:=AR b x hA hfr (fun j hj=>by
       obtain⟨e,he,hbe⟩:=Array.any_eq_true'.1 hj
       simp only[aj,beq_iff_eq]at hbe
       have h1:=hafter e he hbe.1
       have h2:=hb e he hbe.1
       rw[hbe.2]at h1 h2
       exact hF j (by omega) h1)
     have hcl:∀y x',A x'->F i y x'->R x x'->I (q.setIfInBounds i true) (b.put o.dst y) x':=fun y x' hA' hF' Gb=>by
       rcases es:ss.contains i with _|_
       · obtain⟨hd,hlt⟩:=hdn es
         rw[hd]
         have hlt':ds.getD i 0<b.tmps.size:=by rw[hsize];exact hlt
         refine⟨hA',hdf,by simpa[Act.put]using hsize,fun t ht=>?_,fun j hj hq'=>?_⟩
         · rw[gT _ _ _ _ hlt',ak (fun e=>ht (by rw[←e];exact hmem))]
           exact hfr t ht
         · rw[gT _ _ _ _ hlt']
           by_cases e:i=j
           · subst e
             rw[ax rfl]
             exact hF'
           · rw[ak (fun e2=>e (hinj i j hil hj e2))]
             rw[getD_set_ne false e]at hq'
             exact hR j _ x x' Gb (hF j hj hq')
       · obtain⟨hd,hge⟩:=hds es
         rw[hd]
         refine⟨hA',hdf,hsize,hfr,fun j hj hq'=>?_⟩
         by_cases e:i=j
         · subst e
           have h5:b.tmps[ds.getD i 0]?=none:=Array.getElem?_eq_none (by rw[hsize];exact hge)
           have h6:b.eval (.tmp (ds.getD i 0))=undef:=by
             show b.tmps.getD _ undef=undef
             rw[Array.getD_eq_getD_getElem?,h5]
             rfl
           show F i (b.eval (.tmp (ds.getD i 0))) x'
           rw[h6]
           exact hS i (by simpa using es) _ _ hF'
         · rw[getD_set_ne false e]at hq'
           exact hR j _ x x' Gb (hF j hj hq')
     have hy:∀j v u,o.guard=some (j,v)->b.eval (.tmp (ds.getD j 0))= .bool u->Region.wanted o (yielded l.toArray b.tmps)=(u==v):=fun j v u hj hu=>by
       obtain⟨hjn,hjs⟩:=hg j v hj
       obtain⟨⟨-,hd2⟩,-⟩:=hop j (l.toArray[j]'(by omega)) (Array.getElem?_eq_getElem (by omega))
       obtain⟨hd2,hlt2⟩:=hd2 hjs
       have h4:b.tmps[ds.getD j 0]?=some (.bool u):=by
         rw[←hsize]at hlt2
         rw[←hu]
         generalize ds.getD j 0=t at hlt2 ⊢
         simp[Act.eval,hlt2]
       have h6:yielded l.toArray b.tmps j=some u:=by
         unfold yielded
         rw[Array.getElem?_eq_getElem (by omega)]
         simp only[Option.bind_some,hd2,h4]
       unfold Region.wanted
       rw[hj]
       simp only[h6]
       cases u<;>cases v<;>rfl
     unfold wpOp
     simp only[ho]
     rcases hwp with⟨hw1,hwp⟩|⟨hw1,hF',Gb⟩
     · have hw:Region.wanted o (yielded l.toArray b.tmps)=true:=by
         rcases hgo:o.guard with _|⟨j,v⟩
         · simp[Region.wanted,hgo]
         · rw[hgo]at hw1
           rw[hy j v v hgo hw1]
           cases v<;>rfl
       rw[ax hw]
       refine .inl (Oper.wp_mono (fun b' x' h'=>?_) hwp)
       obtain⟨y,rfl,hA',hF',Gb⟩:=h'
       exact hcl y x' hA' hF' Gb
     · have hw:¬Region.wanted o (yielded l.toArray b.tmps)=true:=by
         rcases hgo:o.guard with _|⟨j,v⟩
         · rw[hgo]at hw1
           exact hw1.elim
         · rw[hgo]at hw1
           rw[hy j v (!v) hgo hw1]
           cases v<;>decide
       rw[ak hw]
       exact hcl undef x hA hF' Gb)
   (fun q b x hq kW hI=>by
     obtain⟨hA,hdf,hsize,hfr,hF⟩:=hI
     have hqs:q.size=l.length:=by rw[hq,hsl]
     have hF2:∀j,j<l.length->F j (b.eval (.tmp (ds.getD j 0))) x:=fun j hj=>hF j hj (by
       have:=kW j (by omega)
       have h1:j<q.size:=by omega
       simp[h1]at this ⊢
       exact this)
     have hbf:b=ds.foldl (fun a' t=>a'.put (some t) (b.eval (.tmp t))) a:=by
       obtain⟨s1,s2,s3⟩:=kL (fun t=>b.eval (.tmp t)) ds a
       have ht:b.tmps=(ds.foldl (fun a' t=>a'.put (some t) (b.eval (.tmp t))) a).tmps:=by
         apply Array.ext_getElem?
         intro t
         rw[s3 t]
         by_cases e:t<a.tmps.size
         · have eb:b.tmps[t]?=some (b.eval (.tmp t)):=by
             have h1:t<b.tmps.size:=by omega
             simp[Act.eval,h1]
           by_cases e2:t∈ds
           · rw[ax ⟨e2,e⟩,eb]
           · rw[ak (fun h=>e2 h.1),eb,hfr t e2]
             simp[Act.eval,e]
         · rw[ak (fun h=>e h.2),Array.getElem?_eq_none (by omega),Array.getElem?_eq_none (by omega)]
       have e3:∀c d:Act,c.tmps=d.tmps->c.defers=d.defers->c=d:=by
         rintro⟨c1,c2⟩ ⟨d1,d2⟩ h1 h2
         simp only at h1 h2
         rw[h1,h2]
       exact e3 _ _ ht (hdf.trans s2.symm)
     exact hend b x hA hF2 hbf)
   l.length (Array.replicate l.toArray.size false) a w.drew (by simp) (by rw[hsl];exact hu) ⟨h0,rfl,rfl,fun t _=>rfl,fun j hj h=>by rw[getD_replicate_false]at h;cases h⟩
 rw[←hsl]at H
 exact wp_region_any hm H
def PF (ps:Nat->Value->World->Prop)(l:List (Option Value))(j:Nat)(y:Value)(x:World):Prop:=
 match l.getD j none with
 |some v=>y=v
 |none=>ps j y x
theorem PF.stable {R:World->World->Prop}{ps:Nat->Value->World->Prop}{l:List (Option Value)}(h:∀i y x x',R x x'->ps i y x->ps i y x')(i:Nat)(y:Value)(x x':World)(hr:R x x')(hf:PF ps l i y x):PF ps l i y x':=by unfold PF at hf ⊢;split at hf;{exact hf};exact h i y x x' hr hf
end
namespace Mn
open Hg
variable {fs : List Fn} {d : ByteArray} {k fu : Int} {args : List Int}
theorem wZ (h:isOk fs d k args fu=true){m:Int}(h0:0<=m)(h1:m<=3000):isOk fs d k args m=true:=by obtain⟨a,b,c,e,-⟩:=iX.1 h;exact iX.2 ⟨a,b,c,e,h0,h1⟩
theorem Ma (h:isOk fs d k args fu=true):code fs d k args fu=(out fs d k args fu.toNat).code/\value fs d k args fu=(out fs d k args fu.toNat).value/\kY fs d k args fu=(out fs d k args fu.toNat).mem/\dC fs d k args fu=fu-(out fs d k args fu.toNat).left:=by unfold code value kY dC;simp only[ax h,and_self]
structure abp (fs:List Fn)(d:ByteArray)(k:Int)(args:List Int)(fu cd vv bn:Int)(E:List Int):Prop where
 c7:cd≠7
 b0:0<=bn
 b1:bn<=fu
 v0:cd≠0->vv=0
 mm:Mm.ok E=true
 wd:Wd.ok vv=true
 lack:cd=5->bn=fu
 less:fu<=3000
 same:cd≠5->∀m:Int,bn<=m->m<=3000->code fs d k args m=cd/\value fs d k args m=vv/\kY fs d k args m=E
 few:cd≠5->bn≠0->code fs d k args (bn-1)=5
theorem afh (h:isOk fs d k args fu=true):abp fs d k args fu (code fs d k args fu) (value fs d k args fu) (dC fs d k args fu) (kY fs d k args fu):=by obtain⟨e1,e2,e3,e4⟩:=Ma h;obtain⟨-,-,-,-,f0,f1⟩:=iX.1 h;have hf:=qp h fu.toNat;have hl:=pJ fs d k args fu.toNat;have hec:=wO h fu.toNat;rw[e1,e2,e3,e4];refine⟨?_,by omega,by omega,?_,?_,?_,?_,f1,?_,?_⟩;{rcases hr:out fs d k args fu.toNat with⟨v,m,l⟩|⟨c,m,l⟩;{simp[Rs.code]};rw[hr]at hf;obtain⟨-,h1,h2⟩:=hf;show c≠7;omega};{rcases hr:out fs d k args fu.toNat with⟨v,m,l⟩|⟨c,m,l⟩;{exact fun h=>absurd rfl h};exact fun _=>rfl};{rcases hr:out fs d k args fu.toNat with⟨v,m,l⟩|⟨c,m,l⟩;{rw[hr]at hf;exact hf.2};rw[hr]at hf;exact hf.1};{rcases hr:out fs d k args fu.toNat with⟨v,m,l⟩|⟨c,m,l⟩;{rw[hr]at hf;exact hf.1};rfl};{intro h5;have:=(Aj (e:=0) (fun he=>(hec.1 he) h5)).1;omega};{intro h5 m hb hm;have hok:=wZ h (m:=m) (by omega) hm;obtain⟨m1,m2,m3,-⟩:=Ma hok;rw[m1,m2,m3];exact(zI (hec.2 h5) m.toNat).1 (by omega) (by omega)};intro h5 hb;have hok:=wZ h (m:=fu-(out fs d k args fu.toNat).left-1) (by omega) (by omega);rw[(Ma hok).1];have hn:=(zI (hec.2 h5) (fu-(out fs d k args fu.toNat).left-1).toNat).2 (by omega);have h6:=wO hok (fu-(out fs d k args fu.toNat).left-1).toNat;by_cases q:(out fs d k args (fu-(out fs d k args fu.toNat).left-1).toNat).code=5;{exact q};exact absurd (h6.2 q) hn
end Mn
end Go.Proofs.YthpdpoocigpccaaGreatDoor
