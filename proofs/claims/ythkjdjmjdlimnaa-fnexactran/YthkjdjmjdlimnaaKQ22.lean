/-
  Own texts for a law: RwA1 ShpB
-/
import Derived.Test.YthkjdjmjdlimnaaKQ20
namespace Go.Proofs.Ythkjdjmjdlimnaa
open Go.RowKit Go.Shelf
set_option linter.all false
set_option maxRecDepth 100000
set_option maxHeartbeats 16000000
theorem E5 {c:RC}{W0:World}{q:RQ}{aM:Nat}{bx mem:List Int}{m:Nat}{wr:World}{p dd a b nn:Int}{l:List Int}(Q:nN c W0 q)(di:Hid (RI c W0 q aM bx mem (m+1) wr))(HST:Hid (Rl.line c.cs q.k aM=⟨p,dd,a,b,nn,l⟩/\Ln.ok ⟨p,dd,a,b,nn,l⟩=true))(HP:Hid (p=3)):gy c W0 q aM bx mem m wr:=by unfold gy;intros;rename_i kv;have HK:=ae (kv.out m (Nat.le_refl _));clear kv;(conv=>arg 2;whnf);have hG:=di.out.good;have hlB:=hG.lB;have hM:=di.out.m;have b2:=(hM.wk.box.2 2 _ rfl).1;have nZ:=(hM.wk.box.2 2 _ rfl).2;have BA:m+1<=200000:=di.out.nb;have bG:=ae (hM.aF Q m);clear hM;go_upto_region 11 with fail;obtain⟨W1,hW1⟩:∃W1,wr.setCell ⟨c.B,2,none⟩ (.int .i64 (m:Int))=W1:=⟨_,rfl⟩;rw[hW1]at bG ⊢;clear hW1 b2 nZ;obtain⟨gQ,gT,iW⟩:=Q.line bG.out.wk.bV hG.lt;rw[HST.out.1]at iW;obtain⟨z0,z1,z2,z3,z4,la,ll,dN,z5,hil⟩:=iW;simp only at z0 z1 z2 z3 z4 hil;have ky:q.ln<=300:=by{have:=(Q.lines W1 bG.out.wk.bV).1;have:=Rl.aW (Q.tab.val.ok q.k Q.lt);omega};have mU:(aM:Int)<(q.ln:Int):=by{omega};have hal:=aB W1 (.cells #[.int .i64 p, .int .i64 dd, .int .i64 a, .int .i64 b, .int .i64 nn, .slice la ll dN] 53);have bD:=ae (bG.out.kept hal);have iR:=ae (hil.kept hal);have aU:Hid (bC (W1.alloc (.cells #[.int .i64 p, .int .i64 dd, .int .i64 a, .int .i64 b, .int .i64 nn, .slice la ll dN] 53)) W1.heap.size [.int .i64 p, .int .i64 dd, .int .i64 a, .int .i64 b, .int .i64 nn, .slice la ll dN]):=bC.new W1 [.int .i64 p, .int .i64 dd, .int .i64 a, .int .i64 b, .int .i64 nn, .slice la ll dN] 53;clear hil;go_upto_region 14 with fail;obtain⟨W2,hW2⟩:∃W2,W1.alloc (.cells #[.int .i64 p, .int .i64 dd, .int .i64 a, .int .i64 b, .int .i64 nn, .slice la ll dN] 53)=W2:=⟨_,rfl⟩;rw[hW2]at bD aU iR ⊢;have s1:=(aU.out.2 1 _ rfl).1;have s2:=(aU.out.2 2 _ rfl).1;have s3:=(aU.out.2 3 _ rfl).1;have s4:=(aU.out.2 4 _ rfl).1;have s5:=(aU.out.2 5 _ rfl).1;have hsb:=aU.out.1;obtain⟨sb,aZ⟩:∃sb,W1.heap.size=sb:=⟨_,rfl⟩;rw[aZ]at s1 s2 s3 s4 s5 hsb aU ⊢;have og:q.gb<sb:=by{rw[←aZ];exact bG.out.gb.2};obtain⟨g1,g2⟩:=bD.out.gb;have iB:=Q.bL;have iM:=Q.uj;have kW:=ae (aj di.out bD.out);have hok:=HST.out.2;clear hal hW2 aZ bG z0 z1 z2 z3 z4 z5 gQ gT;obtain rfl:=HP.out;simp[Ln.ok,Ln.asks,Wd.bf,Ln.bN]at hok;obtain⟨dn,rfl⟩:∃dn:Nat,dd=(dn:Int):=⟨dd.toNat,by omega⟩;have hdn:dn<40:=by{omega};have A8:(dn:Int)<40:=by{omega};obtain⟨an,rfl⟩:∃an:Nat,a=(an:Int):=⟨a.toNat,by omega⟩;have jv:an<40:=by{omega};have yJ:(an:Int)<40:=by{omega};obtain⟨bn,rfl⟩:∃bn:Nat,b=(bn:Int):=⟨b.toNat,by omega⟩;have hbn:bn<40:=by{omega};have Rj:(bn:Int)<40:=by{omega};have tan:=bD.out.box hlB jv;obtain⟨u,hu⟩:∃u,bx.getD an 0=u:=⟨_,rfl⟩;rw[hu]at tan;have HU:=ae hu;clear hu;have vZ:=bD.out.box hlB hbn;obtain⟨v,hv⟩:∃v,bx.getD bn 0=v:=⟨_,rfl⟩;rw[hv]at vZ;have HV:=ae hv;clear hv;have yQ:Hid (Wd.ok u=true):=by{rw[←HU.out];exact Mn.bg di.out.good.wB _};have qV:Hid (Wd.ok v=true):=by{rw[←HV.out];exact Mn.bg di.out.good.wB _};obtain⟨x,hx⟩:∃x:Int,Wd.dv nn u v=x:=⟨_,rfl⟩;obtain⟨y,hy⟩:∃y:Int,Wd.dc nn u v=y:=⟨_,rfl⟩;have HX:=ae hx;have HY:=ae hy;have hcon:∀p:bF W2,Calls Try.prog 35 #[.int .i64 nn, .int .i64 u, .int .i64 v] p.to fun e w'=>e= .returned (.tuple #[.int .i64 x, .int .i64 y])/\Below p.to.heap.size p.to w':=fun p=>by{refine(yz nn u v p.to).mono ?_;rintro e w' ⟨rfl,qq,rfl⟩;rw[hx,hy];exact⟨rfl,pR _ _⟩};clear hx hy hok s5;go_wp2_with fail;have iT:∀p:bF W2,p.to.cell? ⟨sb,1,none⟩=some (.int .i64 (dn:Int)):=fun p=>(p.h.cell (p:=⟨sb,1,none⟩) hsb).trans s1;have jD:∀p:bF W2,p.to.cell? ⟨sb,2,none⟩=some (.int .i64 (an:Int)):=fun p=>(p.h.cell (p:=⟨sb,2,none⟩) hsb).trans s2;have Ba:∀p:bF W2,p.to.cell? ⟨sb,3,none⟩=some (.int .i64 (bn:Int)):=fun p=>(p.h.cell (p:=⟨sb,3,none⟩) hsb).trans s3;have xq:∀p:bF W2,p.to.cell? ⟨sb,4,none⟩=some (.int .i64 nn):=fun p=>(p.h.cell (p:=⟨sb,4,none⟩) hsb).trans s4;have iw:∀p:bF W2,p.to.cell? ⟨q.gb,an,none⟩=some (.int .i64 u):=fun p=>(p.h.cell (p:=⟨q.gb,an,none⟩) g2).trans tan;have uq:∀p:bF W2,p.to.cell? ⟨q.gb,bn,none⟩=some (.int .i64 v):=fun p=>(p.h.cell (p:=⟨q.gb,bn,none⟩) g2).trans vZ;have hne:=bF.any W2;clear s1 s2 s3 s4 tan vZ;refine bP (by kernel_rfl) (by kernel_rfl) ?_;(repeat(go_big_quiet_step (first|(go_at_call 35;exact bi (hcon _)))));refine wpQuiet_nil ?_;rintro _ ⟨pw,rfl⟩;have dQ:=ae (bD.out.kept pw.h);have hsb:=ai hsb pw.h.size;have g2:=ai g2 pw.h.size;have s1:=iT pw;have s2:=jD pw;have s3:=Ba pw;have s4:=xq pw;have tan:=iw pw;have vZ:=uq pw;obtain⟨W3,hV⟩:∃W3,pw.to=W3:=⟨_,rfl⟩;rw[hV]at dQ hsb g2 s1 s2 s3 s4 tan vZ ⊢;clear hV hne iT jD Ba xq iw uq;clear hcon;by_cases hy0:y=0;{subst hy0;have td:=dQ.out.box hlB hdn;have A9:=ae (dQ.out.jb Q dn x);have hf0:=dQ.out.br.frozenAt dn;go_wp2;obtain⟨gd,rn⟩:=kW.out.1.next Q (by unfold Rl.aT;rw[HST.out.1];show(if Wd.dc nn (bx.getD an 0) (bx.getD bn 0)=0 then Rl.Sr.next (aM+1) (bx.set dn (Wd.dv nn (bx.getD an 0) (bx.getD bn 0))) mem else Rl.Sr.halt (Wd.dc nn (bx.getD an 0) (bx.getD bn 0)))=_;rw[HU.out,HV.out,ax HY.out,HX.out]);apply HK.out (aM+1) (bx.set dn x) (mem);{exact⟨by omega,A9.out,gd,rn⟩};exact(by simp)};have hyb:(y==0)=false:=by{simpa using hy0};have HR:=ae (kW.out.1.halt (by unfold Rl.aT;rw[HST.out.1];show(if Wd.dc nn (bx.getD an 0) (bx.getD bn 0)=0 then Rl.Sr.next (aM+1) (bx.set dn (Wd.dv nn (bx.getD an 0) (bx.getD bn 0))) mem else Rl.Sr.halt (Wd.dc nn (bx.getD an 0) (bx.getD bn 0)))=_;rw[HU.out,HV.out,au (by rw[HY.out];exact hy0),HY.out]));have b3:=(dQ.out.wk.box.2 3 _ rfl).1;have Nb:=(dQ.out.wk.box.2 3 _ rfl).2;have HW:=ae (aj (dQ.out.wk.set Q.tab y).2 (dQ.out.bV.grow (aC W3 ⟨c.B,3,none⟩ (.int .i64 y)) (.inr (.inl rfl))));go_wp2;go_ret;rw[HR.out];exact⟨rfl,HW.out.1,HW.out.2⟩
theorem Ey {c:RC}{W0:World}{q:RQ}{aM:Nat}{bx mem:List Int}{m:Nat}{wr:World}{p dd a b nn:Int}{l:List Int}(Q:nN c W0 q)(di:Hid (RI c W0 q aM bx mem (m+1) wr))(HST:Hid (Rl.line c.cs q.k aM=⟨p,dd,a,b,nn,l⟩/\Ln.ok ⟨p,dd,a,b,nn,l⟩=true))(HP:Hid (p=5)):gy c W0 q aM bx mem m wr:=by unfold gy;intros;rename_i kv;have HK:=ae (kv.out m (Nat.le_refl _));clear kv;(conv=>arg 2;whnf);have hG:=di.out.good;have hlB:=hG.lB;have hM:=di.out.m;have b2:=(hM.wk.box.2 2 _ rfl).1;have nZ:=(hM.wk.box.2 2 _ rfl).2;have BA:m+1<=200000:=di.out.nb;have bG:=ae (hM.aF Q m);clear hM;go_upto_region 11 with fail;obtain⟨W1,hW1⟩:∃W1,wr.setCell ⟨c.B,2,none⟩ (.int .i64 (m:Int))=W1:=⟨_,rfl⟩;rw[hW1]at bG ⊢;clear hW1 b2 nZ;obtain⟨gQ,gT,iW⟩:=Q.line bG.out.wk.bV hG.lt;rw[HST.out.1]at iW;obtain⟨z0,z1,z2,z3,z4,la,ll,dN,z5,hil⟩:=iW;simp only at z0 z1 z2 z3 z4 hil;have ky:q.ln<=300:=by{have:=(Q.lines W1 bG.out.wk.bV).1;have:=Rl.aW (Q.tab.val.ok q.k Q.lt);omega};have mU:(aM:Int)<(q.ln:Int):=by{omega};have hal:=aB W1 (.cells #[.int .i64 p, .int .i64 dd, .int .i64 a, .int .i64 b, .int .i64 nn, .slice la ll dN] 53);have bD:=ae (bG.out.kept hal);have iR:=ae (hil.kept hal);have aU:Hid (bC (W1.alloc (.cells #[.int .i64 p, .int .i64 dd, .int .i64 a, .int .i64 b, .int .i64 nn, .slice la ll dN] 53)) W1.heap.size [.int .i64 p, .int .i64 dd, .int .i64 a, .int .i64 b, .int .i64 nn, .slice la ll dN]):=bC.new W1 [.int .i64 p, .int .i64 dd, .int .i64 a, .int .i64 b, .int .i64 nn, .slice la ll dN] 53;clear hil;go_upto_region 14 with fail;obtain⟨W2,hW2⟩:∃W2,W1.alloc (.cells #[.int .i64 p, .int .i64 dd, .int .i64 a, .int .i64 b, .int .i64 nn, .slice la ll dN] 53)=W2:=⟨_,rfl⟩;rw[hW2]at bD aU iR ⊢;have s1:=(aU.out.2 1 _ rfl).1;have s2:=(aU.out.2 2 _ rfl).1;have s3:=(aU.out.2 3 _ rfl).1;have s4:=(aU.out.2 4 _ rfl).1;have s5:=(aU.out.2 5 _ rfl).1;have hsb:=aU.out.1;obtain⟨sb,aZ⟩:∃sb,W1.heap.size=sb:=⟨_,rfl⟩;rw[aZ]at s1 s2 s3 s4 s5 hsb aU ⊢;have og:q.gb<sb:=by{rw[←aZ];exact bG.out.gb.2};obtain⟨g1,g2⟩:=bD.out.gb;have iB:=Q.bL;have iM:=Q.uj;have kW:=ae (aj di.out bD.out);have hok:=HST.out.2;clear hal hW2 aZ bG z0 z1 z2 z3 z4 z5 gQ gT;obtain rfl:=HP.out;simp[Ln.ok,Ln.asks,Ln.q0,Wd.bf]at hok;have hnn:0<=nn:=by{omega};clear hok;go_wp2;obtain⟨gd,rn⟩:=kW.out.1.next Q (by unfold Rl.aT;rw[HST.out.1];rfl);apply HK.out (nn.toNat) (bx) (mem);{exact⟨by omega,bD.out,gd,rn⟩};exact(by omega)
theorem jX (a:Option Addr)(len cap:Nat)(ls:List Ln)(v w:World)(hs:LL v a len ls)(hv:Below v.heap.size v w):Calls Try.prog 40 #[.slice a len cap] w fun e w'=>(Ln.isOk ls=false/\e= .returned (.tuple #[.slice none 0 0, .bool false])\/Ln.isOk ls=true/\∃g c,e= .returned (.tuple #[.slice (some ⟨g,0,none⟩) len c, .bool true])/\SR v w' w.heap.size g len c ls)/\Below w.heap.size w w':=by
 have hl:=hs.1
 have hm:=hs.2.1
 unfold maxLen at hm
 have hcon:=aR (len:Int) 1 300 w
 by_cases hin:1<=len/\len<=300
 rotate_left
 · have e:Wd.bL (len:Int) 1 300=false:=by{unfold Wd.bL;simp;omega};have HN:Hid (Ln.isOk ls=false):=Ln.qo (by omega);rw[e]at hcon;clear e hs hl hin;go_enter Try.func40,Try.ntmps40;go_wp2_with(go_at_call 26;refine hcon.mono ?_;rintro e w' ⟨rfl,aQ⟩;subst w';dsimp only);go_ret2;exact⟨.inl ⟨HN.out,rfl⟩,Below.refl _ _⟩
 have e:Wd.bL (len:Int) 1 300=true:=by unfold Wd.bL;simp;omega
 rw[e]at hcon
 clear e
 have Ou:(1:Int)<=(len:Int):=by omega
 have Qt:(len:Int)<=300:=by omega
 obtain⟨i0,hi,hz0,hz1,hz2⟩:=info_parts mR
 obtain⟨wm,hmk,hown,hgrow⟩:=run_make_own (P:=Try.prog) w w.heap.size 84 102 i0 _ 1 Try.underlying84 hi hz0 hz1 .i64 .i64 len (by rw[hz2];omega) (by simp only[maxLen];omega) (Nat.le_refl _)
 have HB0:=ae (gq hgrow)
 have DX:Hid (SR v wm w.heap.size w.heap.size 0 len (ls.take 0)):=⟨[],rfl,hown,fun j hj=>by omega⟩
 have HL:=ae hl
 obtain⟨R,hR⟩:∃R,Ln.isOk ls=R:=⟨_,rfl⟩
 have HR:Hid (R=(ls.all (Ln.fE len)&&Ln.iH ls)):=by show _=_;rw[←hR,Ln.BN (by omega),hl]
 rw[hR]
 obtain⟨-,-,h0|⟨b,off,rfl,hb,hx⟩⟩:=hs
 · omega
 have HX:Hid (∀j,j<len->LC v b (off+j*6) (ls.getD j .z)):=hx
 clear hx hR hown hgrow hl hin
 go_enter Try.func40,Try.ntmps40
 go_wp2_with(go_at_call 26;refine hcon.mono ?_;rintro e w' ⟨rfl,aQ⟩;subst w';dsimp only)
 go_loopw [5,18] (fun vs vi wr=>∃k g c:Nat,vs= .slice (some ⟨g,0,none⟩) k c/\vi= .int .i64 k/\k<=len/\Hid ((ls.take k).all (Ln.fE len)=true)/\SR v wr w.heap.size g k c (ls.take k)/\Below w.heap.size w wr) (fun _ i _=>len-(intOf i).toNat)
 case atStart=>exact⟨0,_,len,rfl,rfl,Nat.zero_le _,(by show _=_;simp),DX.out,HB0.out⟩
 case round=>
  obtain⟨k,g,c,rfl,rfl,hk,HA,mZ,hB⟩:=hrel
  clear hcon hmk DX HB0
  by_cases hlt:k<len
  · have gz:(k:Int)<(len:Int):=by omega
    have Rk:=hv.trans (hB.mono hv.size)
    have hb':b<wr.heap.size:=ai hb Rk.size
    have iW:=HX.out k hlt
    have hc:=iW.kept hb Rk
    have mZ:=ae mZ
    obtain⟨x,kV⟩:∃x,ls.getD k .z=x:=⟨_,rfl⟩
    rw[kV]at hc iW
    have OL:=ae kV
    clear kV
    obtain⟨c0,c1,c2,c3,c4,la,ln,lc,c5,hil⟩:=hc
    have iR:Hid (IL v la ln x.l):=by obtain⟨-,-,-,-,-,la',TS,JI,VH,Rm⟩:=iW;have e:=(Rk.cell (p:=⟨b,off+k*6+5,none⟩) hb).trans VH;rw[c5]at e;cases e;exact Rm
    have hB1:=aB wr (.cells #[.int .i64 x.k, .int .i64 x.d, .int .i64 x.a, .int .i64 x.b, .int .i64 x.n, .slice la ln lc] 53)
    have hcon:=kP x la ln lc _ (hil.kept hB1)
    have hB2:=hB.trans (hB1.mono hB.size)
    clear hil iW
    rcases hok:Ln.ok x with _|_
    · rw[EG hok]at hcon;have HF:Hid (R=false):=by{show _=_;rw[HR.out,Ln.jZ (by rw[HL.out];exact hlt) (by rw[OL.out];simp[Ln.fE,hok])];rfl};go_wp2_with fail;refine hcon.mono ?_;rintro e w2 ⟨rfl,hB3⟩;dsimp only;have hB4:=hB2.trans (hB3.mono hB2.size);clear hcon c0 c1 c2 c3 c4 c5 hB1 hB2 hB3;go_wp2;go_ret2;exact⟨.inl ⟨HF.out,rfl⟩,hB4⟩
    · have hkk:=Ln.eD hok
      have hpl:=jM x hkk.1 hkk.2 la ln lc (len:Int) (by omega) (by omega)
      obtain⟨T,u,Rn⟩:=xD hok la ln lc
      have esh:aY x (.slice la ln lc)= .iface T u:=by rw[←Al hok,Rn]
      have VI:=ae esh
      rw[Rn]at hcon
      simp only[esh]at hpl
      have hnil:=zU T u
      have HO:=ae (Ln.vQ (m:=len) hok)
      obtain⟨PL,Ro⟩:∃PL,Ln.place len x=PL:=⟨_,rfl⟩
      simp only[Ro]at hpl
      rw[Ro]at HO
      clear hok Rn esh Ro hkk
      cases PL with
      |false=>
       have HF:Hid (R=false):=by show _=_;rw[HR.out,Ln.jZ (by rw[HL.out];exact hlt) (by rw[OL.out];exact HO.out)];rfl
       go_wp2_with fail
       refine hcon.mono ?_
       rintro e w2 ⟨rfl,hB3⟩
       dsimp only
       have hB4:=hB2.trans (hB3.mono hB2.size)
       have gG:=hpl w2
       clear hcon c0 c1 c2 c3 c4 c5 hB1 hB2 hB3 hpl
       go_wp2_with(go_at_call 55;refine gG.mono ?_;rintro e w3 ⟨rfl,kz⟩;dsimp only;have qW:=hB4.trans (kz.mono hB4.size);clear hB4 kz)
       go_ret2
       exact⟨.inl ⟨HF.out,rfl⟩,qW⟩
      |true=>
       have HF:Hid ((ls.take (k+1)).all (Ln.fE len)=true):=by show _=_;rw[Ln.l6 HA.out (by rw[HL.out];exact hlt),OL.out];exact HO.out
       go_wp2_with fail
       refine hcon.mono ?_
       rintro e w2 ⟨rfl,hB3⟩
       dsimp only
       have hB4:=hB2.trans (hB3.mono hB2.size)
       have I7:=hB1.trans (hB3.mono hB1.size)
       have gG:=hpl w2
       clear hcon c0 c1 c2 c3 c4 c5 hB1 hB2 hB3 hpl
       have VJ:Hid ((ls.take k).length=k):=by show _=_;rw[List.length_take,HL.out];omega
       have Uf:=ae (Ln.xS (ls:=ls) (i:=k) (by rw[HL.out];exact hlt))
       rw[OL.out]at Uf
       have hg0:=mZ.out.lt
       go_wp2_with(first
         |(go_at_call 55;refine gG.mono ?_;rintro e w3 ⟨rfl,kz⟩;dsimp only;have qW:=hB4.trans (kz.mono hB4.size);have Nf:=I7.trans (kz.mono I7.size);have Ug:=ae (aB w3 (.cells #[.iface T u] 102));have Ot:=ae (qW.trans (Ug.out.mono qW.size));have VK:=ae ((mZ.out.kept Nf).kept Ug.out);have hc3:Hid ((w3.alloc (.cells #[.iface T u] 102)).cell? ⟨w3.heap.size,0,none⟩=some (.iface T u)):=(by show _=_;rw[World.cell?_alloc_at _ _ _ _ (by simp)];rfl);have Rp:=qW.size;clear hB4 kz I7 Nf)
         |(at_builtin;refine xZ _ v rfl _ _ rfl w.heap.size g k c (ls.take k) rfl VK.out VJ.out w3.heap.size rfl x la ln lc T u VI.out hc3.out iR.out (by omega) (by simp;omega) ?_;intro g1 c1 N1 w4 hN1 ho1 uk;have Rq:=ae (aj ho1 (aG Ot.out uk hg0.1));clear ho1 uk))
       rw[Uf.out]at Rq
       have hN:=hN1.out
       clear hN1
       subst hN
       go_roundw
       case rel=>exact⟨k+1,g1,c1,rfl,by simp,hlt,HF,Rq.out.1,Rq.out.2⟩
       case measure=>simp[intOf];omega
  · have hke:k=len:=by{omega};have Ng:Hid (R= !Ln.behind (ls.getD (len-1) .z)):=by{show _=_;have:=HA.out;rw[hke,←HL.out,List.take_length]at this;rw[HR.out,←HL.out,this,Bool.true_and,Ln.rU]};have gz:¬(k:Int)<(len:Int):=by{omega};have CL:Hid (Ln.ok (ls.getD (len-1) .z)=true):=by{show _=_;have h2:=HA.out;rw[hke,←HL.out,List.take_length,List.all_eq_true]at h2;have h3:=h2 (ls.getD (len-1) .z) (by rw[ag,ah (by rw[HL.out];omega)];exact List.getElem_mem _);unfold Ln.fE at h3;rw[ak]at h3;exact h3.1};rw[hke]at mZ;have wh:=mZ.cut (Nat.le_refl _);obtain⟨la,ln,lc,hc,hil⟩:=wh.cell (j:=len-1) (by omega);have yR:=ae wh;obtain⟨x,kV⟩:∃x,ls.getD (len-1) .z=x:=⟨_,rfl⟩;rw[kV]at hc hil Ng CL;have hkk:=Ln.eD CL.out;have hcon:=kH x hkk.1 hkk.2 la ln lc wr;have hg:=wh.lt;subst hke;have XT:(k:Int)-1=((k-1:Nat):Int):=by{omega};generalize aY x (.slice la ln lc)=sv at hc hcon;rcases OM:Ln.behind x with _|_;{rw[OM]at hcon Ng;clear OM hkk hil kV mZ wh HA CL;go_wp2_with(go_at_call 56;refine hcon.mono ?_;rintro e w5 ⟨rfl,kz⟩;dsimp only);go_ret2;exact⟨.inr ⟨Ng.out,g,c,rfl,yR.out.kept kz⟩,hB.trans (kz.mono hB.size)⟩};rw[OM]at hcon Ng;clear OM hkk hil kV mZ wh HA CL;go_wp2_with(go_at_call 56;refine hcon.mono ?_;rintro e w5 ⟨rfl,kz⟩;dsimp only);go_ret2;exact⟨.inl ⟨Ng.out,rfl⟩,hB.trans (kz.mono hB.size)⟩
end Go.Proofs.Ythkjdjmjdlimnaa
