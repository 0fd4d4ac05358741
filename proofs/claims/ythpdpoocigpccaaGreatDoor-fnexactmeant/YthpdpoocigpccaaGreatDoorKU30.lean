/-
  Own texts for a law of chapter 8: CalO CalZ Cal8
-/
import Derived.Test.YthpdpoocigpccaaGreatDoorKU24
import Derived.Test.YthpdpoocigpccaaGreatDoorKU25
import Derived.Test.YthpdpoocigpccaaGreatDoorKU26
import Derived.Test.YthpdpoocigpccaaGreatDoorKU27
import Derived.Test.YthpdpoocigpccaaGreatDoorKU28
import Derived.Test.YthpdpoocigpccaaGreatDoorKU29
namespace Go.Proofs.YthpdpoocigpccaaGreatDoor
open Go.RowKit Go.Shelf
set_option linter.unusedVariables false
set_option maxRecDepth 100000
set_option maxHeartbeats 16000000
def NewF (n₀:Nat) (y:Value) (x:World):Prop:=∃ g,y = .pointer (some ⟨g,0,none⟩) ∧ n₀ ≤ g ∧ Arr x g 76 [.int .i64 0,.int .i64 0,.int .i64 0,.slice none 0 0]
def OwnI (n₀:Nat) (xs:List Int) (n:Nat) (y:Value) (x:World):Prop:=∃ g cc,y = .slice (some ⟨g,0,none⟩) n cc ∧ x.ownsRow n₀ 2 1 (.slice (some ⟨g,0,none⟩) n cc) n (xs.map iv)
theorem row_same {W W':World} {n₀ e k n:Nat} {v:Value} {xs:List Value} (h:W.ownsRow n₀ e k v n xs) (hb:∀ g,v.ownBlock=some g → W'.heap[g]? = W.heap[g]?):W'.ownsRow n₀ e k v n xs:=by
 refine ⟨h.1,?_⟩
 rcases h.2 with hn | ⟨g,cap,cur,rfl,h1,h2,h3⟩
 · exact .inl hn
 · exact .inr ⟨g,cap,cur,rfl,h1,(hb g rfl).trans h2,h3⟩
theorem BoxL.same {W W':World} {b:Nat} {vs:List Value} (h:BoxL W b vs) (hs:W.heap.size ≤ W'.heap.size) (hb:W'.heap[b]? = W.heap[b]?):BoxL W' b vs:=by
 refine ⟨Nat.lt_of_lt_of_le h.1 hs,fun i x hx => ?_⟩
 obtain ⟨h1,h2⟩:=h.2 i x hx
 exact ⟨(World.cell?_of_block hb).trans h1,by unfold World.frozen?;rw [hb];exact h2⟩
theorem CM.call {c:WC} {W0:World} {q:CC} {pile loc mem mem':List Int} {n l gp cp:Nat} {x w:World} (Q:CQ c W0 q) (h:CM c W0 q pile loc mem n gp cp x) (hwk:WK c W0 w mem' l 0) (ha:Agr c x w):CM c W0 q pile loc mem' l gp cp w:=by
 obtain ⟨o1,o2,o3⟩:=h.co.ord
 have h4:=h.n4
 have iB:=Q.inB
 have iM:=Q.inM
 refine ⟨hwk,⟨h.co.fx.same ha.size (ha.blk _ (by omega) (by omega) (by omega)),row_same h.co.lr (fun g e => ?_),row_same h.co.pr (fun g e => ?_)⟩,h.n4,h.agr.trans ha⟩
 · simp only [Value.ownBlock,Option.some.injEq] at e
   subst e
   exact ha.blk _ (by omega) (by omega) (by omega)
 · simp only [Value.ownBlock,Option.some.injEq] at e
   subst e
   exact ha.blk _ (by omega) (by omega) (by omega)
theorem calArmO {c:WC} {W0:World} {q:CC} {at1:Nat} {pile loc mem:List Int} {m gp cp:Nat} {wr:World} {p a:Int} (Q:CQ c W0 q) (HIN:Hid (CI c W0 q at1 pile loc mem (m + 1) gp cp wr)) (HST:Hid (Nst.op (Mn.fn c.fs q.k).b at1=p ∧ Hg.arg (Mn.fn c.fs q.k).b at1=a ∧ St.ok p a=true))
   (HP:Hid (p=16)) (IH:CallOK c W0 m):CalGoO c W0 q at1 pile loc mem m gp cp wr:=by
 unfold CalGoO
 intros
 rename_i HK HK2
 conv => arg 2;whnf
 obtain ⟨j0,hj,hy0,hy1,hy2⟩:=info_parts info_int
 have hG:=HIN.out.good
 have hWK:=HIN.out.wk
 have hat:at1 < q.bl:=by have:=hG.lt;have:=Q.len;omega
 have hb80:=Q.b80
 have hpl:pile.length ≤ 20:=by
   have h1:=hG.here
   have h2:=(Q.tab.val.acc q.k Q.lt).top at1 hG.lt
   omega
 have b6:=(hWK.box.2 6 _ rfl).1
 have b6f:=(hWK.box.2 6 _ rfl).2
 have hm3:m + 1 ≤ 3000:=HIN.out.nb
 have HM1:=Hid.put (HIN.out.cm.fuel Q m)
 clear hWK
 go_upto_region 13 with fail
 obtain ⟨W1,hW1⟩:∃ W1,wr.setCell ⟨c.B,6,none⟩ (.int .i64 (m:Int))=W1:=⟨_,rfl⟩
 rw [hW1] at HM1 ⊢
 clear hW1 b6 b6f
 have x3:=(HM1.out.co.fx.2 3 _ rfl).1
 have hSL:=body_at Q HM1.out.wk.agr
 obtain ⟨-, -,hrow⟩:=hSL
 rcases hrow with h0 | ⟨bb,bo,eb,hbb,hxx⟩
 · omega
 obtain ⟨ebb,ebo⟩:q.bb=bb ∧ q.bo=bo:=by simpa using eb
 have z0:=(hxx at1 hat).1
 have z1:=(hxx at1 hat).2
 have e0:((Mn.fn c.fs q.k).b.getD at1 (0,0)).1=p:=HST.out.1
 have e1:((Mn.fn c.fs q.k).b.getD at1 (0,0)).2=a:=HST.out.2.1
 rw [e0,← ebb,← ebo] at z0
 rw [e1,← ebb,← ebo] at z1
 clear hxx eb ebb ebo e0 e1 hbb
 have hatZ:(at1:Int) < (q.bl:Int):=by omega
 have hal:=below_one W1 (.cells #[.int .i64 p,.int .i64 a] 78)
 have HM2:=Hid.put (HM1.out.kept hal)
 have HBX:Hid (BoxL (W1.alloc (.cells #[.int .i64 p,.int .i64 a] 78)) W1.heap.size [.int .i64 p,.int .i64 a]):=BoxL.new W1 [.int .i64 p,.int .i64 a] 78
 go_upto_region 19 with fail
 obtain ⟨W2,hW2⟩:∃ W2,W1.alloc (.cells #[.int .i64 p,.int .i64 a] 78)=W2:=⟨_,rfl⟩
 rw [hW2] at HM2 HBX ⊢
 have s0:=(HBX.out.2 0 _ rfl).1
 have s1:=(HBX.out.2 1 _ rfl).1
 have hsb:=HBX.out.1
 have h12:=HM1.out.agr.size
 obtain ⟨sb,hsbe⟩:∃ sb,W1.heap.size=sb:=⟨_,rfl⟩
 rw [hsbe] at s0 s1 hsb h12 HBX ⊢
 have hsl:gp < sb:=by rw [← hsbe];exact HM1.out.co.ord.2.2
 obtain ⟨o1,o2, -⟩:=HM2.out.co.ord
 have o4:=HM2.out.n4
 have iB:=Q.inB
 have iM:=Q.inM
 have HGR:=Hid.put (And.intro HIN.out HM2.out)
 clear hal hW2 hsbe HM1 x3 z0 z1
 obtain rfl:=HP.out
 have hcal:=(HGR.out.1.take Q).call HST.out.1
 rw [HST.out.2.1] at hcal
 have ha0:0 ≤ a:=by
   have:=HST.out.2.2
   simp only [St.ok,Bool.and_eq_true,Wd.in_iff] at this
   have h0:0 ≤ St.least 16:=by decide
   omega
 obtain ⟨k2,rfl⟩:=Int.eq_ofNat_of_zero_le ha0
 have hk2:k2 < c.fs.length:=by omega
 have hstep:=Mn.st16 (pile:=pile) (loc:=loc) (mem:=mem) HST.out.1 HST.out.2.1
 rw [Int.toNat_natCast] at hstep
 have F:Mn.Fine c.fs (Mn.fn c.fs q.k) (Mn.hts c.fs q.k) at1 loc mem (Mn.stepk c.fs q.k at1 pile loc mem):=Mn.step_fine (Md.okAll_getD Q.tab.val.all Q.lt) Q.tab.val.all (Q.tab.val.acc q.k Q.lt) hG
 rw [hstep] at F
 obtain ⟨F1,F2,F3,F4,F5⟩:=F
 have hfo:=Mn.fn_ok Q.tab.val hk2
 have htk:=(HGR.out.1.take Q).take
 rw [HST.out.1,HST.out.2.1,show Hg.tk c.fs 16 (k2:Int)=(Mn.fn c.fs k2).a by simp [Hg.tk,Mn.fn],← hG.here] at htk
 obtain ⟨na,hna⟩:∃ na:Nat,(Mn.fn c.fs k2).a=na:=⟨(Mn.fn c.fs k2).a.toNat,by omega⟩
 have hnat:(c.fs.getD k2 .z).a.toNat=na:=by show (Mn.fn c.fs k2).a.toNat=na;rw [hna];rfl
 rw [hnat] at hstep F2 F3 F4 F5
 obtain ⟨jj,hj1⟩:∃ jj,pile.length=jj + na:=⟨pile.length - na,by omega⟩
 have hcap:jj + na ≤ cp:=by rw [← hj1];exact row_cap HM2.out.co.pr
 have HJ:=Hid.put hj1
 have hn4:c.fs.length ≤ 4:=Q.tab.val.len.2
 have hna3:na ≤ 3:=by omega
 have hkZ:(k2:Int) < (c.fs.length:Int):=by omega
 obtain ⟨f0,f1,f2,ba,bl,bc,f3, -⟩:=fl_at (Q.tab.fl W2 HM2.out.wk.agr) hk2
 obtain ⟨fl,hfl⟩:∃ x,(Mn.fn c.fs k2).l=x:=⟨_,rfl⟩
 obtain ⟨fg,hfg⟩:∃ x,(Mn.fn c.fs k2).g=x:=⟨_,rfl⟩
 rw [hna] at f0
 rw [hfl] at f1
 rw [hfg] at f2
 have b0:=(HM2.out.wk.box.2 0 _ rfl).1
 have hBl:=HM2.out.wk.box.1
 have hfbl:c.fb < W2.heap.size:=block_lt_of_cell f0
 have HALL:=Hid.put (And.intro hstep (And.intro F2 (And.intro F3 (And.intro F4 (And.intro F5 (And.intro hna (And.intro hfg hfo)))))))
 rw [hj1] at hpl ⊢
 obtain ⟨AA,hAA⟩:∃ AA:Bool → World → Prop,AA=fun _ x => Below W2.heap.size W2 x:=⟨_,rfl⟩
 have hA0:AA false W2.drew:=by rw [hAA];exact (Below.refl _ _).drew
 have hAe:∀ {t:Bool} {x:World},AA t x → Below W2.heap.size W2 x:=fun h => by rw [hAA] at h;exact h
 have hAk:∀ {t t':Bool} {x x':World},AA t x → Below x.heap.size x x' → AA t' x':=fun h hB => by rw [hAA] at h ⊢;exact h.trans (hB.mono h.size)
 clear hAA hstep F1 F2 F3 F4 F5 hfo htk hna hnat hfl hfg hcal ha0 hj1
 go_wp2_with fail
 refine wp_region_phi4 10 [250,251,252,253,254,255,256,257,258,22] 9 AA (fun j y x => (j=9 → NewF W2.heap.size y x) ∧ (j ≠ 9 → y=[.pointer (some ⟨c.B,0,none⟩),.pointer (some ⟨c.B,0,none⟩),.pointer (some ⟨c.B,0,none⟩),.pointer (some ⟨c.B,0,none⟩),.slice (some ⟨c.fb,c.fo,none⟩) c.fs.length c.Fc,.pointer (some ⟨sb,1,none⟩),.int .i64 (k2:Int),.pointer (some ⟨c.fb,c.fo + k2 * 4,none⟩),.agg #[.int .i64 (na:Int),.int .i64 fl,.int .i64 fg,.slice ba bl bc],undef].getD j undef)) (by kernel_rfl) (by kernel_rfl) (by simp) hA0 ?_ ?_
 · simp only [List.take_succ_cons,List.take_zero]
   refine ⟨?_,?_,?_,?_,?_,?_,?_,?_,?_,?_,trivial⟩
   all_goals (intro t b x hA ht hm hfr hdf hdep;replace hdf:=Hid.put hdf)
   have e0:b.tmps[0]?.getD undef = .pointer (some ⟨c.B,0,none⟩):=by simpa [Act.eval] using hfr 0 (by decide)
   rotate_left
   have e250:b.tmps[250]?.getD undef = .pointer (some ⟨c.B,0,none⟩):=by simpa [Act.eval] using (hdep 0 (by kernel_rfl)).2 (by decide)
   rotate_left
   have e251:b.tmps[251]?.getD undef = .pointer (some ⟨c.B,0,none⟩):=by simpa [Act.eval] using (hdep 1 (by kernel_rfl)).2 (by decide)
   rotate_left
   have e252:b.tmps[252]?.getD undef = .pointer (some ⟨c.B,0,none⟩):=by simpa [Act.eval] using (hdep 2 (by kernel_rfl)).2 (by decide)
   rotate_left
   have e253:b.tmps[253]?.getD undef = .pointer (some ⟨c.B,0,none⟩):=by simpa [Act.eval] using (hdep 3 (by kernel_rfl)).2 (by decide)
   have y0:=((hAe hA).cell (p:=⟨c.B,0,none⟩) hBl).trans b0
   rotate_left
   have e13:b.tmps[13]?.getD undef = .pointer (some ⟨sb,0,none⟩):=by simpa [Act.eval] using hfr 13 (by decide)
   rotate_left
   have e255:b.tmps[255]?.getD undef = .pointer (some ⟨sb,1,none⟩):=by simpa [Act.eval] using (hdep 5 (by kernel_rfl)).2 (by decide)
   have y1:=((hAe hA).cell (p:=⟨sb,1,none⟩) hsb).trans s1
   rotate_left
   have e254:b.tmps[254]?.getD undef = .slice (some ⟨c.fb,c.fo,none⟩) c.fs.length c.Fc:=by simpa [Act.eval] using (hdep 4 (by kernel_rfl)).2 (by decide)
   have e256:b.tmps[256]?.getD undef = .int .i64 (k2:Int):=by simpa [Act.eval] using (hdep 6 (by kernel_rfl)).2 (by decide)
   rotate_left
   have e257:b.tmps[257]?.getD undef = .pointer (some ⟨c.fb,c.fo + k2 * 4,none⟩):=by simpa [Act.eval] using (hdep 7 (by kernel_rfl)).2 (by decide)
   have y0:=((hAe hA).cell (p:=⟨c.fb,c.fo + k2 * 4,none⟩) hfbl).trans f0
   have y1:=((hAe hA).cell (p:=⟨c.fb,c.fo + k2 * 4 + 1,none⟩) hfbl).trans f1
   have y2:=((hAe hA).cell (p:=⟨c.fb,c.fo + k2 * 4 + 2,none⟩) hfbl).trans f2
   have y3:=((hAe hA).cell (p:=⟨c.fb,c.fo + k2 * 4 + 3,none⟩) hfbl).trans f3
   rotate_left
   · unfold Oper.wp
     generalize hK:(fun (b':Act) (x':World) => ∃ y,_ ∧ _)=K
     simp only [execOp]
     go_simp
     rw [← hK]
     exact ⟨_,rfl,a_turn (hAk hA (below_one x _)),⟨fun _ => ⟨_,rfl,(hAe hA).size,heap_alloc_last x _⟩,fun e => absurd rfl e⟩,fun i z hi h => ⟨fun e => absurd e hi,h.2⟩⟩
   all_goals (unfold Oper.wp;generalize hK:(fun (b':Act) (x':World) => ∃ y,_ ∧ _)=K;simp only [execOp];go_simp;rw [← hK];exact ⟨_,rfl,a_keep hA,⟨fun e => absurd e (by decide),fun _ => rfl⟩,fun i z _ h => h⟩)
 · intro b x hA hF hb
   have e250:b.eval (.tmp 250) = .pointer (some ⟨c.B,0,none⟩):=(hF 0 (by decide)).2 (by decide)
   have e251:b.eval (.tmp 251) = .pointer (some ⟨c.B,0,none⟩):=(hF 1 (by decide)).2 (by decide)
   have e252:b.eval (.tmp 252) = .pointer (some ⟨c.B,0,none⟩):=(hF 2 (by decide)).2 (by decide)
   have e253:b.eval (.tmp 253) = .pointer (some ⟨c.B,0,none⟩):=(hF 3 (by decide)).2 (by decide)
   have e254:b.eval (.tmp 254) = .slice (some ⟨c.fb,c.fo,none⟩) c.fs.length c.Fc:=(hF 4 (by decide)).2 (by decide)
   have e255:b.eval (.tmp 255) = .pointer (some ⟨sb,1,none⟩):=(hF 5 (by decide)).2 (by decide)
   have e256:b.eval (.tmp 256) = .int .i64 (k2:Int):=(hF 6 (by decide)).2 (by decide)
   have e257:b.eval (.tmp 257) = .pointer (some ⟨c.fb,c.fo + k2 * 4,none⟩):=(hF 7 (by decide)).2 (by decide)
   have e258:b.eval (.tmp 258) = .agg #[.int .i64 (na:Int),.int .i64 fl,.int .i64 fg,.slice ba bl bc]:=(hF 8 (by decide)).2 (by decide)
   obtain ⟨ym,e22⟩:∃ z,b.eval (.tmp 22)=z:=⟨_,rfl⟩
   have hFM:NewF W2.heap.size ym x:=by
     rw [← e22]
     exact (hF 9 (by decide)).1 rfl
   simp only [List.foldl,e250,e251,e252,e253,e254,e255,e256,e257,e258,e22] at hb
   clear hF e250 e251 e252 e253 e254 e255 e256 e257 e258 e22
   subst hb
   simp only [List.drop_succ_cons,List.drop_zero]
   have hA1:AA true x:=by simpa using hA
   clear hA
   obtain ⟨fbx,rfl,hge,hfx⟩:=hFM
   have hB:=hAe hA1
   have o0:=hfx.cell (j:=0) rfl
   have o1':=hfx.cell (j:=1) rfl
   have o2':=hfx.cell (j:=2) rfl
   have o3:=hfx.cell (j:=3) rfl
   have g0:=hfx.frozen 0
   have g1:=hfx.frozen 1
   have g2:=hfx.frozen 2
   have g3:=hfx.frozen 3
   have HX:Hid (Below W2.heap.size W2 ((((x.setCell ⟨fbx,0,none⟩ (.int .i64 (na:Int))).setCell ⟨fbx,1,none⟩ (.int .i64 fl)).setCell ⟨fbx,2,none⟩ (.int .i64 fg)).setCell ⟨fbx,3,none⟩ (.slice ba bl bc)) ∧ Arr ((((x.setCell ⟨fbx,0,none⟩ (.int .i64 (na:Int))).setCell ⟨fbx,1,none⟩ (.int .i64 fl)).setCell ⟨fbx,2,none⟩ (.int .i64 fg)).setCell ⟨fbx,3,none⟩ (.slice ba bl bc)) fbx 76 [.int .i64 (na:Int),.int .i64 fl,.int .i64 fg,.slice ba bl bc]):=by
     have q1:=below_grownBy hB (grownBy_set' x ⟨fbx,0,none⟩ (.int .i64 (na:Int))) hge
     have q2:=below_grownBy q1 (grownBy_set' _ ⟨fbx,1,none⟩ (.int .i64 fl)) hge
     have q3:=below_grownBy q2 (grownBy_set' _ ⟨fbx,2,none⟩ (.int .i64 fg)) hge
     exact ⟨below_grownBy q3 (grownBy_set' _ ⟨fbx,3,none⟩ (.slice ba bl bc)) hge,(((hfx.set 0 _).set 1 _).set 2 _).set 3 _⟩
   clear hA1 hAe hAk hfx hB f0 f1 f2 f3 b0
   go_upto_region 62 with fail
   obtain ⟨W4,hW4⟩:∃ W4,((((x.setCell ⟨fbx,0,none⟩ (.int .i64 (na:Int))).setCell ⟨fbx,1,none⟩ (.int .i64 fl)).setCell ⟨fbx,2,none⟩ (.int .i64 fg)).setCell ⟨fbx,3,none⟩ (.slice ba bl bc))=W4:=⟨_,rfl⟩
   rw [hW4] at HX ⊢
   clear hW4 o0 o1' o2' o3 g0 g1 g2 g3
   have hB4:=HX.out.1
   have hF4:=HX.out.2
   have hfb4:=hF4.lt
   have HM4:=Hid.put (HM2.out.kept hB4)
   have x0:=hF4.cell (j:=0) rfl
   have hsb4:sb < W4.heap.size:=Nat.lt_of_lt_of_le hsb hB4.size
   have z1:=(hB4.cell (p:=⟨sb,1,none⟩) hsb).trans s1
   go_upto_region 63 with fail
   obtain ⟨off,cq,HOF⟩:∃ off cq,Hid ((cp=jj ∧ off=0 ∧ cq=0) ∨ (jj < cp ∧ off=jj ∧ cq=cp - jj)):=by
     by_cases e:cp=jj
     · exact ⟨0,0,.inl ⟨e,rfl,rfl⟩⟩
     · exact ⟨jj,cp - jj,.inr ⟨by omega,rfl,rfl⟩⟩
   have hilx:∀ x:World,Below W4.heap.size W4 x → IL x (some ⟨gp,off,none⟩) na (Mn.upper pile na):=fun x hx => by
     have hul:(Mn.upper pile na).length=na:=Mn.upper_len (by rw [HJ.out];omega)
     rcases HOF.out with ⟨e,ho,hc⟩ | ⟨e,ho,hc⟩
     · exact ⟨hul,by simp only [maxLen];omega,.inl (by omega)⟩
     · rw [ho]
       have hm:=HM4.out.kept hx
       refine ⟨hul,by simp only [maxLen];omega,.inr ⟨gp,jj,rfl,hm.co.ord.2.2,fun i hi => ?_⟩⟩
       have h1:=pile_at hm.co.pr rfl (j:=jj + i) (by rw [HJ.out];omega)
       rw [h1]
       unfold Mn.upper
       rw [List.getD_eq_getElem?_getD,List.getD_eq_getElem?_getD,List.getElem?_drop,HJ.out,show jj + na - na + i=jj + i by omega]
   obtain ⟨AA,hAA⟩:∃ AA:Bool → World → Prop,AA=fun _ x => Below W4.heap.size W4 x:=⟨_,rfl⟩
   have hA0:AA false W4.drew:=by rw [hAA];exact (Below.refl _ _).drew
   have hAe:∀ {t:Bool} {x:World},AA t x → Below W4.heap.size W4 x:=fun h => by rw [hAA] at h;exact h
   have hAk:∀ {t t':Bool} {x x':World},AA t x → Below x.heap.size x x' → AA t' x':=fun h hB => by rw [hAA] at h ⊢;exact h.trans (hB.mono h.size)
   have hqd:=Q.dp
   have hwr:IntKind.i64.wrap ((q.d:Int) + 1)=(q.d:Int) + 1:=by rw [IntKind.wrap_i64];omega
   have HXX:=Hid.put (And.intro hB4 hF4)
   clear hAA hB4 hF4 s0 s1 x0
   (try simp only [show ((jj + na:Nat):Int) - (na:Int)=(jj:Int) by omega])
   refine wp_region_phi4 9 [263,264,265,266,267,268,269,270,271] 6 AA (fun j y x => (j=6 → OwnI W4.heap.size (Mn.upper pile na) na y x) ∧ (j ≠ 6 → y=[.pointer (some ⟨c.B,0,none⟩),.pointer (some ⟨sb,1,none⟩),.int .i64 (k2:Int),.slice (some ⟨gp,0,none⟩) (jj + na) cp,.int .i64 (jj:Int),.slice (some ⟨gp,off,none⟩) na cq,undef,.int .i64 (q.d:Int),.int .i64 ((q.d:Int) + 1)].getD j undef)) (by kernel_rfl) (by kernel_rfl) (by simp) hA0 ?_ ?_
   · simp only [List.take_succ_cons,List.take_zero]
     refine ⟨?_,?_,?_,?_,?_,?_,?_,?_,?_,trivial⟩
     all_goals (intro t b x hA ht hm hfr hdf hdep;replace hdf:=Hid.put hdf)
     have e0:b.tmps[0]?.getD undef = .pointer (some ⟨c.B,0,none⟩):=by simpa [Act.eval] using hfr 0 (by decide)
     rotate_left
     have e13:b.tmps[13]?.getD undef = .pointer (some ⟨sb,0,none⟩):=by simpa [Act.eval] using hfr 13 (by decide)
     rotate_left
     have e264:b.tmps[264]?.getD undef = .pointer (some ⟨sb,1,none⟩):=by simpa [Act.eval] using (hdep 1 (by kernel_rfl)).2 (by decide)
     have y1:=((hAe hA).cell (p:=⟨sb,1,none⟩) hsb4).trans z1
     rotate_left
     have e11:b.tmps[11]?.getD undef = .slice (some ⟨gp,0,none⟩) (jj + na) cp:=by simpa [Act.eval] using hfr 11 (by decide)
     rotate_left
     have e23:b.tmps[23]?.getD undef = .int .i64 (jj:Int):=by simpa [Act.eval] using hfr 23 (by decide)
     rotate_left
     · have e266:b.tmps[266]?.getD undef = .slice (some ⟨gp,0,none⟩) (jj + na) cp:=by simpa [Act.eval] using (hdep 3 (by kernel_rfl)).2 (by decide)
       have e267:b.tmps[267]?.getD undef = .int .i64 (jj:Int):=by simpa [Act.eval] using (hdep 4 (by kernel_rfl)).2 (by decide)
       unfold Oper.wp
       generalize hK:(fun (b':Act) (x':World) => ∃ y,_ ∧ _)=K
       have h1:(jj:Int) ≤ (jj:Int) + (na:Int):=by omega
       rcases HOF.out with ⟨he,ho,hc⟩ | ⟨he,ho,hc⟩
       · obtain rfl:na=0:=by omega
         subst he ho hc
         simp only [execOp]
         go_simp
         rw [← hK]
         exact ⟨_,rfl,a_keep hA,⟨fun e => absurd e (by decide),fun _ => rfl⟩,fun i z _ h => h⟩
       · have h2:¬ cp=jj:=by omega
         subst ho hc
         simp only [execOp]
         go_simp
         rw [← hK]
         exact ⟨_,rfl,a_keep hA,⟨fun e => absurd e (by decide),fun _ => rfl⟩,fun i z _ h => h⟩
     · have e268:b.tmps[268]?.getD undef = .slice (some ⟨gp,off,none⟩) na cq:=by simpa [Act.eval] using (hdep 5 (by kernel_rfl)).2 (by decide)
       unfold Oper.wp
       generalize hK:(fun (b':Act) (x':World) => ∃ y,_ ∧ _)=K
       simp only [execOp]
       go_simp
       refine (spec_l1Copy_opt (some ⟨gp,off,none⟩) na cq (Mn.upper pile na) (by omega) x (hilx x (hAe hA))).mono ?_
       rintro e w' ⟨g,cc,rfl,hg1,hg2,hrw,hB⟩
       rw [← hK]
       exact ⟨_,rfl,a_turn (hAk hA hB),⟨fun _ => ⟨g,cc,rfl,row_mono hrw (hAe hA).size⟩,fun e => absurd rfl e⟩,fun i z hi h => ⟨fun e => absurd e hi,h.2⟩⟩
     have e3:b.tmps[3]?.getD undef = .int .i64 (q.d:Int):=by simpa [Act.eval] using hfr 3 (by decide)
     rotate_left
     have e270:b.tmps[270]?.getD undef = .int .i64 (q.d:Int):=by simpa [Act.eval] using (hdep 7 (by kernel_rfl)).2 (by decide)
     rotate_left
     all_goals (unfold Oper.wp;generalize hK:(fun (b':Act) (x':World) => ∃ y,_ ∧ _)=K;simp only [execOp];go_simp;rw [← hK];exact ⟨_,rfl,a_keep hA,⟨fun e => absurd e (by decide),fun _ => rfl⟩,fun i z _ h => h⟩)
   · intro b x hA hF hb
     have e263:b.eval (.tmp 263) = .pointer (some ⟨c.B,0,none⟩):=(hF 0 (by decide)).2 (by decide)
     have e264:b.eval (.tmp 264) = .pointer (some ⟨sb,1,none⟩):=(hF 1 (by decide)).2 (by decide)
     have e265:b.eval (.tmp 265) = .int .i64 (k2:Int):=(hF 2 (by decide)).2 (by decide)
     have e266:b.eval (.tmp 266) = .slice (some ⟨gp,0,none⟩) (jj + na) cp:=(hF 3 (by decide)).2 (by decide)
     have e267:b.eval (.tmp 267) = .int .i64 (jj:Int):=(hF 4 (by decide)).2 (by decide)
     have e268:b.eval (.tmp 268) = .slice (some ⟨gp,off,none⟩) na cq:=(hF 5 (by decide)).2 (by decide)
     have e270:b.eval (.tmp 270) = .int .i64 (q.d:Int):=(hF 7 (by decide)).2 (by decide)
     have e271:b.eval (.tmp 271) = .int .i64 ((q.d:Int) + 1):=(hF 8 (by decide)).2 (by decide)
     obtain ⟨ym,e269⟩:∃ z,b.eval (.tmp 269)=z:=⟨_,rfl⟩
     have hFM:OwnI W4.heap.size (Mn.upper pile na) na ym x:=by
       rw [← e269]
       exact (hF 6 (by decide)).1 rfl
     simp only [List.foldl,e263,e264,e265,e266,e267,e268,e269,e270,e271] at hb
     clear hF e263 e264 e265 e266 e267 e268 e269 e270 e271
     subst hb
     simp only [List.drop_succ_cons,List.drop_zero]
     have hA1:AA true x:=by simpa using hA
     clear hA
     obtain ⟨gA,cA,rfl,hrowA⟩:=hFM
     have hBx:=hAe hA1
     obtain ⟨hstep,F2,F3,F4,F5,hna,hfg,hfo⟩:=HALL.out
     have hupl:(Mn.upper pile na).length=na:=Mn.upper_len (by rw [HJ.out];omega)
     have hmx:=HM4.out.kept hBx
     have hilA:IL x (some ⟨gA,0,none⟩) na (Mn.upper pile na):=row_il hrowA hupl (by simp only [maxLen];omega)
     have hcall:=IH x k2 (q.d + 1) mem (Mn.upper pile na) (some ⟨gA,0,none⟩) cA hmx.wk (by have:=hmx.agr.size;omega) (by have:=hmx.agr.size;omega) hk2 (by omega) hG.mm F3 (by rw [hupl,hna]) (by rw [hupl];exact hilA) (by omega)
     rw [hupl] at hcall
     have hd1:((q.d + 1:Nat):Int)=(q.d:Int) + 1:=by omega
     rw [hd1] at hcall
     obtain ⟨R,hR⟩:∃ R,Mn.runAt c.fs m (q.d + 1) k2 (Mn.upper pile na) mem=R:=⟨_,rfl⟩
     rw [hR] at hcall
     have HRR:=Hid.put hR
     have HMX:=Hid.put hmx
     have hFx:=HXX.out.2.kept hBx
     have HFX:=Hid.put hFx
     have hfbx:=hFx.lt
     clear hA1 hAe hAk hilx hrowA hBx hmx hilA hR hd1 hwr hFx hstep F2 F3 F4 F5 hna hfg hfo hupl
     go_wp2_with fail
     refine hcall.mono ?_
     rintro e w5 ⟨rfl,hwk5,hag5⟩
     dsimp only
     obtain ⟨vv,hvv⟩:∃ v,R.value=v:=⟨_,rfl⟩
     obtain ⟨cd,hcd⟩:∃ v,R.code=v:=⟨_,rfl⟩
     obtain ⟨m2,hm2⟩:∃ v,R.mem=v:=⟨_,rfl⟩
     obtain ⟨l,hl⟩:∃ v,R.left=v:=⟨_,rfl⟩
     rw [hvv]
     rw [hcd,hm2,hl] at hwk5
     obtain ⟨hstep,F2,F3,F4,F5,hna,hfg,hfo⟩:=HALL.out
     have hupl:(Mn.upper pile na).length=na:=Mn.upper_len (by rw [HJ.out];omega)
     have hln:l ≤ m:=by
       rw [← hl,← HRR.out]
       unfold Mn.runAt
       split
       · exact Nat.le_refl _
       · exact (Mn.left_le _ _ _ _ _ _ _ _).1
     have hfine:R.fine:=by
       rw [← HRR.out]
       unfold Mn.runAt
       split
       · exact ⟨hG.mm,by omega,by omega⟩
       · exact Mn.run_fine Q.tab.val _ _ _ _ _ _ _ _ hk2 (Mn.good_start Q.tab.val hk2 (by rw [hupl,hna]) F3 hG.mm)
     have HRI:=Hid.put HGR.out.1.run
     have b7:=(hwk5.box.2 7 _ rfl).1
     have hmq:=HMX.out.agr.trans hag5
     rcases R with ⟨v,m1,l1⟩ | ⟨c1,m1,l1⟩
     · obtain rfl:v=vv:=hvv
       obtain rfl:0=cd:=hcd
       obtain rfl:m1=m2:=hm2
       obtain rfl:l1=l:=hl
       have hd12:¬ 12 ≤ q.d + 1:=by
         intro h
         have hR:=HRR.out
         unfold Mn.runAt at hR
         rw [if_pos h] at hR
         cases hR
       have hR':Mn.run c.fs (m + 1) m (q.d + 1) k2 0 [] (Mn.locs (Mn.fn c.fs k2) (Mn.upper pile na)) mem = .done v m1 l1:=by
         have hR:=HRR.out
         unfold Mn.runAt at hR
         rw [if_neg hd12] at hR
         exact hR
       have hback:=Mn.run_back (loc:=loc) hstep hd12 hR'
       have hgood:=F5 m1 hfine.2 (Mn.puts (Mn.fn c.fs k2) v) (Mn.puts_len (by rw [hfg];rw [hfg] at hfo;exact hfo.2.2.2.2.1) v) (Mn.puts_words hfine.1)
       have hless:Mn.less pile na=pile.take jj:=by
         unfold Mn.less
         rw [HJ.out,show jj + na - na=jj by omega]
       rw [hless] at hgood hback
       have hrun:Mn.run c.fs (l1 + 1) l1 q.d q.k (at1 + 1) (pile.take jj ++ Mn.puts (Mn.fn c.fs k2) v) loc m1=q.R:=by
         rw [← HRI.out,hback]
         exact Mn.run_gas _ _ _ _ _ _ _ _ _ (by omega) (by omega)
       have hcm5:=HMX.out.call Q hwk5 hag5
       have iB2:q.w.heap.size ≤ W2.heap.size:=HM2.out.agr.size
       have hX5:Arr w5 fbx 76 [.int .i64 (na:Int),.int .i64 fl,.int .i64 fg,.slice ba bl bc]:=(hag5.blk fbx hfbx (by omega) (by omega)).trans HFX.out
       have x2:=hX5.cell (j:=2) rfl
       have hg01:fg=0 ∨ fg=1:=by rw [← hfg];exact hfo.2.2.2.2.1
       have HPU:Hid (Mn.puts (Mn.fn c.fs k2) v=if fg=1 then [v] else []):=by
         show _=_
         unfold Mn.puts
         rw [hfg]
       have HKI:=Hid.put (And.intro hgood (And.intro hrun hln))
       have htl:(pile.take jj).length=jj:=by rw [List.length_take,HJ.out];omega
       have HTL:=Hid.put htl
       have HMC:=Hid.put (hcm5.cut jj (by rw [HJ.out];omega))
       have hcapj:jj ≤ cp:=by omega
       clear hstep F2 F3 F4 F5 hna hfg hfo hfine hR' hback hgood hless hrun hcm5 hX5 hwk5 hag5 hmq htl hln hupl HALL
       rcases hg01 with rfl | rfl
       · go_wp2
         obtain ⟨hgood,hrun,hln⟩:=HKI.out
         have hp:Mn.puts (Mn.fn c.fs k2) v=[]:=by have:=HPU.out;simpa using this
         rw [hp,List.append_nil] at hgood hrun
         (apply HK.out l1 hln (at1 + 1) (pile.take jj) loc m1 gp cp;exact HMC.out.ci (by omega) hgood hrun;exact HTL.out.symm;rfl;simp)
       · have HRW:Hid ((w5.alloc (.cells #[.int .i64 v] 2)).ownsRow (q.gl + 1) 2 1 (.slice (some ⟨gp,0,none⟩) jj cp) jj ((pile.take jj).map iv)):=by
           have:=HMC.out.co.pr.alloc (.cells #[.int .i64 v] 2)
           rw [HTL.out] at this
           exact this
         have hbo:=below_one w5 (.cells #[.int .i64 v] 2)
         have HM6:=Hid.put (HMC.out.kept hbo)
         obtain ⟨r1,r2,r3⟩:=HMC.out.co.ord
         clear hbo
         go_wp2_with (at_builtin;refine wpList_append_own _ rfl _ _ 27 rfl (q.gl + 1) 2 j0 (.int .i64 0) 1 8 Tryz.underlying27 hj hy0 hy1 hy2 rfl (by decide) _ _ _ rfl HRW.out ⟨w5.heap.size,0,none⟩ 1 1 [.int .i64 v] rfl rfl (one_news _ _ _ _ rfl) (by simp [Value.oneCell']) (by simp only [maxLen];omega) (by omega) (by simp;omega) ?_;intro v' wA hown' hgrow _;obtain ⟨g',cap',rfl⟩:=ownsRow_succ hown';have HF:=Hid.put (And.intro hown' hgrow);clear hown' hgrow)
         have hg:(w5.alloc (.cells #[.int .i64 v] 2)).grownBy wA (some gp):=HF.out.2
         have hown:wA.ownsRow (q.gl + 1) 2 1 (.slice (some ⟨g',0,none⟩) (jj + 1) cap') (jj + 1) ((pile.take jj ++ [v]).map iv):=by rw [List.map_append];exact HF.out.1
         have hlen2:(pile.take jj ++ [v]).length=jj + 1:=by rw [List.length_append,HTL.out];rfl
         obtain ⟨hgood,hrun,hln⟩:=HKI.out
         have hp:Mn.puts (Mn.fn c.fs k2) v=[v]:=by have:=HPU.out;simpa using this
         rw [hp] at hgood hrun
         (apply HK.out l1 hln (at1 + 1) (pile.take jj ++ [v]) loc m1 g' cap';exact (HM6.out.app Q hg hown hlen2).ci (by omega) hgood hrun;exact hlen2.symm;rfl;simp)
     · obtain rfl:0=vv:=hvv
       obtain rfl:c1=cd:=hcd
       obtain rfl:m1=m2:=hm2
       obtain rfl:l1=l:=hl
       have hc1:1 ≤ c1:=hfine.2.1
       have hbc:(c1 == 0)=false:=by simp;omega
       have HQR:Hid (q.R = .stop c1 m1 l1):=by
         show _=_
         rw [← HRI.out]
         have hR:=HRR.out
         unfold Mn.runAt at hR
         by_cases hd12:12 ≤ q.d + 1
         · rw [if_pos hd12] at hR
           rw [Mn.run_deep hstep hd12]
           exact hR
         · rw [if_neg hd12] at hR
           exact Mn.run_stop hstep hd12 hR
       have HW:=Hid.put (And.intro hwk5 hmq)
       clear hstep F2 F3 F4 F5 hna hfg hfo hfine hwk5 hag5 hmq hln hupl HALL
       go_wp2
       go_ret
       rw [HQR.out]
       exact ⟨rfl,HW.out.1,HW.out.2⟩
theorem calArmZ {c:WC} {W0:World} {q:CC} {at1:Nat} {pile loc mem:List Int} {gp cp:Nat} {wr:World} (Q:CQ c W0 q) (HIN:Hid (CI c W0 q at1 pile loc mem 0 gp cp wr)):CalGo0 c W0 q at1 pile loc mem gp cp wr:=by
 unfold CalGo0
 intros
 conv => arg 2;whnf
 have hWK:=HIN.out.wk
 have b6:=(hWK.box.2 6 _ rfl).1
 have b7:=(hWK.box.2 7 _ rfl).1
 have b7f:=(hWK.box.2 7 _ rfl).2
 have HR:Hid (q.R = .stop 5 mem 0):=by
   have:=HIN.out.run
   rw [← this]
   rfl
 have HW:=Hid.put (And.intro (HIN.out.wk.set Q.tab 5).2 (HIN.out.agr.grow (grownBy_set' wr ⟨c.B,7,none⟩ (.int .i64 5)) (.inr (.inl rfl))))
 clear hWK
 go_wp2
 go_ret
 rw [HR.out]
 exact ⟨rfl,HW.out.1,HW.out.2⟩
theorem calRound {c:WC} {W0:World} {q:CC} {at1:Nat} {pile loc mem:List Int} {m gp cp:Nat} {wr:World} {p a:Int} (Q:CQ c W0 q) (HIN:Hid (CI c W0 q at1 pile loc mem (m + 1) gp cp wr)) (HST:Hid (Nst.op (Mn.fn c.fs q.k).b at1=p ∧ Hg.arg (Mn.fn c.fs q.k).b at1=a ∧ St.ok p a=true))
   (IH:CallOK c W0 m):CalGoO c W0 q at1 pile loc mem m gp cp wr:=by
 have hp:=St.ok_kind HST.out.2.2
 have hk:p=1 ∨ p=2 ∨ p=3 ∨ p=4 ∨ p=5 ∨ p=6 ∨ p=7 ∨ p=8 ∨ p=9 ∨ p=10 ∨ p=11 ∨ p=12 ∨ p=13 ∨ p=14 ∨ p=15 ∨ p=16 ∨ p=17 ∨ p=18 ∨ p=19 ∨ p=20:=by omega
 rcases hk with hk | hk | hk | hk | hk | hk | hk | hk | hk | hk | hk | hk | hk | hk | hk | hk | hk | hk | hk | hk
 · exact (calG0 Q HIN HST (Hid.put (.inl hk)))
 · exact (calG0 Q HIN HST (Hid.put (.inr (.inl hk))))
 · exact (calG0 Q HIN HST (Hid.put (.inr (.inr (.inl hk)))))
 · exact (calG0 Q HIN HST (Hid.put (.inr (.inr (.inr (hk))))))
 · by_cases hc:Wd.dc a (Mn.under pile) (Mn.top pile)=0
   · exact (calG1 Q HIN HST (Hid.put (.inl ⟨hk,hc⟩)))
   · exact (calG1 Q HIN HST (Hid.put (.inr (.inl ⟨hk,hc⟩))))
 · exact (calG1 Q HIN HST (Hid.put (.inr (.inr (.inl hk)))))
 · exact (calG1 Q HIN HST (Hid.put (.inr (.inr (.inr (hk))))))
 · exact (calG2 Q HIN HST (Hid.put (.inl hk)))
 · exact (calG2 Q HIN HST (Hid.put (.inr (.inl hk))))
 · by_cases hc:Mn.top pile=0
   · exact (calG2 Q HIN HST (Hid.put (.inr (.inr (.inr (.inr (.inl ⟨hk,hc⟩)))))))
   · exact (calG2 Q HIN HST (Hid.put (.inr (.inr (.inr (.inl ⟨hk,hc⟩))))))
 · exact (calG2 Q HIN HST (Hid.put (.inr (.inr (.inr (.inr (.inr (hk))))))))
 · exact (calG3 Q HIN HST (Hid.put (.inl hk)))
 · exact (calG3 Q HIN HST (Hid.put (.inr (.inl hk))))
 · by_cases hc:Mn.top pile=0
   · exact (calG3 Q HIN HST (Hid.put (.inr (.inr (⟨hk,hc⟩)))))
   · exact (calG4 Q HIN HST (Hid.put (.inl ⟨hk,hc⟩)))
 · exact (calG4 Q HIN HST (Hid.put (.inr (.inl hk))))
 · exact calArmO Q HIN HST (Hid.put hk) IH
 · by_cases hc:Mm.there (Mn.top pile) a=true
   · exact (calG5 Q HIN HST (Hid.put (.inl ⟨hk,hc⟩)))
   · exact (calG5 Q HIN HST (Hid.put (.inr (.inl ⟨hk,hc⟩))))
 · by_cases hc:Mm.there (Mn.under pile) a=true
   · exact (calG5 Q HIN HST (Hid.put (.inr (.inr (.inl ⟨hk,hc⟩)))))
   · exact (calG5 Q HIN HST (Hid.put (.inr (.inr (.inr (⟨hk,hc⟩))))))
 · exact (calG4 Q HIN HST (Hid.put (.inr (.inr (hk)))))
 · exact (calG2 Q HIN HST (Hid.put (.inr (.inr (.inl hk)))))
end Go.Proofs.YthpdpoocigpccaaGreatDoor
