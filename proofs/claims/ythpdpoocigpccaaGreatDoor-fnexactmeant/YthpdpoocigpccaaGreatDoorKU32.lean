/-
  Own texts for a law of chapter 8: Srn3 Srn4 OutE Leb4
-/
import Derived.Test.YthpdpoocigpccaaGreatDoorKU01
import Derived.Test.YthpdpoocigpccaaGreatDoorKU08
import Derived.Test.YthpdpoocigpccaaGreatDoorKU24
import Derived.Test.YthpdpoocigpccaaGreatDoorKU31
namespace Go.Proofs.YthpdpoocigpccaaGreatDoor
open Go.RowKit Go.Shelf
set_option linter.unusedVariables false
set_option maxRecDepth 100000
set_option maxHeartbeats 16000000
theorem Mn.res_of {fs:List Fn} {d:ByteArray} (h:Hg.valid fs d=true) {k:Nat} (hk:k < fs.length):∃ mo,Hg.res fs (fs.getD k .z)=some (Mn.hts fs k,mo):=by
 unfold Hg.valid at h
 rw [Bool.and_eq_true] at h
 obtain ⟨hok,hall⟩:=h
 rw [List.all_eq_true] at hall
 have hs:=hall k (List.mem_range.2 hk)
 unfold Hg.heights at hs
 rw [if_pos ⟨hok,by omega,by omega⟩,Int.toNat_natCast] at hs
 obtain ⟨⟨H,mo⟩,hr⟩:=Option.isSome_iff_exists.1 hs
 refine ⟨mo,?_⟩
 have hh:Mn.hts fs k=H:=by unfold Mn.hts;rw [show Hg.res fs (Mn.fn fs k)=some (H,mo) from hr];rfl
 rw [hh]
 exact hr
theorem Mn.nest_of {fs:List Fn} {d:ByteArray} (h:Hg.valid fs d=true) {k:Nat} (hk:k < fs.length):Nst.isOk (Mn.fn fs k).b=true:=by
 obtain ⟨mo,hr⟩:=Mn.res_of h hk
 unfold Hg.res at hr
 rcases hio:Nst.isOk (fs.getD k .z).b with _ | _
 · rw [if_neg (by rw [hio];decide)] at hr
   cases hr
 · exact hio
theorem row_above {W:World} {n₀ n₁ e k g n c:Nat} {xs:List Value} (h:W.ownsRow n₀ e k (.slice (some ⟨g,0,none⟩) n c) n xs) (hg:n₁ ≤ g):W.ownsRow n₁ e k (.slice (some ⟨g,0,none⟩) n c) n xs:=by
 refine ⟨h.1,?_⟩
 rcases h.2 with ⟨h',_⟩ | ⟨g',cap,cur,h',h1,h2⟩
 · cases h'
 · cases h'
   exact .inr ⟨g,c,cur,rfl,hg,h2⟩
theorem OI.past {W wA:World} {n₀ n₁ B n k:Nat} {u v v2 x:Value} {xs:List Int} {vs bs:List Value} (ho:OI W n₀ x xs) (hrow:W.ownsRow n₁ 27 1 v k vs) (hg:(W.alloc (.cells #[u] 27)).grownBy wA v.ownBlock) (hbx:Arr wA B 64 bs):OI (wA.setCell ⟨B,n,none⟩ v2) n₀ x xs:=by
 have hb:=below_one W (.cells #[u] 27)
 have h1:OI wA n₀ x xs:=row_off' (b:=0) (row_kept2 ho hb) hg (fun g hx he => by
   obtain ⟨c1,e1⟩:=row_at ho hx
   obtain ⟨c2,e2⟩:=row_at hrow he
   rw [e1] at e2
   simp only [Option.some.injEq,Obj.cells.injEq] at e2
   exact absurd e2.2.1 (by decide))
 refine row_off' (b:=0) h1 (grownBy_set' wA ⟨B,n,none⟩ v2) (fun g hx he => ?_)
 obtain ⟨c1,e1⟩:=row_at h1 hx
 simp only [Option.some.injEq] at he
 subst he
 unfold Arr at hbx
 rw [hbx] at e1
 simp only [Option.some.injEq,Obj.cells.injEq] at e1
 exact absurd e1.2.1 (by decide)
theorem RT.tl {W:World} {n₀ b n c:Nat} {f:Nat → List Int} (h:RT W n₀ (.slice (some ⟨b,0,none⟩) n c) n f):TL W b 0 n f:=by
 intro k hk
 obtain ⟨vs,h1,h2⟩:=h
 obtain ⟨u,e,ho⟩:=h2 k hk
 obtain ⟨a,cc,rfl,hil⟩:=OI.slice ho
 refine ⟨a,_,cc,?_,hil⟩
 rw [Nat.zero_add,h1.cellAt (g:=b) k (by omega)]
 exact e
theorem tab_spec {wc:WC} {w Wt W0:World} {bs:List Value} (hfl:FL w (some ⟨wc.fb,wc.fo,none⟩) wc.fs.length wc.fs) (hfb:wc.fb < w.heap.size) (hwB:w.heap.size ≤ wc.B) (hBt:Below w.heap.size w Wt) (hbx:Arr Wt wc.B 64 bs) (hM:Wt.heap.size ≤ wc.M)
   (t1:RT Wt w.heap.size (.slice (some ⟨wc.hb,0,none⟩) wc.fs.length wc.Hc) wc.fs.length (Mn.hts wc.fs)) (t2:RT Wt w.heap.size (.slice (some ⟨wc.eb,0,none⟩) wc.fs.length wc.Ec) wc.fs.length (fun j => Nst.ends (Mn.fn wc.fs j).b)) (t3:RT Wt w.heap.size (.slice (some ⟨wc.ob,0,none⟩) wc.fs.length wc.Oc) wc.fs.length (fun j => Nst.elses (Mn.fn wc.fs j).b))
   (h1:wc.ho=0) (h2:wc.eo=0) (h3:wc.oo=0) (hg0:Wt.grownBy W0 (some wc.B)) (V:Mn.Val wc.fs):Tab wc W0:=by
 have hB:=hbx.lt
 have hs:=hBt.size
 have hg:∀ W,Agr wc W0 W → Wt.grownBy W (some wc.B):=fun W h => ⟨h.os.trans hg0.os,h.tape.trans hg0.tape,h.out.trans hg0.output,Nat.le_trans hg0.size h.size,fun i hi hne => (h.blk i (Nat.lt_of_lt_of_le hi hg0.size) (fun e => hne (by rw [e])) (by omega)).trans (hg0.block i hi hne)⟩
 refine ⟨fun W h => ?_,fun W h => ?_,fun W h => ?_,fun W h => ?_,V,by omega,⟨?_,by omega,by omega⟩⟩
 · exact hfl.kept (below_grownBy hBt (hg W h) hwB)
 · rw [h1]
   exact (t1.far (hg W h) hbx (by decide) (by decide)).tl
 · rw [h2]
   exact (t2.far (hg W h) hbx (by decide) (by decide)).tl
 · rw [h3]
   exact (t3.far (hg W h) hbx (by decide) (by decide)).tl
 · have:=hg0.size
   omega
theorem RT.some {W:World} {n₀ n:Nat} {v:Value} {f:Nat → List Int} (h:RT W n₀ v n f) (hn:0 < n):∃ b c,v = .slice (some ⟨b,0,none⟩) n c:=by
 obtain ⟨vs,h1, -⟩:=h
 rcases h1.2 with ⟨-,h0⟩ | ⟨g,cap,cur,rfl, -⟩
 · omega
 · exact ⟨g,cap,rfl⟩
theorem stopB {ops:Array Oper} {rest:List Oper} {o:Oper} {a:Act} {w:World} {Q:Exit → Act → World → Prop} (h:Still (wpList Tryz.prog ops Q (o :: rest) a w)):wpList Tryz.prog ops Q (o :: rest) a w:=h.1
section
variable {len cap fb fo:Nat} {fs:List Fn} {d:ByteArray} {w:World}
structure RunOK (w w':World) (R:Mn.Rs) (B:Nat):Prop where
 bel:Below w.heap.size w w'
 lt:B < w'.heap.size
 mem:∃ M c,w'.cell? ⟨B,5,none⟩=some (.slice (some ⟨M,0,none⟩) 64 c) ∧ w'.ownsRow w.heap.size 2 1 (.slice (some ⟨M,0,none⟩) 64 c) 64 (R.mem.map iv)
 fuel:w'.cell? ⟨B,6,none⟩=some (.int .i64 R.left)
 code:w'.cell? ⟨B,7,none⟩=some (.int .i64 R.code)
theorem l8Run_yes (hd:d.size ≤ maxLen) (hs:FL w (some ⟨fb,fo,none⟩) len fs) (kn nf:Nat) (b:Option Addr) (n c:Nat) (args:List Int) (hargs:IL w b n args) (hok:Mn.isOk fs d (kn:Int) args (nf:Int)=true) (R:Mn.Rs) (hR:Mn.out fs d (kn:Int) args nf=R) :
   Calls Tryz.prog 36 #[.agg #[.slice (some ⟨fb,fo,none⟩) len cap,.string d],.int .i64 kn,.slice b n c,.int .i64 nf] w fun e w' => ∃ B,e = .returned (.tuple #[.int .i64 R.value,.pointer (some ⟨B,0,none⟩),.bool true]) ∧ RunOK w w' R B:=by
 obtain ⟨hva,⟨h2,h3⟩,h4,h5,h6,h7⟩:=Mn.isOk_iff.1 hok
 rw [Int.toNat_natCast] at h4
 have V:=Mn.val_of hva
 have hd64:d.size ≤ 64:=by
   unfold Hg.valid Md.ok at hva
   simp only [Bool.and_eq_true,decide_eq_true_eq] at hva
   exact hva.1.1.2
 have hmok:Md.ok fs d=true:=by
   unfold Hg.valid at hva
   rw [Bool.and_eq_true] at hva
   exact hva.1
 obtain ⟨i0,hi,hz0,hz1,hz2⟩:=info_parts info_ints
 have hB1:=below_one w (.cells #[.slice (some ⟨fb,fo,none⟩) len cap,.string d] 26)
 have hM1:Arr (w.alloc (.cells #[.slice (some ⟨fb,fo,none⟩) len cap,.string d] 26)) w.heap.size 26 [.slice (some ⟨fb,fo,none⟩) len cap,.string d]:=heap_alloc_last w _
 obtain ⟨W1,hW1⟩:∃ W1,w.alloc (.cells #[.slice (some ⟨fb,fo,none⟩) len cap,.string d] 26)=W1:=⟨_,rfl⟩
 rw [hW1] at hB1 hM1
 have hB2:=below_one W1 (.cells #[.slice (some ⟨fb,fo,none⟩) len cap,.string d,.slice none 0 0,.slice none 0 0,.slice none 0 0,.slice none 0 0,.int .i64 (nf:Int),.int .i64 0] 64)
 have hX2:Arr (W1.alloc (.cells #[.slice (some ⟨fb,fo,none⟩) len cap,.string d,.slice none 0 0,.slice none 0 0,.slice none 0 0,.slice none 0 0,.int .i64 (nf:Int),.int .i64 0] 64)) W1.heap.size 64 (WB (some ⟨fb,fo,none⟩) len cap d (.slice none 0 0) (.slice none 0 0) (.slice none 0 0) (.slice none 0 0) nf):=heap_alloc_last W1 _
 obtain ⟨W2,hW2⟩:∃ W2,W1.alloc (.cells #[.slice (some ⟨fb,fo,none⟩) len cap,.string d,.slice none 0 0,.slice none 0 0,.slice none 0 0,.slice none 0 0,.int .i64 (nf:Int),.int .i64 0] 64)=W2:=⟨_,rfl⟩
 rw [hW2] at hB2 hX2
 have hM2:=hM1.kept hB2
 have hBw:Below w.heap.size w W2:=hB1.trans (hB2.mono hB1.size)
 have hLS2:LS w (some ⟨fb,fo,none⟩) len cap d (nf:Int) fs W1.heap.size 0 0 0 (.slice none 0 0) (.slice none 0 0) (.slice none 0 0) W2 :=
   ⟨hBw,hM2,hX2,RT.nil _ _ _,RT.nil _ _ _,RT.nil _ _ _,(fun g e => by cases e),(fun g e => by cases e),(fun g e => by cases e),hB1.size⟩
 have hcon:=spec_Valid (some ⟨fb,fo,none⟩) len cap fs d hd W2 (hs.kept hBw)
 rw [hva] at hcon
 have m0:=hM2.cell (j:=0) rfl
 have m1:=hM2.cell (j:=1) rfl
 have n0:=hM1.cell (j:=0) rfl
 have n1:=hM1.cell (j:=1) rfl
 have hll:=hs.1
 have hm:=hs.2.1
 have hnl:=hargs.1
 have hnm:=hargs.2.1
 unfold maxLen at hm hnm
 have hlen4:1 ≤ len ∧ len ≤ 4:=by have:=V.len;omega
 have hkn:kn < len:=by omega
 obtain ⟨Bw,hBwe⟩:∃ Bw,W1.heap.size=Bw:=⟨_,rfl⟩
 have HX:=Hid.put (And.intro hLS2 (And.intro hs (And.intro hargs hBwe)))
 have HA:=Hid.put (And.intro hva (And.intro h4 (And.intro h5 (And.intro V (And.intro hmok hR)))))
 clear hB1 hM1 hB2 hM2 hBw hs hargs hX2 hLS2 hva h4 h5 V hmok hR hok hBwe
 go_enter Tryz.func36,Tryz.ntmps36
 go_wp2_with fail
 refine hcon.mono ?_
 rintro e w3 ⟨rfl,hB3⟩
 dsimp only
 clear hcon m0 m1 n0 n1
 obtain ⟨hLS2,hs,hargs,hBwe⟩:=HX.out
 rw [hBwe] at hLS2 ⊢
 have hLS3:=hLS2.kept hB3
 have hfs3:=hs.kept hLS3.bel
 obtain ⟨hfl1,hfl2,h0 | ⟨fb',fo',he,hfl4,hfl5⟩⟩:=id hfs3
 · omega
 simp only [Option.some.injEq,Addr.mk.injEq,and_true] at he
 obtain ⟨rfl,rfl⟩:=he
 have m0:=hLS3.mod.cell (j:=0) rfl
 have m1:=hLS3.mod.cell (j:=1) rfl
 have f0:=(hfl5 kn hkn).1
 have hfa:(fs.getD kn .z).a=(n:Int):=by rw [← hnl];exact HA.out.2.1.symm
 rw [hfa] at f0
 have hkZ:(kn:Int) < (len:Int):=by omega
 have hnk:¬ (len:Int) ≤ (kn:Int):=by omega
 have hin:Wd.inB (nf:Int) 0 3000=true:=Wd.in_iff.2 ⟨h6,h7⟩
 have hil3:=hargs.kept hLS3.bel
 obtain ⟨-, -,hrow⟩:=id hil3
 have HNL:=Hid.put hnl
 have H3:=Hid.put (And.intro hLS3 (And.intro hfs3 hil3))
 have hBl3:=hLS3.box.lt
 clear hB3 hLS2 hs hargs hBwe hLS3 hfs3 hil3 hfl1 hfl2 hfl4 hfl5 hfa hll hnl h3
 go_wp2_with (go_at_call 39;refine (spec_l1In (nf:Int) 0 3000 _).mono ?_;rintro e w' ⟨rfl,hww⟩;subst w';rw [hin])
 go_loopw [12] (fun i wr => ∃ j:Nat,i = .int .i64 j ∧ j ≤ n ∧ wr=w3) (fun i _ => n - (intOf i).toNat)
 case atStart => exact ⟨0,rfl,Nat.zero_le _,rfl⟩
 case round =>
   obtain ⟨j,rfl,hj,rfl⟩:=hrel
   by_cases hlt:j < n
   · have hltZ:(j:Int) < (n:Int):=by omega
     rcases hrow with h0 | ⟨bb,bo,rfl,hbb,hxx⟩
     · omega
     have c0:=hxx j hlt
     obtain ⟨y,hy⟩:∃ y,args.getD j 0=y:=⟨_,rfl⟩
     rw [hy] at c0
     have hok:Wd.ok y=true:=by
       rw [← hy,List.getD_eq_getElem?_getD,List.getElem?_eq_getElem (by rw [HNL.out];exact hlt)]
       exact HA.out.2.2.1 _ (List.getElem_mem _)
     clear hy hxx
     go_wp2_with (go_at_call 17;refine (spec_WordOk _ _).mono ?_;rintro e w' ⟨rfl,hww⟩;subst w';rw [hok])
     go_roundw
     case rel => exact ⟨j + 1,by simp,by omega,by first | rfl | trivial⟩
     case measure => simp [intOf];omega
   · clear hrow f0
     go_wp2
     clear m0 m1 hBl3
     go_loopg [13] len (fun gk iv' wx => ∃ (i:Nat) (v1 v2 v3:Value),gk=len - i ∧ i ≤ len ∧ iv' = .int .i64 i ∧ LS w (some ⟨fb,fo,none⟩) len cap d (nf:Int) fs Bw i i i v1 v2 v3 wx)
     case atStart => exact ⟨0,_,_,_,rfl,Nat.zero_le _,rfl,H3.out.1⟩
     case round =>
       obtain ⟨i,v1,v2,v3,rfl,hib,rfl,hls⟩:=hrel
       obtain ⟨hva,h4,h5,V,hmok,hR⟩:=HA.out
       have hs:=HX.out.2.1
       have hll:=hs.1
       have m0:=hls.mod.cell (j:=0) rfl
       have m1:=hls.mod.cell (j:=1) rfl
       by_cases hlt2:i < len
       · have hltZ:(i:Int) < (len:Int):=by omega
         obtain ⟨mo,hres⟩:=Mn.res_of hva (k:=i) (by omega)
         have hnest:=Mn.nest_of hva (k:=i) (by omega)
         have hcon1:=spec_l6Heights (some ⟨fb,fo,none⟩) len cap fs d i hlt2 hmok wr (hs.kept hls.bel)
         have HRS:=Hid.put (And.intro hres hnest)
         have H80:=Hid.put (Mn.fn_ok V (k:=i) (by omega))
         have HS:=Hid.put hs
         clear hva h4 h5 V hmok hR hres hnest hs hll
         go_wp2_with fail
         refine hcon1.mono ?_
         rintro e w5 ⟨hv,mo',rfl,hmm,hB5⟩
         dsimp only
         obtain ⟨hoi, -⟩:=hmm _ _ HRS.out.1
         have hls5:=hls.kept hB5
         have hwrs:=hls.bel.size
         clear hcon1 hmm m0 m1 hls hB5
         have m0:=hls5.mod.cell (j:=0) rfl
         have m1:=hls5.mod.cell (j:=1) rfl
         obtain ⟨-, -, -,ba,bl,bc,f3,hsl⟩:=fl_at (HS.out.kept hls5.bel) hlt2
         have hcon2:=spec_l5Nest ba bl bc (Mn.fn fs i).b (by have h1:=hsl.1;have h2:=H80.out;omega) w5 hsl
         rw [show Nst.isOk (Mn.fn fs i).b=true from HRS.out.2] at hcon2
         clear hsl
         obtain ⟨ha,hc,rfl, -⟩:=OI.slice hoi
         obtain ⟨hn,hhn⟩:∃ hn,(Mn.hts fs i).length=hn:=⟨_,rfl⟩
         rw [hhn] at hoi ⊢
         clear hhn
         generalize (Hg.res fs (fs.getD i .z)).isSome=rs
         go_wp2_with fail
         refine hcon2.mono ?_
         rintro e w6 ⟨gE,cE,gO,cO,rfl,hrr,hB6⟩
         dsimp only
         obtain ⟨hoE,hoO⟩:=hrr (by first | rfl | trivial)
         have hls6:=hls5.kept hB6
         have hoi6:OI w6 w.heap.size (.slice ha hn hc) (Mn.hts fs i):=row_mono (row_kept2 hoi hB6) hwrs
         have hoE6:OI w6 w.heap.size (.slice (some ⟨gE,0,none⟩) bl cE) (Nst.ends (Mn.fn fs i).b):=row_mono hoE hls5.bel.size
         have hoO6:OI w6 w.heap.size (.slice (some ⟨gO,0,none⟩) bl cO) (Nst.elses (Mn.fn fs i).b):=row_mono hoO hls5.bel.size
         clear hcon2 hrr hB6 hoE hoO hoi hls5 f3 m0 m1
         obtain ⟨vs1,hr1,he1⟩:=id hls6.t1
         have HRA:=Hid.put (World.ownsRow.alloc hr1 (.cells #[.slice ha hn hc] 27))
         have HBX:Hid (∀ wA:World,(w6.alloc (.cells #[.slice ha hn hc] 27)).grownBy wA v1.ownBlock → Arr wA Bw 64 (WB (some ⟨fb,fo,none⟩) len cap d v1 v2 v3 (.slice none 0 0) nf)):=fun wA hg => (hls6.box.kept (below_one w6 _)).row_far (row_kept2 hr1 (below_one w6 _)) hg (by decide)
         have hbs:w.heap.size ≤ w6.heap.size:=hls6.bel.size
         have xx:=hls6.box.cell (j:=2) rfl
         have hBlt:=hls6.box.lt
         have HLS:=Hid.put (And.intro hls6 (And.intro hoi6 (And.intro hr1 he1)))
         clear hls6 hoi6 hr1 he1
         have HhoE6:=Hid.put hoE6
         clear hoE6
         have HhoO6:=Hid.put hoO6
         clear hoO6
         go_wp2_with (at_builtin;refine stopB ?_)
         refine ⟨?_⟩
         refine wpList_append_one _ rfl _ _ 62 rfl w.heap.size 27 i0 (.slice none 0 0) 24 Tryz.underlying62 hi hz0 hz1 hz2 rfl _ _ _ rfl HRA.out w6.heap.size 1 (.slice ha hn hc) rfl (by simp) rfl (by simp only [maxLen];omega) (by omega) (by simp;omega) ?_
         intro vN wA hw1 hg1 hn1
         obtain ⟨av1,cv1,rfl⟩:=ownsRow_slice hw1
         have hbA:=HBX.out wA hg1
         have xx:=hbA.cell (j:=2) rfl
         have xf:=hbA.frozen 2
         have HF:=Hid.put (And.intro hw1 (And.intro hg1 (And.intro hn1 hbA)))
         clear hw1 hg1 hn1 hbA
         go_upto_region 15 with fail
         have hlsN:LS w (some ⟨fb,fo,none⟩) len cap d (nf:Int) fs Bw (i + 1) i i (.slice av1 (i + 1) cv1) v2 v3 (wA.setCell ⟨Bw,2,none⟩ (.slice av1 (i + 1) cv1)):=HLS.out.1.push1 HLS.out.2.2.1 HLS.out.2.2.2 HLS.out.2.1 HF.out.1 HF.out.2.1 HF.out.2.2.1
         have hoE6:=OI.past (n:=2) (v2:=(.slice av1 (i + 1) cv1)) HhoE6.out HLS.out.2.2.1 HF.out.2.1 HF.out.2.2.2
         have hoO6:=OI.past (n:=2) (v2:=(.slice av1 (i + 1) cv1)) HhoO6.out HLS.out.2.2.1 HF.out.2.1 HF.out.2.2.2
         obtain ⟨w7,hWn⟩:∃ w7,wA.setCell ⟨Bw,2,none⟩ (.slice av1 (i + 1) cv1)=w7:=⟨_,rfl⟩
         rw [hWn] at hlsN hoE6 hoO6 ⊢
         have hls1N:=hlsN
         clear hWn HF HLS HBX HRA xx xf hBlt hbs hlsN HhoE6 HhoO6
         obtain ⟨vs2,hr2,he2⟩:=id hls1N.t2
         have HRA:=Hid.put (World.ownsRow.alloc hr2 (.cells #[.slice (some ⟨gE,0,none⟩) bl cE] 27))
         have HBX:Hid (∀ wA:World,(w7.alloc (.cells #[.slice (some ⟨gE,0,none⟩) bl cE] 27)).grownBy wA v2.ownBlock → Arr wA Bw 64 (WB (some ⟨fb,fo,none⟩) len cap d (.slice av1 (i + 1) cv1) v2 v3 (.slice none 0 0) nf)):=fun wA hg => (hls1N.box.kept (below_one w7 _)).row_far (row_kept2 hr2 (below_one w7 _)) hg (by decide)
         have hbs:w.heap.size ≤ w7.heap.size:=hls1N.bel.size
         have xx:=hls1N.box.cell (j:=3) rfl
         have hBlt:=hls1N.box.lt
         have HLS:=Hid.put (And.intro hls1N (And.intro hoE6 (And.intro hr2 he2)))
         clear hls1N hoE6 hr2 he2
         have HhoO6:=Hid.put hoO6
         clear hoO6
         go_wp2_with (at_builtin;refine stopB ?_)
         refine ⟨?_⟩
         refine wpList_append_one _ rfl _ _ 62 rfl w.heap.size 27 i0 (.slice none 0 0) 24 Tryz.underlying62 hi hz0 hz1 hz2 rfl _ _ _ rfl HRA.out w7.heap.size 1 (.slice (some ⟨gE,0,none⟩) bl cE) rfl (by simp) rfl (by simp only [maxLen];omega) (by omega) (by simp;omega) ?_
         intro vN wA hw1 hg1 hn1
         obtain ⟨av2,cv2,rfl⟩:=ownsRow_slice hw1
         have hbA:=HBX.out wA hg1
         have xx:=hbA.cell (j:=3) rfl
         have xf:=hbA.frozen 3
         have HF:=Hid.put (And.intro hw1 (And.intro hg1 (And.intro hn1 hbA)))
         clear hw1 hg1 hn1 hbA
         go_upto_region 16 with fail
         have hlsN:LS w (some ⟨fb,fo,none⟩) len cap d (nf:Int) fs Bw (i + 1) (i + 1) i (.slice av1 (i + 1) cv1) (.slice av2 (i + 1) cv2) v3 (wA.setCell ⟨Bw,3,none⟩ (.slice av2 (i + 1) cv2)):=HLS.out.1.push2 HLS.out.2.2.1 HLS.out.2.2.2 HLS.out.2.1 HF.out.1 HF.out.2.1 HF.out.2.2.1
         have hoO6:=OI.past (n:=3) (v2:=(.slice av2 (i + 1) cv2)) HhoO6.out HLS.out.2.2.1 HF.out.2.1 HF.out.2.2.2
         obtain ⟨w8,hWn⟩:∃ w8,wA.setCell ⟨Bw,3,none⟩ (.slice av2 (i + 1) cv2)=w8:=⟨_,rfl⟩
         rw [hWn] at hlsN hoO6 ⊢
         have hls2N:=hlsN
         clear hWn HF HLS HBX HRA xx xf hBlt hbs hlsN HhoO6
         obtain ⟨vs3,hr3,he3⟩:=id hls2N.t3
         have HRA:=Hid.put (World.ownsRow.alloc hr3 (.cells #[.slice (some ⟨gO,0,none⟩) bl cO] 27))
         have HBX:Hid (∀ wA:World,(w8.alloc (.cells #[.slice (some ⟨gO,0,none⟩) bl cO] 27)).grownBy wA v3.ownBlock → Arr wA Bw 64 (WB (some ⟨fb,fo,none⟩) len cap d (.slice av1 (i + 1) cv1) (.slice av2 (i + 1) cv2) v3 (.slice none 0 0) nf)):=fun wA hg => (hls2N.box.kept (below_one w8 _)).row_far (row_kept2 hr3 (below_one w8 _)) hg (by decide)
         have hbs:w.heap.size ≤ w8.heap.size:=hls2N.bel.size
         have xx:=hls2N.box.cell (j:=4) rfl
         have hBlt:=hls2N.box.lt
         have HLS:=Hid.put (And.intro hls2N (And.intro hoO6 (And.intro hr3 he3)))
         clear hls2N hoO6 hr3 he3
         go_wp2_with (at_builtin;refine stopB ?_)
         refine ⟨?_⟩
         refine wpList_append_one _ rfl _ _ 62 rfl w.heap.size 27 i0 (.slice none 0 0) 24 Tryz.underlying62 hi hz0 hz1 hz2 rfl _ _ _ rfl HRA.out w8.heap.size 1 (.slice (some ⟨gO,0,none⟩) bl cO) rfl (by simp) rfl (by simp only [maxLen];omega) (by omega) (by simp;omega) ?_
         intro vN wA hw1 hg1 hn1
         obtain ⟨av3,cv3,rfl⟩:=ownsRow_slice hw1
         have hbA:=HBX.out wA hg1
         have xx:=hbA.cell (j:=4) rfl
         have xf:=hbA.frozen 4
         have HF:=Hid.put (And.intro hw1 (And.intro hg1 (And.intro hn1 hbA)))
         clear hw1 hg1 hn1 hbA
         go_upto_region 11 with fail
         have hlsN:LS w (some ⟨fb,fo,none⟩) len cap d (nf:Int) fs Bw (i + 1) (i + 1) (i + 1) (.slice av1 (i + 1) cv1) (.slice av2 (i + 1) cv2) (.slice av3 (i + 1) cv3) (wA.setCell ⟨Bw,4,none⟩ (.slice av3 (i + 1) cv3)):=HLS.out.1.push3 HLS.out.2.2.1 HLS.out.2.2.2 HLS.out.2.1 HF.out.1 HF.out.2.1 HF.out.2.2.1
         obtain ⟨w9,hWn⟩:∃ w9,wA.setCell ⟨Bw,4,none⟩ (.slice av3 (i + 1) cv3)=w9:=⟨_,rfl⟩
         rw [hWn] at hlsN  ⊢
         have hls3N:=hlsN
         clear hWn HF HLS HBX HRA xx xf hBlt hbs hlsN 
         have HL3:=Hid.put hls3N
         clear hls3N
         go_wp2
         go_roundg (len - (i + 1))
         case measure => omega
         case rel => exact ⟨i + 1,.slice av1 (i + 1) cv1,.slice av2 (i + 1) cv2,.slice av3 (i + 1) cv3,rfl,by omega,by simp,HL3.out⟩
       · obtain rfl:len=i:=by omega
         obtain ⟨hb,hC,rfl⟩:=hls.t1.some (by omega)
         obtain ⟨eb,eC,rfl⟩:=hls.t2.some (by omega)
         obtain ⟨ob,oC,rfl⟩:=hls.t3.some (by omega)
         have hnmem:=spec_NewMemory_own d hd64 wr
         have HLS:=Hid.put hls
         have HS:=Hid.put hs
         have hblt:=hls.box.lt
         clear hva h4 h5 V hmok hR hs hll hls hi hz0 hz1 hz2 H3
         go_wp2_with fail
         refine hnmem.mono ?_
         rintro e w5 ⟨rfl,hrw,hB5⟩
         dsimp only
         have hls5:=HLS.out.kept hB5
         have x5:=hls5.box.cell (j:=5) rfl
         have xf:=hls5.box.frozen 5
         obtain ⟨M,hMe⟩:∃ M,wr.heap.size=M:=⟨_,rfl⟩
         rw [hMe] at hrw ⊢
         have HM:=Hid.put hMe
         have H5:=Hid.put (And.intro hls5 (And.intro hrw hB5))
         have hb5:=hls5.box.lt
         clear hnmem hls5 hrw hB5 m0 m1 hMe
         have hil5:=(HX.out.2.2.1.kept H5.out.1.bel)
         obtain ⟨wc,hwc⟩:∃ wc:WC,wc=⟨Bw,M,64,fb,fo,cap,hb,0,hC,eb,0,eC,ob,0,oC,fs,d⟩:=⟨_,rfl⟩
         have hll:fs.length=len:=HS.out.1
         obtain ⟨W6,hW6⟩:∃ W6,w5.setCell ⟨Bw,5,none⟩ (.slice (some ⟨M,0,none⟩) 64 64)=W6:=⟨_,rfl⟩
         have gs:=grownBy_set' w5 ⟨Bw,5,none⟩ (.slice (some ⟨M,0,none⟩) 64 64)
         rw [hW6] at gs
         have hMw:w.heap.size ≤ M:=by rw [← HM.out];exact HLS.out.bel.size
         have hMB:Bw < M:=by rw [← HM.out];exact hblt
         have hfb:fb < w.heap.size:=by
           obtain ⟨-, -,h0 | ⟨b',o',e,hb', -⟩⟩:=HS.out
           · omega
           · simp only [Option.some.injEq,Addr.mk.injEq,and_true] at e
             rw [e.1]
             exact hb'
         have hg0:wr.grownBy W6 (some Bw):=⟨gs.os.trans H5.out.2.2.os,gs.tape.trans H5.out.2.2.tape,gs.output.trans H5.out.2.2.output,Nat.le_trans H5.out.2.2.size gs.size,fun i hi hne => (gs.block i (Nat.lt_of_lt_of_le hi H5.out.2.2.size) hne).trans (H5.out.2.2.block i hi)⟩
         have TT:Tab wc W6:=by
           refine tab_spec (w:=w) (Wt:=wr) (bs:=WB (some ⟨fb,fo,none⟩) len cap d (.slice (some ⟨hb,0,none⟩) len hC) (.slice (some ⟨eb,0,none⟩) len eC) (.slice (some ⟨ob,0,none⟩) len oC) (.slice none 0 0) nf) ?_ ?_ ?_ HLS.out.bel ?_ ?_ ?_ ?_ ?_ ?_ ?_ ?_ ?_ ?_
           all_goals (rw [hwc])
           · rw [hll];exact HS.out
           · exact hfb
           · exact HLS.out.bB
           · exact HLS.out.box
           · exact Nat.le_of_eq HM.out
           · rw [hll];exact HLS.out.t1
           · rw [hll];exact HLS.out.t2
           · rw [hll];exact HLS.out.t3
           · exact hg0
           · exact HA.out.2.2.2.1
         have hbx6:Arr W6 Bw 64 (WB (some ⟨fb,fo,none⟩) len cap d (.slice (some ⟨hb,0,none⟩) len hC) (.slice (some ⟨eb,0,none⟩) len eC) (.slice (some ⟨ob,0,none⟩) len oC) (.slice (some ⟨M,0,none⟩) 64 64) nf):=by rw [← hW6];exact H5.out.1.box.set 5 _
         have hwk:WK wc W6 W6 (Mm.new d) (nf:Int) 0:=by
           refine ⟨Agr.refl _ _,?_,?_⟩
           · have e:wc.vals (nf:Int) 0=WB (some ⟨fb,fo,none⟩) len cap d (.slice (some ⟨hb,0,none⟩) len hC) (.slice (some ⟨eb,0,none⟩) len eC) (.slice (some ⟨ob,0,none⟩) len oC) (.slice (some ⟨M,0,none⟩) 64 64) nf:=by
               rw [hwc,← hll]
               rfl
             rw [e,hwc]
             exact ⟨hbx6.lt,fun i x hx => ⟨hbx6.cell hx,hbx6.frozen i⟩⟩
           · rw [hwc]
             exact row_mono (row_off' (b:=0) H5.out.2.1 gs (fun g e => by simp only [Value.ownBlock,Option.some.injEq] at e;simp only [ne_eq,Option.some.injEq];omega)) (Nat.zero_le _)
         have hB6:Below w.heap.size w W6:=below_grownBy HLS.out.bel hg0 HLS.out.bB
         have hil6:=HX.out.2.2.1.kept hB6
         have hcall:=l8call_is TT nf W6 kn 0 (Mm.new d) args b c hwk (by rw [hwc];exact hbx6.lt) (by rw [hwc];exact Nat.lt_of_lt_of_le (H5.out.2.1.lt M rfl).2 gs.size) (by rw [hwc];show kn < fs.length;omega) (by omega) (Mm.new_ok hd64) HA.out.2.2.1 (by rw [hwc];exact HA.out.2.1) (by rw [HNL.out];exact hil6) (by omega)
         have hrr:Mn.runAt wc.fs nf 0 kn args (Mm.new d)=R:=by
           rw [hwc,← HA.out.2.2.2.2.2]
           show Mn.runAt fs nf 0 kn args (Mm.new d)=_
           unfold Mn.runAt Mn.out
           rw [if_neg (by decide),Int.toNat_natCast]
         rw [hrr,HNL.out] at hcall
         have HC:=Hid.put (And.intro hwc (And.intro hB6 (And.intro hMw hMB)))
         have ewc:wc.B=Bw:=by rw [hwc]
         rw [ewc] at hcall
         clear TT hbx6 hwk hil6 hil5 hg0 gs hB6 hrr hwc hll
         go_wp2_with fail
         refine hcall.mono ?_
         rintro e w7 ⟨rfl,hwk7,hag7⟩
         dsimp only
         clear hcall
         obtain ⟨vv,hvv⟩:∃ x,R.value=x:=⟨_,rfl⟩
         rw [hvv]
         have HZ:=Hid.put (And.intro hwk7 (And.intro hag7 hvv))
         clear hwk7 hag7 hvv x5 xf
         go_wp2
         go_ret3
         obtain ⟨hwk7,hag7,hvv⟩:=HZ.out
         obtain ⟨hwc,hB6,hMw,hMB⟩:=HC.out
         rw [hvv]
         have hbB:=HLS.out.bB
         have q5:=(hwk7.box.2 5 _ rfl).1
         have q6:=(hwk7.box.2 6 _ rfl).1
         have q7:=(hwk7.box.2 7 _ rfl).1
         have ql:=hwk7.box.1
         have qr:=hwk7.row
         have qb:Below w.heap.size w w7:=⟨hag7.os.trans hB6.os,hag7.tape.trans hB6.tape,hag7.out.trans hB6.output,Nat.le_trans hB6.size hag7.size,fun i hi => (hag7.blk i (Nat.lt_of_lt_of_le hi hB6.size) (by rw [hwc];dsimp only;omega) (by rw [hwc];dsimp only;omega)).trans (hB6.block i hi)⟩
         rw [hwc] at q5 q6 q7 ql qr
         exact ⟨Bw,rfl,⟨qb,ql,⟨M,64,q5,row_above qr hMw⟩,q6,q7⟩⟩
end
section
variable {a:Option Addr} {len cap:Nat} {fs:List Fn} {d:ByteArray} {w:World}
theorem bad_is {fs:List Fn} {d:ByteArray} {k fuel:Int} {args:List Int} (hok:Mn.isOk fs d k args fuel=false):Mn.code fs d k args fuel=7 ∧ Mn.value fs d k args fuel=0 ∧ Mn.memo fs d k args fuel=[] ∧ Mn.burnt fs d k args fuel = -1:=by
 unfold Mn.code Mn.value Mn.memo Mn.burnt
 rw [if_neg (by rw [hok];decide),if_neg (by rw [hok];decide),if_neg (by rw [hok];decide),if_neg (by rw [hok];decide)]
 exact ⟨rfl,rfl,rfl,rfl⟩
theorem good_is {fs:List Fn} {d:ByteArray} {k n:Nat} {args:List Int} (hok:Mn.isOk fs d (k:Int) args (n:Int)=true):Mn.code fs d k args n=(Mn.out fs d k args n).code ∧ Mn.value fs d k args n=(Mn.out fs d k args n).value ∧ Mn.memo fs d k args n=(Mn.out fs d k args n).mem ∧ Mn.burnt fs d k args n=(n:Int) - (Mn.out fs d k args n).left:=by
 unfold Mn.code Mn.value Mn.memo Mn.burnt
 rw [if_pos hok,if_pos hok,if_pos hok,if_pos hok]
 exact ⟨rfl,rfl,rfl,rfl⟩
theorem mem_len {fs:List Fn} {d:ByteArray} {k:Int} {fuel:Int} {args:List Int} {n:Nat} {R:Mn.Rs} (hR:Mn.out fs d k args n=R) (h:Mn.isOk fs d k args fuel=true):R.mem.length=64:=by
 have hf:=Mn.out_fine h n
 rw [hR] at hf
 rcases R with ⟨v,m,l⟩ | ⟨c,m,l⟩
 · exact Mm.ok_len hf.2
 · exact Mm.ok_len hf.1
theorem fl_some {k fuel:Int} {args:List Int} (hs:FL w a len fs) (hok:Mn.isOk fs d k args fuel=true):∃ fb fo,a=some ⟨fb,fo,none⟩:=by
 have V:=Mn.val_of (Mn.isOk_iff.1 hok).1
 obtain ⟨h1, -,h0 | ⟨fb,fo,e, -⟩⟩:=hs
 · have:=V.len
   omega
 · exact ⟨fb,fo,e⟩
theorem spec_Burnt (hd:d.size ≤ maxLen) (hs:FL w a len fs) (k fuel:Int) (b:Option Addr) (n c:Nat) (args:List Int) (hargs:IL w b n args) :
   Calls Tryz.prog 13 #[.agg #[.slice a len cap,.string d],.int .i64 k,.slice b n c,.int .i64 fuel] w fun e w' => e = .returned (.int .i64 (Mn.burnt fs d k args fuel)) ∧ Below w.heap.size w w':=by
 have hB1:=below_one w (.cells #[.slice a len cap,.string d] 26)
 have hM1:Arr (w.alloc (.cells #[.slice a len cap,.string d] 26)) w.heap.size 26 [.slice a len cap,.string d]:=heap_alloc_last w _
 obtain ⟨W1,hW1⟩:∃ W1,w.alloc (.cells #[.slice a len cap,.string d] 26)=W1:=⟨_,rfl⟩
 rw [hW1] at hB1 hM1
 have m0:=hM1.cell (j:=0) rfl
 have m1:=hM1.cell (j:=1) rfl
 rcases hok:Mn.isOk fs d k args fuel with _ | _
 · have hcon:=l8Run_no (cap:=cap) hd (hs.kept hB1) k fuel b n c args (hargs.kept hB1) hok
   have HE:=Hid.put (bad_is hok).2.2.2
   have HB:=Hid.put hB1
   clear hs hargs hB1 hM1 hok
   go_enter Tryz.func13,Tryz.ntmps13
   go_wp2_with fail
   refine hcon.mono ?_
   rintro e w3 ⟨B,rfl,hB3⟩
   dsimp only
   have HB3:=Hid.put (HB.out.trans (hB3.mono HB.out.size))
   clear hcon m0 m1 hB3
   go_wp2
   go_ret
   rw [HE.out]
   exact ⟨rfl,HB3.out⟩
 · obtain ⟨fb,fo,rfl⟩:=fl_some hs hok
   obtain ⟨h1,⟨h2,h3⟩,h4,h5,h6,h7⟩:=Mn.isOk_iff.1 hok
   obtain ⟨kn,rfl⟩:=Int.eq_ofNat_of_zero_le h2
   obtain ⟨nf,rfl⟩:=Int.eq_ofNat_of_zero_le h6
   obtain ⟨R,hR⟩:∃ R,Mn.out fs d (kn:Int) args nf=R:=⟨_,rfl⟩
   have hcon:=l8Run_yes (cap:=cap) hd (hs.kept hB1) kn nf b n c args (hargs.kept hB1) hok R hR
   have HE:=Hid.put (good_is hok).2.2.2
   have hll:R.left ≤ nf:=by rw [← hR];exact Mn.out_left _ _ _ _ _
   have HR:=Hid.put hR
   have HB:=Hid.put hB1
   clear hs hargs hB1 hM1 hok h1 h2 h3 h4 h5 hR
   go_enter Tryz.func13,Tryz.ntmps13
   go_wp2_with fail
   refine hcon.mono ?_
   rintro e w3 ⟨B,rfl,hrun⟩
   dsimp only
   have f6:=hrun.fuel
   obtain ⟨lf,hlf⟩:∃ x,R.left=x:=⟨_,rfl⟩
   rw [hlf] at f6 hll
   have HB3:=Hid.put (And.intro (HB.out.trans (hrun.bel.mono HB.out.size)) hlf)
   clear hcon m0 m1 hrun hlf
   go_wp2
   go_ret
   rw [HE.out,HR.out,HB3.out.2]
   exact ⟨rfl,HB3.out.1⟩
theorem spec_Meant (hd:d.size ≤ maxLen) (hs:FL w a len fs) (k fuel:Int) (b:Option Addr) (n c:Nat) (args:List Int) (hargs:IL w b n args) :
   Calls Tryz.prog 12 #[.agg #[.slice a len cap,.string d],.int .i64 k,.slice b n c,.int .i64 fuel] w fun e w' => ∃ y,e = .returned (.agg #[.int .i64 (Mn.code fs d k args fuel),.int .i64 (Mn.value fs d k args fuel),y]) ∧ OI w' w.heap.size y (Mn.memo fs d k args fuel) ∧ Below w.heap.size w w':=by
 have hB1:=below_one w (.cells #[.slice a len cap,.string d] 26)
 have hM1:Arr (w.alloc (.cells #[.slice a len cap,.string d] 26)) w.heap.size 26 [.slice a len cap,.string d]:=heap_alloc_last w _
 obtain ⟨W1,hW1⟩:∃ W1,w.alloc (.cells #[.slice a len cap,.string d] 26)=W1:=⟨_,rfl⟩
 rw [hW1] at hB1 hM1
 have hB2:=below_one W1 (.cells #[.int .i64 0,.int .i64 0,.slice none 0 0] 31)
 have hO2:Arr (W1.alloc (.cells #[.int .i64 0,.int .i64 0,.slice none 0 0] 31)) W1.heap.size 31 [.int .i64 0,.int .i64 0,.slice none 0 0]:=heap_alloc_last W1 _
 obtain ⟨W2,hW2⟩:∃ W2,W1.alloc (.cells #[.int .i64 0,.int .i64 0,.slice none 0 0] 31)=W2:=⟨_,rfl⟩
 rw [hW2] at hB2 hO2
 have hM2:=hM1.kept hB2
 have hBw:Below w.heap.size w W2:=hB1.trans (hB2.mono hB1.size)
 have m0:=hM2.cell (j:=0) rfl
 have m1:=hM2.cell (j:=1) rfl
 have hge:=hB1.size
 rcases hok:Mn.isOk fs d k args fuel with _ | _
 · have hcon:=l8Run_no (cap:=cap) hd (hs.kept hBw) k fuel b n c args (hargs.kept hBw) hok
   have HE:=Hid.put (bad_is hok)
   have HX:=Hid.put (And.intro hO2 hBw)
   clear hs hargs hB1 hM1 hok hB2 hO2 hM2 hBw
   go_enter Tryz.func12,Tryz.ntmps12
   go_wp2_with fail
   refine hcon.mono ?_
   rintro e w3 ⟨B,rfl,hB3⟩
   dsimp only
   have hO3:=HX.out.1.kept hB3
   have o0:=hO3.cell (j:=0) rfl
   have o1:=hO3.cell (j:=1) rfl
   have o2:=hO3.cell (j:=2) rfl
   have g0:=hO3.frozen 0
   have g1:=hO3.frozen 1
   have g2:=hO3.frozen 2
   have HB3:=Hid.put (HX.out.2.trans (hB3.mono HX.out.2.size))
   clear hcon m0 m1 hB3 hO3
   go_wp2
   refine bodyPost_ret (v:=.agg #[.int .i64 7,.int .i64 0,.slice none 0 0]) ?_ rfl ?_
   · rw [results_cell1 rfl]
     go_simp
   · obtain ⟨e1,e2,e3,e4⟩:=HE.out
     rw [e1,e2,e3]
     exact ⟨_,rfl,World.ownsRow_nil _ _ _ _,below_grownBy (below_grownBy (below_grownBy HB3.out (grownBy_set' _ _ _) hge) (grownBy_set' _ _ _) hge) (grownBy_set' _ _ _) hge⟩
 · obtain ⟨fb,fo,rfl⟩:=fl_some hs hok
   obtain ⟨h1,⟨h2,h3⟩,h4,h5,h6,h7⟩:=Mn.isOk_iff.1 hok
   obtain ⟨kn,rfl⟩:=Int.eq_ofNat_of_zero_le h2
   obtain ⟨nf,rfl⟩:=Int.eq_ofNat_of_zero_le h6
   obtain ⟨R,hR⟩:∃ R,Mn.out fs d (kn:Int) args nf=R:=⟨_,rfl⟩
   have hcon:=l8Run_yes (cap:=cap) hd (hs.kept hBw) kn nf b n c args (hargs.kept hBw) hok R hR
   have HE:=Hid.put (good_is hok)
   have HL:=Hid.put (mem_len hR hok)
   rw [hR] at HE
   have HX:=Hid.put (And.intro hO2 hBw)
   clear hs hargs hB1 hM1 hok h1 h2 h3 h4 h5 hR hB2 hO2 hM2 hBw
   go_enter Tryz.func12,Tryz.ntmps12
   go_wp2_with fail
   refine hcon.mono ?_
   rintro e w3 ⟨B,rfl,hrun⟩
   dsimp only
   obtain ⟨vv,hvv⟩:∃ x,R.value=x:=⟨_,rfl⟩
   obtain ⟨cd,hcd⟩:∃ x,R.code=x:=⟨_,rfl⟩
   rw [hvv]
   have f7:=hrun.code
   rw [hcd] at f7
   obtain ⟨M,mc,f5,hrw⟩:=hrun.mem
   have hlt:=hrun.lt
   have hO3:=HX.out.1.kept hrun.bel
   have HZ:=Hid.put (And.intro hvv (And.intro hcd (And.intro hrw (And.intro hrun.bel hO3))))
   clear hcon m0 m1 hrun hvv hcd hrw
   go_wp2_with fail
   have f5B:∀ p:Beh w3,p.to.cell? ⟨B,5,none⟩=some (.slice (some ⟨M,0,none⟩) 64 mc):=fun p => (p.h.cell (p:=⟨B,5,none⟩) hlt).trans f5
   have f7B:∀ p:Beh w3,p.to.cell? ⟨B,7,none⟩=some (.int .i64 cd):=fun p => (p.h.cell (p:=⟨B,7,none⟩) hlt).trans f7
   have hne:=Beh.any w3
   clear f5 f7
   refine wp_region_qtail 9 (by kernel_rfl) (by kernel_rfl) ?_
   simp only [List.take_succ_cons,List.take_zero,List.drop_succ_cons,List.drop_zero]
   repeat (go_big_quiet_step (fail))
   refine wpQuiet_nil ?_
   rintro _ ⟨pw,rfl⟩
   have hO4:=hO3.kept pw.h
   have HP:=Hid.put pw.h
   obtain ⟨W4,hW4⟩:∃ W4,pw.to=W4:=⟨_,rfl⟩
   rw [hW4] at hO4 HP ⊢
   clear hW4 hne f5B f7B
   have o0:=hO4.cell (j:=0) rfl
   have o1:=hO4.cell (j:=1) rfl
   have o2:=hO4.cell (j:=2) rfl
   have g0:=hO4.frozen 0
   have g1:=hO4.frozen 1
   have g2:=hO4.frozen 2
   clear hO3 hO4
   go_wp2
   refine bodyPost_ret (v:=.agg #[.int .i64 cd,.int .i64 vv,.slice (some ⟨M,0,none⟩) 64 mc]) ?_ rfl ?_
   · rw [results_cell1 rfl]
     go_simp
   · obtain ⟨hvv,hcd,hrw,hbel,hO3⟩:=HZ.out
     obtain ⟨e1,e2,e3,e4⟩:=HE.out
     rw [e1,e2,e3,hcd,hvv]
     have hBw:=HX.out.2
     have hB4:Below w.heap.size w W4:=(hBw.trans (hbel.mono hBw.size)).trans (HP.out.mono (Nat.le_trans hBw.size hbel.size))
     refine ⟨_,rfl,?_,below_grownBy (below_grownBy (below_grownBy hB4 (grownBy_set' _ _ _) hge) (grownBy_set' _ _ _) hge) (grownBy_set' _ _ _) hge⟩
     unfold OI
     rw [HL.out]
     have hne:∀ g,(Value.slice (some ⟨M,0,none⟩) 64 mc).ownBlock=some g → (some W1.heap.size:Option Nat) ≠ some g:=fun g e => by
       have h1:=(hrw.lt g e).1
       have h2:=HX.out.1.lt
       simp only [ne_eq,Option.some.injEq]
       omega
     exact row_mono (row_off' (b:=0) (row_off' (b:=0) (row_off' (b:=0) (row_kept2 hrw HP.out) (grownBy_set' _ _ _) hne) (grownBy_set' _ _ _) hne) (grownBy_set' _ _ _) hne) hBw.size
end
theorem markInt64S_from (n₀:Nat) (k0:Int) (h0:0 ≤ k0) (h1:k0 ≤ 1125899906842624) (v:Value) (xs:List Int) (hn:xs.length ≤ 2000000) (w:World) (hs:OI w n₀ v xs) :
   Calls Tryz.prog 25 #[v,.int .i64 k0] w fun e w' => e = .returned (.int .i64 (k0 + (xs.length:Int))) ∧ w.grownBy w' v.ownBlock:=by
 obtain ⟨a,cap,rfl, -⟩:=hs.slice
 obtain ⟨n,hln⟩:∃ n,xs.length=n:=⟨_,rfl⟩
 have hgg:w.grownBy w (Value.slice a n cap).ownBlock:=World.grownBy.refl _ _
 unfold OI at hs
 rw [hln] at hs hn ⊢
 go_enter Tryz.func25,Tryz.ntmps25
 go_wp2
 go_loopw [1,5] (fun m i wr => ∃ (k:Nat) (ys:List Int),m = .int .i64 (k0 + (k:Int)) ∧ i = .int .i64 k ∧ k ≤ n ∧ ys.length=n ∧ wr.ownsRow n₀ 2 1 (.slice a n cap) n (ys.map iv) ∧ w.grownBy wr (Value.slice a n cap).ownBlock) (fun _ i _ => n - (intOf i).toNat)
 case atStart => exact ⟨0,xs,by simp,rfl,Nat.zero_le _,hln,hs,hgg⟩
 case round =>
   obtain ⟨k,ys,rfl,rfl,hk,hyl,hown,hg⟩:=hrel
   have HY:Hid (ys.length=n):=hyl
   clear hs hgg
   by_cases hlt:k < n
   · rcases hown.2 with ⟨h',h0'⟩ | ⟨g,cap',cur,h',_⟩
     · omega
     cases h'
     have hc0:=hown.cellAt k (by omega)
     rw [List.getElem?_map,List.getElem?_eq_getElem (by omega)] at hc0
     simp only [Option.map_some,iv] at hc0
     obtain ⟨p',hp'⟩:∃ x,ys[k]=x:=⟨_,rfl⟩
     rw [hp'] at hc0
     have hf0:=hown.frozenAt k
     have hst1:=hown.stored k (.int .i64 (k0 + (k:Int)))
     rw [← map_set_iv ys k] at hst1
     have HST:=Hid.put hst1.1
     have HG:=Hid.put (grownBy_trans' hg hst1.2)
     clear hyl hp' hst1 hown hg
     go_wp2
     go_roundw
     case rel => exact ⟨k + 1,ys.set k (k0 + (k:Int)),by congr 1 <;> omega,by simp,by omega,by rw [List.length_set];exact HY.out,HST.out,HG.out⟩
     case measure => simp [intOf];omega
   · have hke:k=n:=by omega
     subst hke
     clear hyl
     have HOW:=Hid.put (And.intro hown hg)
     clear hown hg
     go_wp2
     go_ret
     exact ⟨rfl,HOW.out.2⟩
theorem eqOutcome_same (cd vv:Int) (a b:Option Addr) (len cap cap':Nat) (xs:List Int) (w:World) (hs:IL w a len xs) (hs':IL w b len xs) :
   Calls Tryz.prog 21 #[.agg #[.int .i64 cd,.int .i64 vv,.slice a len cap],.agg #[.int .i64 cd,.int .i64 vv,.slice b len cap']] w fun e w' => e = .returned (.bool true) ∧ Below w.heap.size w w':=by
 have hB:=below_two w (.cells #[.int .i64 cd,.int .i64 vv,.slice a len cap] 31) (.cells #[.int .i64 cd,.int .i64 vv,.slice b len cap'] 31)
 have hcon:=eqInt64S_same a b len cap cap' xs _ (hs.kept hB) (hs'.kept hB)
 clear hs hs'
 go_enter Tryz.func21,Tryz.ntmps21
 go_wp2_with fail
 refine hcon.mono ?_
 rintro e w' ⟨rfl,hB'⟩
 dsimp only
 have HB:=Hid.put (hB.trans (hB'.mono hB.size))
 clear hcon hB hB'
 go_wp2
 go_ret
 exact ⟨rfl,HB.out⟩
theorem markOutcome_is (cd vv:Int) (n₀:Nat) (v:Value) (xs:List Int) (hn:xs.length ≤ 2000000) (w:World) (hs:OT w n₀ v xs) :
   Calls Tryz.prog 26 #[.agg #[.int .i64 cd,.int .i64 vv,v],.int .i64 1] w fun e w' => e = .returned (.int .i64 ((xs.length:Int) + 1)) ∧ OT w' n₀ v (marksI xs.length) ∧ w.grownBy w' v.ownBlock:=by
 obtain ⟨a,cap,rfl, -⟩:=hs.slice
 have hB:=below_one w (.cells #[.int .i64 cd,.int .i64 vv,.slice a xs.length cap] 31)
 have hcon:=markInt64S_ot n₀ _ xs hn _ (hs.kept hB)
 obtain ⟨n,hln⟩:∃ n,xs.length=n:=⟨_,rfl⟩
 rw [hln] at hcon hB hs hn ⊢
 have HB:=Hid.put hB
 clear hs hB hln
 go_enter Tryz.func26,Tryz.ntmps26
 go_wp2_with fail
 refine hcon.mono ?_
 rintro e w' ⟨rfl,hot,hg⟩
 dsimp only
 have HG:=Hid.put (And.intro hot hg)
 clear hcon hot hg
 go_wp2
 go_ret
 have hb:=HB.out
 have hg:=HG.out.2
 exact ⟨rfl,HG.out.1,⟨hg.os.trans hb.os,hg.tape.trans hb.tape,hg.output.trans hb.output,Nat.le_trans hb.size hg.size,fun i hi hne => (hg.block i (Nat.lt_of_lt_of_le hi hb.size) hne).trans (hb.block i hi)⟩⟩
theorem heldOutcome_is (cd vv:Int) (a:Option Addr) (n cap:Nat) (hn:n ≤ 2000000) (w:World) (hs:IL w a n (marksI n)) :
   Calls Tryz.prog 27 #[.agg #[.int .i64 cd,.int .i64 vv,.slice a n cap],.int .i64 1] w fun e w' => e = .returned (.int .i64 ((n:Int) + 1)) ∧ Below w.heap.size w w':=by
 have hB:=below_one w (.cells #[.int .i64 cd,.int .i64 vv,.slice a n cap] 31)
 have hcon:=heldInt64S_is a n cap hn _ (hs.kept hB)
 have hmk:¬ ((n:Int) + 1 < 0):=by omega
 have HB:=Hid.put hB
 clear hs hB
 go_enter Tryz.func27,Tryz.ntmps27
 go_wp2_with fail
 refine hcon.mono ?_
 rintro e w' ⟨rfl,rfl⟩
 dsimp only
 clear hcon
 go_wp2
 go_ret
 exact ⟨rfl,HB.out⟩
section
open Go.RowKit
namespace Lb
def gth:Nat → List UInt8 → Option (List UInt8)
 | 0,_ => none
 | _ + 1,[] => none
 | k + 1,b :: r => if b.toNat < 128 then some [b] else (gth k r).map (b :: ·)
def val:List UInt8 → Nat
 | [] => 0
 | b :: r => b.toNat % 128 + 128 * val r
def rest (s:ByteArray) (at':Int):List UInt8:=if at' < 0 then [] else s.data.toList.drop at'.toNat
def part (x:UInt8) (pre:List UInt8):Nat:=x.toNat % 128 * 128 ^ pre.length
end Lb
end
end Go.Proofs.YthpdpoocigpccaaGreatDoor
