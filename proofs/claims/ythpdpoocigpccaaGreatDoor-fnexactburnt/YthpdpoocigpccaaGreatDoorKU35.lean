/-
  Own texts for a law of chapter 8: Mod8 Rdr4 Step7k Mrk1 Mrk2 Mrk3 ModO IlOf
-/
import Derived.Test.YthpdpoocigpccaaGreatDoorKU02
import Derived.Test.YthpdpoocigpccaaGreatDoorKU04
import Derived.Test.YthpdpoocigpccaaGreatDoorKU05
import Derived.Test.YthpdpoocigpccaaGreatDoorKU34
import Derived.Deep.RegionLaw
import Derived.OpenShut
import Derived.Deep.SlicePairs
import Derived.Lib.SmallJoins
import Derived.ChangeOld
import Derived.Deep.Slices
import Derived.ChangeSlices
namespace Go.Proofs.YthpdpoocigpccaaGreatDoor
open Go.RowKit Go.Shelf
set_option linter.unusedVariables false
set_option maxRecDepth 100000
set_option maxHeartbeats 16000000
def OF (W:World) (n₀:Nat) (v:Value) (fs:List Fn):Prop :=
 ∃ g cap vs,v = .slice (some ⟨g,0,none⟩) fs.length cap ∧ W.ownsRow n₀ 76 4 (.slice (some ⟨g,0,none⟩) fs.length cap) fs.length (encF vs) ∧ Tells W n₀ fs.length vs fs
theorem OF.kept {W W':World} {n₀:Nat} {v:Value} {fs:List Fn} (h:OF W n₀ v fs) (hB:Below W.heap.size W W'):OF W' n₀ v fs:=by
 obtain ⟨g,cap,vs,rfl,hrow,ht⟩:=h
 exact ⟨g,cap,vs,rfl,hrow.kept (row:=none) ⟨hB.os,hB.tape,hB.output,hB.size,fun k hk _ => hB.block k hk⟩ (.inr (by simp [Value.ownBlock])),ht.kept hB⟩
theorem OF.other {W W':World} {n₀ k:Nat} {v:Value} {fs:List Fn} (h:OF W n₀ v fs) (hg:W.grownBy W' (some k)) (hne:k < n₀):OF W' n₀ v fs:=by
 obtain ⟨g,cap,vs,rfl,hrow,ht⟩:=h
 have h0:=(hrow.lt g rfl).1
 exact ⟨g,cap,vs,rfl,hrow.kept hg (.inr (by simp only [Value.ownBlock,ne_eq,Option.some.injEq];omega)),ht.other hg hne⟩
theorem OF.set {W:World} {n₀:Nat} {v:Value} {fs:List Fn} (h:OF W n₀ v fs) (p:Addr) (hp:p.block < n₀) (x:Value):OF (W.setCell p x) n₀ v fs:=h.other (grownBy_set' W p x) hp
theorem OF.FL {W:World} {n₀:Nat} {v:Value} {fs:List Fn} (h:OF W n₀ v fs):∃ g cap,v = .slice (some ⟨g,0,none⟩) fs.length cap ∧ n₀ ≤ g ∧ g < W.heap.size ∧ Go.Proofs.YthpdpoocigpccaaGreatDoor.FL W (some ⟨g,0,none⟩) fs.length fs:=by
 obtain ⟨g,cap,vs,rfl,hrow,ht⟩:=h
 exact ⟨g,cap,rfl,(hrow.lt g rfl).1,(hrow.lt g rfl).2,FL_of_row hrow rfl ht⟩
theorem Tells.mono {W:World} {n₀ n₁ k:Nat} {vs:List Fv} {fs:List Fn} (h:Tells W n₁ k vs fs) (hn:n₀ ≤ n₁):Tells W n₀ k vs fs :=
 fun j hj => ⟨(h j hj).1,(h j hj).2.1,(h j hj).2.2.1,(h j hj).2.2.2.mono hn⟩
theorem row_mono8 {W:World} {n₀ n₁:Nat} {e k:Nat} {v:Value} {n:Nat} {xs:List Value} (h:W.ownsRow n₁ e k v n xs) (hn:n₀ ≤ n₁):W.ownsRow n₀ e k v n xs:=by
 refine ⟨h.1,?_⟩
 rcases h.2 with h' | ⟨g',cap',cur,h',hb,r⟩
 · exact .inl h'
 · exact .inr ⟨g',cap',cur,h',Nat.le_trans hn hb,r⟩
theorem OF.mono {W:World} {n₀ n₁:Nat} {v:Value} {fs:List Fn} (h:OF W n₁ v fs) (hn:n₀ ≤ n₁):OF W n₀ v fs:=by
 obtain ⟨g,cap,vs,rfl,hrow,ht⟩:=h
 exact ⟨g,cap,vs,rfl,row_mono8 hrow hn,ht.mono hn⟩
theorem toFuncS_is (a:Option Addr) (len cap:Nat) (fs:List Fn) (h20:len ≤ 1048576) (hsm:Small len fs) (w:World) (hs:FL w a len fs) :
   Calls Tryz.prog 41 #[.slice a len cap] w fun e w' => ∃ v,e = .returned v ∧ OF w' w.heap.size v fs ∧ Below w.heap.size w w':=by
 obtain ⟨hl,hm,hrow⟩:=hs
 have HL:Hid (fs.length=len):=hl
 have HSM:=Hid.put hsm
 clear hm hl hsm
 obtain ⟨i0,hi,hz0,hz1,hz2⟩:=info_parts info_func
 obtain ⟨wm,hmk,hown,hgrow⟩:=run_make_full (P:=Tryz.prog) w w.heap.size 24 76 i0 _ 4 Tryz.underlying24 hi hz0 hz1 .i64 .i64 len (by rw [hz2];omega) (by simp only [maxLen];omega) (Nat.le_refl _)
 have hBm:Below w.heap.size w wm:=⟨hgrow.os,hgrow.tape,hgrow.output,hgrow.size,fun k hk => hgrow.block k hk (by simp)⟩
 have hown0:wm.ownsRow w.heap.size 76 4 (.slice (some ⟨w.heap.size,0,none⟩) len len) len (encF (List.replicate len Fv0)):=by rw [← encF_zero];exact hown
 clear hown hgrow
 go_enter Tryz.func41,Tryz.ntmps41
 go_wp2
 go_loopw [4] (fun i wr => ∃ (k:Nat) (vs:List Fv),i = .int .i64 k ∧ k ≤ len ∧ vs.length=len ∧ Tells wr (w.heap.size + 1) k vs fs ∧ wr.ownsRow w.heap.size 76 4 (.slice (some ⟨w.heap.size,0,none⟩) len len) len (encF vs) ∧ Below w.heap.size w wr) (fun i _ => len - (intOf i).toNat)
 case atStart => exact ⟨0,_,rfl,Nat.zero_le _,by simp,fun j hj => by omega,hown0,hBm⟩
 case round =>
   obtain ⟨k,vs,rfl,hk,hvl,hvs,hown,hB⟩:=hrel
   have HY:=Hid.put (And.intro hvl hvs)
   clear hvl hvs hown0 hBm
   by_cases hlt:k < len
   · rcases hrow with h0 | ⟨b,off,rfl,hb,hx⟩
     · omega
     · obtain ⟨x0,x1,x2,ba,bl,bc,x3,hsl⟩:=hx k hlt
       have hx0:=(hB.cell (p:=⟨b,off + k * 4,none⟩) hb).trans x0
       have hx1:=(hB.cell (p:=⟨b,off + k * 4 + 1,none⟩) hb).trans x1
       have hx2:=(hB.cell (p:=⟨b,off + k * 4 + 2,none⟩) hb).trans x2
       have hx3:=(hB.cell (p:=⟨b,off + k * 4 + 3,none⟩) hb).trans x3
       have h20b:=HSM.out k hlt
       obtain ⟨⟨p,l,g,bd⟩,hpq⟩:∃ x,fs.getD k .z=x:=⟨_,rfl⟩
       rw [hpq] at hx0 hx1 hx2 hsl h20b
       simp only at hx0 hx1 hx2 hsl h20b
       have HP:Hid (fs.getD k .z=⟨p,l,g,bd⟩):=hpq
       have hcon:=toFunc_is p l g bd ba bl bc (by have:=hsl.1;omega) _ (hsl.kept hB)
       have hgsz:w.heap.size < wr.heap.size:=(hown.lt _ rfl).2
       clear hx hpq x0 x1 x2 x3 hsl h20b
       go_wp2_with fail
       refine hcon.mono ?_
       rintro e w1 ⟨v,rfl,hos,hB1⟩
       clear hcon
       obtain ⟨gb,cb,rfl,hgb0,hgb1, -⟩:=hos.SL
       have hB2:=hB.trans (hB1.mono hB.size)
       have hown1:=hown.kept (row:=none) ⟨hB1.os,hB1.tape,hB1.output,hB1.size,fun k hk _ => hB1.block k hk⟩ (.inr (by simp [Value.ownBlock]))
       have hos1:=hos.mono (n₀:=w.heap.size + 1) (by omega)
       obtain ⟨hvl,hvs⟩:=HY.out
       have hvs1:=hvs.kept hB1
       obtain ⟨g0,g1,g2,g3⟩:=encF_get vs k (by omega)
       have hc0:=(hown1.cellAt (k * 4) (by omega)).trans g0
       have hc1:=(hown1.cellAt (k * 4 + 1) (by omega)).trans g1
       have hc2:=(hown1.cellAt (k * 4 + 2) (by omega)).trans g2
       have hc3:=(hown1.cellAt (k * 4 + 3) (by omega)).trans g3
       obtain ⟨⟨p',l',q',v'⟩,hpq'⟩:∃ x,vs.getD k Fv0=x:=⟨_,rfl⟩
       rw [hpq'] at hc0 hc1 hc2 hc3
       simp only at hc0 hc1 hc2 hc3
       have hf0:=hown1.frozenAt (k * 4)
       have hf1:=hown1.frozenAt (k * 4 + 1)
       have hf2:=hown1.frozenAt (k * 4 + 2)
       have hf3:=hown1.frozenAt (k * 4 + 3)
       have hst1:=hown1.stored (k * 4) (.int .i64 p)
       have hst2:=hst1.1.stored (k * 4 + 1) (.int .i64 l)
       have hst3:=hst2.1.stored (k * 4 + 2) (.int .i64 g)
       have hst4:=hst3.1.stored (k * 4 + 3) (.slice (some ⟨gb,0,none⟩) bd.length cb)
       have hgr:=grownBy_trans' (grownBy_trans' (grownBy_trans' hst1.2 hst2.2) hst3.2) hst4.2
       have ht4:=hvs1.other hgr (by omega)
       have ho4:=hos1.other hgr (by omega)
       rw [← encF_set vs k (p,l,g,(.slice (some ⟨gb,0,none⟩) bd.length cb))] at hst4
       have HST:=Hid.put (And.intro hst4.1 (And.intro ht4 ho4))
       clear hvl hvs hvs1 g0 g1 g2 g3 hpq' hst1 hst2 hst3 hst4 hgr ht4 ho4 hos1 hos
       have hB3:=(((hB2.setCell (p:=⟨w.heap.size,k * 4,none⟩) (Nat.le_refl _) (.int .i64 p)).setCell (p:=⟨w.heap.size,k * 4 + 1,none⟩) (Nat.le_refl _) (.int .i64 l)).setCell (p:=⟨w.heap.size,k * 4 + 2,none⟩) (Nat.le_refl _) (.int .i64 g)).setCell (p:=⟨w.heap.size,k * 4 + 3,none⟩) (Nat.le_refl _) (.slice (some ⟨gb,0,none⟩) bd.length cb)
       go_wp2
       go_roundw
       case rel =>
         obtain ⟨hvl,hvs⟩:=HY.out
         obtain ⟨s1,s2,s3⟩:=HST.out
         refine ⟨k + 1,vs.set k (p,l,g,(.slice (some ⟨gb,0,none⟩) bd.length cb)),by simp,by omega,by simp [hvl],fun j hj => ?_,s1,hB3⟩
         by_cases e:j=k
         · subst e
           have e1:(vs.set j (p,l,g,(.slice (some ⟨gb,0,none⟩) bd.length cb))).getD j Fv0=(p,l,g,(.slice (some ⟨gb,0,none⟩) bd.length cb)):=by rw [List.getD_eq_getElem?_getD,List.getElem?_set_self (by omega)];rfl
           rw [e1,HP.out]
           exact ⟨rfl,rfl,rfl,s3⟩
         · have e1:(vs.set k (p,l,g,(.slice (some ⟨gb,0,none⟩) bd.length cb))).getD j Fv0=vs.getD j Fv0:=by rw [List.getD_eq_getElem?_getD,List.getElem?_set_ne (by omega),← List.getD_eq_getElem?_getD]
           rw [e1]
           exact s2 j (by omega)
       case measure => simp [intOf];omega
   · have hke:k=len:=by omega
     subst hke
     clear hrow
     go_wp2
     go_ret
     obtain ⟨hvl,hvs⟩:=HY.out
     rw [← HL.out] at hown hvs
     exact ⟨_,by rw [← HL.out];rfl,⟨_,_,vs,rfl,hown,hvs.mono (by omega)⟩,hB⟩
theorem toModule_is (a:Option Addr) (len cap:Nat) (fs:List Fn) (d:ByteArray) (h20:len ≤ 1048576) (hsm:Small len fs) (w:World) (hs:FL w a len fs) :
   Calls Tryz.prog 19 #[.agg #[.slice a len cap,.string d]] w fun e w' => ∃ v,e = .returned (.agg #[v,.string d]) ∧ OF w' w.heap.size v fs ∧ Below w.heap.size w w':=by
 have hB3:=below_three' w (.cells #[.slice a len cap,.string d] 41) (.cells #[.slice none 0 0,.string ⟨#[]⟩] 26) (.cells #[.slice none 0 0,.string ⟨#[]⟩] 26)
 have b1:=(Box2.new (w.alloc (.cells #[.slice a len cap,.string d] 41)) (.slice none 0 0) (.string ⟨#[]⟩) 26).kept (below_one _ (.cells #[.slice none 0 0,.string ⟨#[]⟩] 26))
 have b2:=Box2.new ((w.alloc (.cells #[.slice a len cap,.string d] 41)).alloc (.cells #[.slice none 0 0,.string ⟨#[]⟩] 26)) (.slice none 0 0) (.string ⟨#[]⟩) 26
 have b0:=((Box2.new w (.slice a len cap) (.string d) 41).kept (below_one _ (.cells #[.slice none 0 0,.string ⟨#[]⟩] 26))).kept (below_one _ (.cells #[.slice none 0 0,.string ⟨#[]⟩] 26))
 simp only [World.size_alloc] at b1 b2
 have hcon:=toFuncS_is a len cap fs h20 hsm _ (hs.kept hB3)
 go_enter Tryz.func19,Tryz.ntmps19
 go_wp2_with fail
 refine hcon.mono ?_
 rintro e w4 ⟨v,rfl,hof,hB4⟩
 obtain ⟨g,c,rfl,hg0,hg1, -⟩:=hof.FL
 simp only [World.size_alloc] at hof hg0
 have b3:=b1.kept hB4
 have b4:=b2.kept hB4
 have b5:=b0.kept hB4
 have hB5:=hB3.trans (hB4.mono hB3.size)
 clear b1 b2 b0 hcon hB3 hB4 hs
 obtain ⟨p0,p1,p2,p5,p6⟩:=b3
 obtain ⟨q0,q1,q2,q5,q6⟩:=b4
 obtain ⟨r0,r1,r2,r5,r6⟩:=b5
 go_wp2
 (try simp only [Exit.inBlock,Exit.then])
 refine bodyPost_ret (v:=.agg #[.slice (some ⟨g,0,none⟩) fs.length c,.string d]) ?_ rfl ⟨_,rfl,((((hof.set ⟨w.heap.size + 1 + 1,0,none⟩ (by simp) _).set ⟨w.heap.size + 1 + 1,1,none⟩ (by simp) _).set ⟨w.heap.size + 1,0,none⟩ (by simp) _).set ⟨w.heap.size + 1,1,none⟩ (by simp) _).mono (by omega),
   (((hB5.setCell (p:=⟨w.heap.size + 1 + 1,0,none⟩) (by simp;omega) _).setCell (p:=⟨w.heap.size + 1 + 1,1,none⟩) (by simp;omega) _).setCell (p:=⟨w.heap.size + 1,0,none⟩) (by simp) _).setCell (p:=⟨w.heap.size + 1,1,none⟩) (by simp) _⟩
 rw [results_cell1 rfl]
 go_simp
theorem eqFunc_same (p l g:Int) (body:List (Int × Int)) (ba ba':Option Addr) (bl bc bc':Nat) (w:World) (hs:SL w ba bl body) (hs':SL w ba' bl body) :
   Calls Tryz.prog 65 #[.agg #[.int .i64 p,.int .i64 l,.int .i64 g,.slice ba bl bc],.agg #[.int .i64 p,.int .i64 l,.int .i64 g,.slice ba' bl bc']] w fun e w' => e = .returned (.bool true) ∧ Below w.heap.size w w':=by
 have hB2:=below_two w (.cells #[.int .i64 p,.int .i64 l,.int .i64 g,.slice ba bl bc] 76) (.cells #[.int .i64 p,.int .i64 l,.int .i64 g,.slice ba' bl bc'] 76)
 have hcon:=eqStepS_same ba ba' bl bc bc' body _ (hs.kept hB2) (hs'.kept hB2)
 go_enter Tryz.func65,Tryz.ntmps65
 go_wp2_with fail
 refine hcon.mono ?_
 rintro e w1 ⟨rfl,hB3⟩
 have hB4:=hB2.trans (hB3.mono hB2.size)
 go_wp2
 go_ret
 exact ⟨rfl,hB4⟩
theorem eqFuncS_same (a b:Option Addr) (len cap cap':Nat) (fs:List Fn) (w:World) (hs:FL w a len fs) (hs':FL w b len fs) :
   Calls Tryz.prog 42 #[.slice a len cap,.slice b len cap'] w fun e w' => e = .returned (.bool true) ∧ Below w.heap.size w w':=by
 obtain ⟨hl,hm,hrow⟩:=hs
 obtain ⟨-, -,hrow'⟩:=hs'
 clear hl
 unfold maxLen at hm
 go_enter Tryz.func42,Tryz.ntmps42
 go_wp2
 go_loopw [5] (fun i wr => ∃ k:Nat,i = .int .i64 k ∧ k ≤ len ∧ Below w.heap.size w wr) (fun i _ => len - (intOf i).toNat)
 case atStart => exact ⟨0,rfl,Nat.zero_le _,Below.refl _ _⟩
 case round =>
   obtain ⟨k,rfl,hk,hB⟩:=hrel
   by_cases hlt:k < len
   · rcases hrow with h0 | ⟨b1,off1,rfl,hb1,hx1⟩
     · omega
     rcases hrow' with h0 | ⟨b2,off2,rfl,hb2,hx2⟩
     · omega
     obtain ⟨x0,x1,x2,ba,bl,bc,x3,hsl⟩:=hx1 k hlt
     obtain ⟨y0,y1,y2,ba',bl',bc',y3,hsl'⟩:=hx2 k hlt
     obtain ⟨⟨p,l,g,bd⟩,hpq⟩:∃ x,fs.getD k .z=x:=⟨_,rfl⟩
     rw [hpq] at x0 x1 x2 y0 y1 y2 hsl hsl'
     simp only at x0 x1 x2 y0 y1 y2 hsl hsl'
     obtain rfl:bl=bl':=hsl.1.symm.trans hsl'.1
     have hs1:=hsl.kept hB
     have hs2:=hsl'.kept hB
     have hc0:∀ wx:Beh wr,wx.to.cell? ⟨b1,off1 + k * 4,none⟩=some (.int .i64 p):=fun wx => ((hB.trans (wx.h.mono hB.size)).cell (p:=⟨b1,off1 + k * 4,none⟩) hb1).trans x0
     have hc1:∀ wx:Beh wr,wx.to.cell? ⟨b1,off1 + k * 4 + 1,none⟩=some (.int .i64 l):=fun wx => ((hB.trans (wx.h.mono hB.size)).cell (p:=⟨b1,off1 + k * 4 + 1,none⟩) hb1).trans x1
     have hc2:∀ wx:Beh wr,wx.to.cell? ⟨b1,off1 + k * 4 + 2,none⟩=some (.int .i64 g):=fun wx => ((hB.trans (wx.h.mono hB.size)).cell (p:=⟨b1,off1 + k * 4 + 2,none⟩) hb1).trans x2
     have hc3:∀ wx:Beh wr,wx.to.cell? ⟨b1,off1 + k * 4 + 3,none⟩=some (.slice ba bl bc):=fun wx => ((hB.trans (wx.h.mono hB.size)).cell (p:=⟨b1,off1 + k * 4 + 3,none⟩) hb1).trans x3
     have hd0:∀ wx:Beh wr,wx.to.cell? ⟨b2,off2 + k * 4,none⟩=some (.int .i64 p):=fun wx => ((hB.trans (wx.h.mono hB.size)).cell (p:=⟨b2,off2 + k * 4,none⟩) hb2).trans y0
     have hd1:∀ wx:Beh wr,wx.to.cell? ⟨b2,off2 + k * 4 + 1,none⟩=some (.int .i64 l):=fun wx => ((hB.trans (wx.h.mono hB.size)).cell (p:=⟨b2,off2 + k * 4 + 1,none⟩) hb2).trans y1
     have hd2:∀ wx:Beh wr,wx.to.cell? ⟨b2,off2 + k * 4 + 2,none⟩=some (.int .i64 g):=fun wx => ((hB.trans (wx.h.mono hB.size)).cell (p:=⟨b2,off2 + k * 4 + 2,none⟩) hb2).trans y2
     have hd3:∀ wx:Beh wr,wx.to.cell? ⟨b2,off2 + k * 4 + 3,none⟩=some (.slice ba' bl bc'):=fun wx => ((hB.trans (wx.h.mono hB.size)).cell (p:=⟨b2,off2 + k * 4 + 3,none⟩) hb2).trans y3
     have hne:=Beh.any wr
     clear hx1 hx2 x0 x1 x2 x3 y0 y1 y2 y3 hpq hsl hsl'
     go_wp2
     refine wp_region_beh (by kernel_rfl) (by kernel_rfl) ?_
     repeat (go_big_quiet_step (first | (go_at_call 65;refine calls_beh (eqFunc_same _ _ _ bd _ _ _ _ _ _ (hs1.kept (Beh.h _)) (hs2.kept (Beh.h _))))))
     refine wpQuiet_nil ?_
     rintro _ ⟨pw,rfl⟩
     have hB7:=hB.trans (pw.h.mono hB.size)
     generalize pw.to=w7 at *
     go_wp2
     go_roundw
     case rel => exact ⟨k + 1,by simp,by omega,hB7⟩
     case measure => simp [intOf];omega
   · clear hrow hrow'
     go_wp2
     go_ret
     exact ⟨rfl,hB⟩
theorem eqModule_same (a b:Option Addr) (len cap cap':Nat) (fs:List Fn) (d:ByteArray) (w:World) (hs:FL w a len fs) (hs':FL w b len fs) :
   Calls Tryz.prog 22 #[.agg #[.slice a len cap,.string d],.agg #[.slice b len cap',.string d]] w fun e w' => e = .returned (.bool true) ∧ Below w.heap.size w w':=by
 have hB2:=below_two w (.cells #[.slice a len cap,.string d] 26) (.cells #[.slice b len cap',.string d] 26)
 have b1:=Box2.new (w.alloc (.cells #[.slice a len cap,.string d] 26)) (.slice b len cap') (.string d) 26
 have b0:=(Box2.new w (.slice a len cap) (.string d) 26).kept (below_one _ (.cells #[.slice b len cap',.string d] 26))
 simp only [World.size_alloc] at b1
 have hcon:=eqFuncS_same a b len cap cap' fs _ (hs.kept hB2) (hs'.kept hB2)
 go_enter Tryz.func22,Tryz.ntmps22
 go_wp2_with fail
 refine hcon.mono ?_
 rintro e w1 ⟨rfl,hB3⟩
 have hB4:=hB2.trans (hB3.mono hB2.size)
 obtain ⟨p0,p1,p2,p5,p6⟩:=b0.kept hB3
 obtain ⟨q0,q1,q2,q5,q6⟩:=b1.kept hB3
 clear b0 b1 hcon
 go_wp2
 go_ret
 exact ⟨rfl,hB4⟩
def bk:Value → Nat
 | .slice (some a) _ _ => a.block
 | _ => 0
def OM (W:World) (n₀:Nat) (v:Value) (fs:List Fn) (vs:List Fv):Prop :=
 W.ownsRow n₀ 76 4 v fs.length (encF vs) ∧ vs.length=fs.length ∧ Tells W n₀ fs.length vs fs ∧ (vs.map fun x => bk x.2.2.2).Pairwise (· < ·)
theorem row_kept' {W W':World} {n₀ e k n:Nat} {v:Value} {xs:List Value} (h:W.ownsRow n₀ e k v n xs) (hB:Below W.heap.size W W'):W'.ownsRow n₀ e k v n xs:=by
 refine h.kept (row:=none) ⟨hB.os,hB.tape,hB.output,hB.size,fun k hk _ => hB.block k hk⟩ ?_
 rcases hv:v.ownBlock with _ | b
 · exact .inl rfl
 · exact .inr (by simp)
theorem row_far {W W':World} {n₀ e k n b:Nat} {v:Value} {xs:List Value} (h:W.ownsRow n₀ e k v n xs) (hg:W.grownBy W' (some b)) (hb:b < n₀):W'.ownsRow n₀ e k v n xs:=by
 refine h.kept hg ?_
 rcases hv:v.ownBlock with _ | b'
 · exact .inl rfl
 · refine .inr ?_
   have:=(h.lt b' hv).1
   simp only [ne_eq,Option.some.injEq]
   omega
theorem OM.kept {W W':World} {n₀:Nat} {v:Value} {fs:List Fn} {vs:List Fv} (h:OM W n₀ v fs vs) (hB:Below W.heap.size W W'):OM W' n₀ v fs vs:=⟨row_kept' h.1 hB,h.2.1,h.2.2.1.kept hB,h.2.2.2⟩
theorem OM.far {W W':World} {n₀ b:Nat} {v:Value} {fs:List Fn} {vs:List Fv} (h:OM W n₀ v fs vs) (hg:W.grownBy W' (some b)) (hb:b < n₀):OM W' n₀ v fs vs:=⟨row_far h.1 hg hb,h.2.1,h.2.2.1.other hg hb,h.2.2.2⟩
theorem OM.mono {W:World} {n₀ n₁:Nat} {v:Value} {fs:List Fn} {vs:List Fv} (h:OM W n₁ v fs vs) (hn:n₀ ≤ n₁):OM W n₀ v fs vs:=⟨row_mono8 h.1 hn,h.2.1,h.2.2.1.mono hn,h.2.2.2⟩
theorem OM.slice {W:World} {n₀:Nat} {v:Value} {fs:List Fn} {vs:List Fv} (h:OM W n₀ v fs vs):∃ a cap,v = .slice a fs.length cap ∧ Go.Proofs.YthpdpoocigpccaaGreatDoor.FL W a fs.length fs:=by
 obtain ⟨hrow,hl,ht, -⟩:=h
 rcases hrow.2 with ⟨rfl,h0⟩ | ⟨g,cap,cur,rfl,_⟩
 · exact ⟨none,0,by rw [h0],rfl,by rw [h0];exact Nat.zero_le _,.inl h0⟩
 · exact ⟨_,cap,rfl,FL_of_row hrow rfl ht⟩
theorem OS.row {W W':World} {n₀ m n:Nat} {u v:Value} {xs:List (Int × Int)} {ys:List Value} (h:OS W n₀ u xs) (hv:W.ownsRow m 76 4 v n ys) (hg:W.grownBy W' v.ownBlock):OS W' n₀ u xs:=by
 obtain ⟨b,cap,rfl,h0,hlt,hm,hrow⟩:=h
 refine ⟨b,cap,rfl,h0,Nat.lt_of_lt_of_le hlt hg.size,hm,hrow.kept hg (.inr ?_)⟩
 rcases hv.2 with ⟨rfl,_⟩ | ⟨g,cap',cur,rfl,_,hc,_⟩
 · simp [Value.ownBlock]
 · rcases hrow.2 with ⟨h',_⟩ | ⟨g',cap'',cur',h',_,hc',_⟩
   · cases h'
   · cases h'
     simp only [Value.ownBlock,ne_eq,Option.some.injEq]
     rintro rfl
     rw [hc] at hc'
     simp at hc'
theorem Tells.row {W W':World} {n₀ m n k:Nat} {v:Value} {vs:List Fv} {fs:List Fn} {ys:List Value} (h:Tells W n₀ k vs fs) (hv:W.ownsRow m 76 4 v n ys) (hg:W.grownBy W' v.ownBlock):Tells W' n₀ k vs fs :=
 fun j hj => ⟨(h j hj).1,(h j hj).2.1,(h j hj).2.2.1,(h j hj).2.2.2.row hv hg⟩
theorem OM.bk_lt {W:World} {n₀:Nat} {v:Value} {fs:List Fn} {vs:List Fv} (h:OM W n₀ v fs vs):∀ b ∈ vs.map (fun x => bk x.2.2.2),b < W.heap.size:=by
 intro b hb
 obtain ⟨x,hx,rfl⟩:=List.mem_map.1 hb
 obtain ⟨j,hj,rfl⟩:=List.getElem_of_mem hx
 obtain ⟨_,hl,ht,_⟩:=h
 have:=(ht j (by omega)).2.2.2
 rw [List.getD_eq_getElem?_getD,List.getElem?_eq_getElem hj] at this
 obtain ⟨g,cap,e,_,hlt,_⟩:=this
 simp only [Option.getD_some] at e
 rw [e]
 exact hlt
theorem OM.app {W W' W0:World} {n₀:Nat} {v v':Value} {fs:List Fn} {vs:List Fv} {p q g:Int} {gb cb:Nat} {xs:List (Int × Int)} (h:OM W n₀ v fs vs) (hW0:∀ b ∈ vs.map (fun x => bk x.2.2.2),b < W0.heap.size) (hos:OS W W0.heap.size (.slice (some ⟨gb,0,none⟩) xs.length cb) xs) (h0:n₀ ≤ W0.heap.size)
   (hown:W'.ownsRow n₀ 76 4 v' (fs.length + 1) (encF (vs ++ [(p,q,g,.slice (some ⟨gb,0,none⟩) xs.length cb)]))) (hg:W.grownBy W' v.ownBlock) :
   OM W' n₀ v' (fs ++ [⟨p,q,g,xs⟩]) (vs ++ [(p,q,g,.slice (some ⟨gb,0,none⟩) xs.length cb)]):=by
 obtain ⟨hrow,hl,ht,hp⟩:=h
 refine ⟨by rw [List.length_append];exact hown,by simp [hl],?_,?_⟩
 · intro j hj
   rw [List.length_append] at hj
   simp only [List.length_singleton] at hj
   by_cases e:j=fs.length
   · subst e
     have e1:(vs ++ [(p,q,g,Value.slice (some ⟨gb,0,none⟩) xs.length cb)]).getD fs.length Fv0=(p,q,g,.slice (some ⟨gb,0,none⟩) xs.length cb):=by rw [← hl,List.getD_eq_getElem?_getD];simp
     have e2:(fs ++ [(⟨p,q,g,xs⟩:Fn)]).getD fs.length .z=⟨p,q,g,xs⟩:=by rw [List.getD_eq_getElem?_getD];simp
     rw [e1,e2]
     exact ⟨rfl,rfl,rfl,(hos.row hrow hg).mono h0⟩
   · have hj':j < fs.length:=by omega
     have e1:(vs ++ [(p,q,g,Value.slice (some ⟨gb,0,none⟩) xs.length cb)]).getD j Fv0=vs.getD j Fv0:=by rw [List.getD_eq_getElem?_getD,List.getElem?_append_left (by omega),← List.getD_eq_getElem?_getD]
     have e2:(fs ++ [(⟨p,q,g,xs⟩:Fn)]).getD j .z=fs.getD j .z:=by rw [List.getD_eq_getElem?_getD,List.getElem?_append_left hj',← List.getD_eq_getElem?_getD]
     rw [e1,e2]
     exact ht.row hrow hg j hj'
 · rw [List.map_append,List.pairwise_append]
   refine ⟨hp,by simp,?_⟩
   intro a ha b hb
   simp only [List.map_cons,List.map_nil,List.mem_singleton] at hb
   subst hb
   obtain ⟨g',cap',e,hge,_⟩:=hos
   cases e
   have:=hW0 a ha
   simp only [bk] at *
   omega
def marksAt (k:Int) (n:Nat):List (Int × Int):=(List.range n).map fun (j:Nat) => (k + 2 * (j:Int),k + 2 * (j:Int) + 1)
theorem marksAt_get {k:Int} {n j:Nat} (h:j < n):(marksAt k n).getD j (0,0)=(k + 2 * (j:Int),k + 2 * (j:Int) + 1):=by
 simp [marksAt,List.getD_eq_getElem?_getD,h]
theorem marksAt_len (k:Int) (n:Nat):(marksAt k n).length=n:=by simp [marksAt]
theorem markStepS_at (g n cap n₀:Nat) (xs:List (Int × Int)) (k0:Int) (hk0:0 ≤ k0) (hk1:k0 ≤ 4611686018427) (hn:n ≤ 2000000) (w:World) (hs:OS w n₀ (.slice (some ⟨g,0,none⟩) n cap) xs) :
   Calls Tryz.prog 66 #[.slice (some ⟨g,0,none⟩) n cap,.int .i64 k0] w fun e w' => e = .returned (.int .i64 (k0 + 2 * (n:Int))) ∧ OS w' n₀ (.slice (some ⟨g,0,none⟩) n cap) (marksAt k0 n) ∧ w.grownBy w' (some g):=by
 obtain ⟨g',cap',hv,h0,hlt,hm,hrow⟩:=hs
 have hgg:w.grownBy w (some g):=World.grownBy.refl _ _
 have hxl:xs.length=n:=by cases hv;rfl
 rw [hxl] at hrow
 clear hm hv h0 hlt
 go_enter Tryz.func66,Tryz.ntmps66
 go_wp2
 go_loopw [1,5] (fun m i wr => ∃ (k:Nat) (ys:List (Int × Int)),m = .int .i64 (k0 + 2 * (k:Int)) ∧ i = .int .i64 k ∧ k ≤ n ∧ ys.length=n ∧ (∀ j,j < k → ys.getD j (0,0)=(k0 + 2 * (j:Int),k0 + 2 * (j:Int) + 1)) ∧ wr.ownsRow n₀ 78 2 (.slice (some ⟨g,0,none⟩) n cap) n (encS ys) ∧ w.grownBy wr (some g)) (fun _ i _ => n - (intOf i).toNat)
 case atStart => exact ⟨0,xs,by congr 1;omega,rfl,Nat.zero_le _,hxl,by simp,hrow,hgg⟩
 case round =>
   obtain ⟨k,ys,rfl,rfl,hk,hyl,hys,hown,hg⟩:=hrel
   have HY:Hid (ys.length=n ∧ ∀ j,j < k → ys.getD j (0,0)=(k0 + 2 * (j:Int),k0 + 2 * (j:Int) + 1)):=⟨hyl,hys⟩
   clear hrow hxl hgg
   by_cases hlt:k < n
   · obtain ⟨hg0,hg1⟩:=encS_get ys k (by omega)
     have hc0:=(hown.cellAt (k * 2) (by omega)).trans hg0
     have hc1:=(hown.cellAt (k * 2 + 1) (by omega)).trans hg1
     obtain ⟨⟨p',q'⟩,hpq'⟩:∃ x,ys.getD k (0,0)=x:=⟨_,rfl⟩
     rw [hpq'] at hc0 hc1
     have hf0:=hown.frozenAt (k * 2)
     have hf1:=hown.frozenAt (k * 2 + 1)
     have hst1:=hown.stored (k * 2) (.int .i64 (k0 + 2 * (k:Int)))
     have hst2:=hst1.1.stored (k * 2 + 1) (.int .i64 (k0 + 2 * (k:Int) + 1))
     rw [← encS_set ys k (k0 + 2 * (k:Int),k0 + 2 * (k:Int) + 1)] at hst2
     have HST:=Hid.put hst2.1
     have HG:=Hid.put (grownBy_trans' (grownBy_trans' hg hst1.2) hst2.2)
     clear hyl hys hg0 hg1 hpq' hst1 hst2 hown hg
     go_wp2
     go_roundw
     case rel =>
       obtain ⟨hyl,hys⟩:=HY.out
       refine ⟨k + 1,ys.set k (k0 + 2 * (k:Int),k0 + 2 * (k:Int) + 1),by congr 1 <;> omega,by simp,by omega,by simp [hyl],fun j hj => ?_,HST.out,HG.out⟩
       by_cases e:j=k
       · subst e
         rw [List.getD_eq_getElem?_getD,List.getElem?_set_self (by omega)]
         rfl
       · rw [← hys j (by omega),List.getD_eq_getElem?_getD,List.getElem?_set_ne (by omega),← List.getD_eq_getElem?_getD]
     case measure => simp [intOf];omega
   · have hke:k=n:=by omega
     subst hke
     clear hyl hys
     go_wp2
     go_ret
     obtain ⟨hyl,hys⟩:=HY.out
     have e:ys=marksAt k0 k:=by
       apply List.ext_getElem
       · rw [hyl];simp [marksAt]
       · intro j h1 h2
         have:=(hys j (by omega)).trans (marksAt_get (n:=k) (by omega)).symm
         simpa [List.getD_eq_getElem?_getD,List.getElem?_eq_getElem h1,List.getElem?_eq_getElem h2] using this
     rw [e] at hown
     exact ⟨rfl,OS.of_row hown,hg⟩
def kAt (fs:List Fn):Nat → Int
 | 0 => 1
 | i + 1 => kAt fs i + 3 + 2 * ((fs.getD i .z).b.length:Int)
def markd (fs:List Fn) (j:Nat):Fn:=⟨kAt fs j,kAt fs j + 1,kAt fs j + 2,marksAt (kAt fs j + 3) (fs.getD j .z).b.length⟩
def mkF (fs:List Fn):List Fn:=(List.range fs.length).map (markd fs)
theorem mkF_get {fs:List Fn} {j:Nat} (h:j < fs.length):(mkF fs).getD j .z=markd fs j:=by simp [mkF,List.getD_eq_getElem?_getD,h]
theorem mkF_len (fs:List Fn):(mkF fs).length=fs.length:=by simp [mkF]
theorem kAt_bd {fs:List Fn} (h:∀ j,j < fs.length → (fs.getD j .z).b.length ≤ 1048576):∀ i,i ≤ fs.length → 1 ≤ kAt fs i ∧ kAt fs i ≤ 1 + 2097155 * i
 | 0,_ => by simp [kAt]
 | i + 1,hi => by
   have:=kAt_bd h i (by omega)
   have:=h i (by omega)
   simp only [kAt]
   omega
theorem encF_set3 (vs:List Fv) (k:Nat) (x y z:Int) (h:k < vs.length):encF (vs.set k (x,y,z,(vs.getD k Fv0).2.2.2))=(((encF vs).set (k * 4) (.int .i64 x)).set (k * 4 + 1) (.int .i64 y)).set (k * 4 + 2) (.int .i64 z):=by
 rw [encF_set]
 have hg:=(encF_get vs k h).2.2.2
 apply List.ext_getElem?
 intro i
 by_cases e:i=k * 4 + 3
 · subst e
   have hl:k * 4 + 3 < (encF vs).length:=by rw [encF_length];omega
   rw [List.getElem?_set_self (by simpa using hl),List.getElem?_set_ne (by omega),List.getElem?_set_ne (by omega),List.getElem?_set_ne (by omega),hg]
 · rw [List.getElem?_set_ne (by omega)]
theorem bk_set (vs:List Fv) (k:Nat) (x y z:Int) (h:k < vs.length):(vs.set k (x,y,z,(vs.getD k Fv0).2.2.2)).map (fun x => bk x.2.2.2)=vs.map fun x => bk x.2.2.2:=by
 apply List.ext_getElem
 · simp
 · intro i h1 h2
   simp only [List.getElem_map,List.getElem_set]
   split
   · rename_i e
     subst e
     rw [List.getD_eq_getElem?_getD,List.getElem?_eq_getElem h]
     rfl
   · rfl
theorem getD_set_self {α:Type} {l:List α} {k:Nat} {x d:α} (h:k < l.length):(l.set k x).getD k d=x:=by rw [List.getD_eq_getElem?_getD,List.getElem?_set_self h];rfl
theorem getD_set_ne {α:Type} {l:List α} {k j:Nat} {x d:α} (h:j ≠ k):(l.set k x).getD j d=l.getD j d:=by rw [List.getD_eq_getElem?_getD,List.getElem?_set_ne (by omega),← List.getD_eq_getElem?_getD]
theorem OM.ints {W:World} {n₀ g cap k:Nat} {fs:List Fn} {vs:List Fv} (h:OM W n₀ (.slice (some ⟨g,0,none⟩) fs.length cap) fs vs) (hk:k < fs.length) (x y z:Int) :
   OM (((W.setCell ⟨g,k * 4,none⟩ (.int .i64 x)).setCell ⟨g,k * 4 + 1,none⟩ (.int .i64 y)).setCell ⟨g,k * 4 + 2,none⟩ (.int .i64 z)) n₀ (.slice (some ⟨g,0,none⟩) fs.length cap) (fs.set k ⟨x,y,z,(fs.getD k .z).b⟩) (vs.set k (x,y,z,(vs.getD k Fv0).2.2.2)) ∧
   W.grownBy (((W.setCell ⟨g,k * 4,none⟩ (.int .i64 x)).setCell ⟨g,k * 4 + 1,none⟩ (.int .i64 y)).setCell ⟨g,k * 4 + 2,none⟩ (.int .i64 z)) (some g):=by
 obtain ⟨hrow,hl,ht,hp⟩:=h
 have h1:=hrow.stored (k * 4) (.int .i64 x)
 have h2:=h1.1.stored (k * 4 + 1) (.int .i64 y)
 have h3:=h2.1.stored (k * 4 + 2) (.int .i64 z)
 have hg:=grownBy_trans' (grownBy_trans' h1.2 h2.2) h3.2
 refine ⟨⟨?_,by simp [hl],?_,?_⟩,hg⟩
 · rw [List.length_set,encF_set3 _ _ _ _ _ (by omega)]
   exact h3.1
 · intro j hj
   rw [List.length_set] at hj
   have:=ht.row hrow hg j hj
   by_cases e:j=k
   · subst e
     rw [getD_set_self (by omega),getD_set_self hj]
     exact ⟨rfl,rfl,rfl,this.2.2.2⟩
   · rw [getD_set_ne e,getD_set_ne e]
     exact this
 · rw [bk_set _ _ _ _ _ (by omega)]
   exact hp
theorem OM.body {W W':World} {n₀ k gb cb:Nat} {v:Value} {fs:List Fn} {vs:List Fv} {ys:List (Int × Int)} (h:OM W n₀ v fs vs) (hk:k < fs.length) (hv:(vs.getD k Fv0).2.2.2 = .slice (some ⟨gb,0,none⟩) ys.length cb) (hg:W.grownBy W' (some gb)) (hos:OS W' n₀ (.slice (some ⟨gb,0,none⟩) ys.length cb) ys) :
   OM W' n₀ v (fs.set k ⟨(fs.getD k .z).a,(fs.getD k .z).l,(fs.getD k .z).g,ys⟩) vs:=by
 obtain ⟨hrow,hl,ht,hp⟩:=h
 have hosk:=(ht k hk).2.2.2
 rw [hv] at hosk
 refine ⟨?_,by simp [hl],?_,hp⟩
 · rw [List.length_set]
   refine hrow.kept hg ?_
   rcases hrow.2 with ⟨rfl,_⟩ | ⟨g,cap',cur,rfl,_,hc,_⟩
   · exact .inl rfl
   · refine .inr ?_
     obtain ⟨g',cap'',e,_,_,_,hrow'⟩:=hosk
     rcases hrow'.2 with ⟨h',_⟩ | ⟨g',cap'',cur',h',_,hc',_⟩
     · cases h'
     · simp only [Value.slice.injEq,Option.some.injEq,Addr.mk.injEq] at h'
       obtain ⟨⟨h1,_⟩,_⟩:=h'
       subst h1
       simp only [Value.ownBlock,ne_eq,Option.some.injEq]
       rintro rfl
       rw [hc] at hc'
       simp at hc'
 · intro j hj
   rw [List.length_set] at hj
   by_cases e:j=k
   · subst e
     rw [getD_set_self hj,hv]
     exact ⟨(ht j hj).1,(ht j hj).2.1,(ht j hj).2.2.1,hos⟩
   · rw [getD_set_ne e]
     obtain ⟨t0,t1,t2,t3⟩:=ht j hj
     refine ⟨t0,t1,t2,?_⟩
     obtain ⟨gj,cj,ej,h0,hlt,hm,hrj⟩:=t3
     refine ⟨gj,cj,ej,h0,Nat.lt_of_lt_of_le hlt hg.size,hm,hrj.kept hg (.inr ?_)⟩
     rw [ej]
     simp only [Value.ownBlock,ne_eq,Option.some.injEq]
     have hb:∀ i,i < fs.length → ∀ b c n,(vs.getD i Fv0).2.2.2 = .slice (some ⟨b,0,none⟩) n c → (vs.map fun x => bk x.2.2.2)[i]? = some b:=by
       intro i hi b c n e
       rw [List.getElem?_map,List.getElem?_eq_getElem (by omega)]
       rw [List.getD_eq_getElem?_getD,List.getElem?_eq_getElem (by omega)] at e
       simp only [Option.getD_some] at e
       simp [e,bk]
     have hj1:=hb j hj gj cj _ ej
     have hk1:=hb k hk gb cb _ hv
     obtain ⟨hj2,hj3⟩:=List.getElem?_eq_some_iff.1 hj1
     obtain ⟨hk2,hk3⟩:=List.getElem?_eq_some_iff.1 hk1
     rw [List.pairwise_iff_getElem] at hp
     rcases Nat.lt_or_ge j k with hlt | hge
     · have:=hp j k hj2 hk2 hlt
       omega
     · have:=hp k j hk2 hj2 (by omega)
       omega
theorem below_of_grown8 {w w1 w2:World} {n₀ g:Nat} (h:Below n₀ w w1) (hg:w1.grownBy w2 (some g)) (hn:n₀ ≤ g) (hs:n₀ ≤ w1.heap.size):Below n₀ w w2 :=
 ⟨hg.os.trans h.os,hg.tape.trans h.tape,hg.output.trans h.output,Nat.le_trans h.size hg.size,fun k hk => (hg.block k (by omega) (by simp only [ne_eq,Option.some.injEq];omega)).trans (h.block k hk)⟩
def Above (N:Nat) (w w':World):Prop:=∀ b,N ≤ b → b < w.heap.size → w'.heap[b]? = w.heap[b]?
theorem Above.step {N g:Nat} {w w1 w2:World} (h:Above N w w1) (hs:w.heap.size ≤ w1.heap.size) (hg:w1.grownBy w2 (some g)) (hn:g < N):Above N w w2 :=
 fun b h1 h2 => (hg.block b (by omega) (by simp only [ne_eq,Option.some.injEq];omega)).trans (h b h1 h2)
theorem Box2.same {W W':World} {b:Nat} {v0 v1:Value} (h:Box2 W b v0 v1) (hs:W.heap.size ≤ W'.heap.size) (hb:W'.heap[b]? = W.heap[b]?):Box2 W' b v0 v1:=by
 obtain ⟨h0,h1,h2,h3,h4⟩:=h
 have hc:∀ i,W'.cell? ⟨b,i,none⟩=W.cell? ⟨b,i,none⟩:=fun i => World.cell?_of_block (a:=⟨b,i,none⟩) hb
 have hf:∀ i,W'.frozen? ⟨b,i,none⟩=W.frozen? ⟨b,i,none⟩:=fun i => World.frozen?_of_block (a:=⟨b,i,none⟩) hb
 exact ⟨Nat.lt_of_lt_of_le h0 hs,(hc 0).trans h1,(hc 1).trans h2,(hf 0).trans h3,(hf 1).trans h4⟩
theorem markFuncS_is (n₀:Nat) (v:Value) (fs:List Fn) (vs:List Fv) (h4:fs.length ≤ 1048576) (h80:∀ j,j < fs.length → (fs.getD j .z).b.length ≤ 1048576) (w:World) (hn:n₀ ≤ w.heap.size) (hs:OM w n₀ v fs vs) (N:Nat) (hN:∀ b,v.ownBlock=some b → b < N) (hNb:∀ b ∈ vs.map (fun x => bk x.2.2.2),b < N) :
   Calls Tryz.prog 43 #[v,.int .i64 1] w fun e w' => e = .returned (.int .i64 (kAt fs fs.length)) ∧ (∃ vs',OM w' n₀ v (mkF fs) vs') ∧ Below n₀ w w' ∧ Above N w w':=by
 obtain ⟨a,cap,rfl, -⟩:=hs.slice
 have hBr:=Below.refl n₀ w
 go_enter Tryz.func43,Tryz.ntmps43
 go_wp2
 go_loopw [1,5] (fun m i wr => ∃ (k:Nat) (gs:List Fn) (us:List Fv),m = .int .i64 (kAt fs k) ∧ i = .int .i64 k ∧ k ≤ fs.length ∧ gs.length=fs.length ∧ (∀ j,j < k → gs.getD j .z=markd fs j) ∧ (∀ j,k ≤ j → gs.getD j .z=fs.getD j .z) ∧ OM wr n₀ (.slice a fs.length cap) gs us ∧ Below n₀ w wr ∧ n₀ ≤ wr.heap.size ∧ (us.map fun x => bk x.2.2.2)=(vs.map fun x => bk x.2.2.2) ∧ Above N w wr) (fun _ i _ => fs.length - (intOf i).toNat)
 case atStart => exact ⟨0,fs,vs,rfl,rfl,Nat.zero_le _,rfl,fun j hj => by omega,fun j _ => rfl,hs,hBr,hn,rfl,fun _ _ _ => rfl⟩
 case round =>
   clear hs hBr
   obtain ⟨k,gs,us,rfl,rfl,hk,hgl,hg1,hg2,hom,hB,hsz,hbks,hAb⟩:=hrel
   have HBK:=Hid.put (And.intro hbks hAb)
   clear hbks hAb
   have hbd:=kAt_bd h80 k hk
   by_cases hlt:k < fs.length
   · have hst:=hom
     obtain ⟨hrow,hul,hte,hpw⟩:=hst
     rw [hgl] at hrow hul hte
     have hrow0:=hrow
     rcases hrow.2 with ⟨h',h0⟩ | ⟨g,cap',cur,h',hge,_,_,_,_,_⟩
     · omega
     cases h'
     obtain ⟨e0,e1,e2,e3⟩:=encF_get us k (by omega)
     have c0:=(hrow.cellAt (k * 4) (by omega)).trans e0
     have c1:=(hrow.cellAt (k * 4 + 1) (by omega)).trans e1
     have c2:=(hrow.cellAt (k * 4 + 2) (by omega)).trans e2
     have c3:=(hrow.cellAt (k * 4 + 3) (by omega)).trans e3
     have z0:=hrow.frozenAt (k * 4)
     have z1:=hrow.frozenAt (k * 4 + 1)
     have z2:=hrow.frozenAt (k * 4 + 2)
     obtain ⟨gb,cb,hub,hgb0,hgb1, -, -⟩:=(hte k hlt).2.2.2
     have hbl:(gs.getD k .z).b.length=(fs.getD k .z).b.length:=by rw [hg2 k (Nat.le_refl _)]
     have hb80:=h80 k hlt
     rw [hbl] at hub
     obtain ⟨⟨x',y',q',u'⟩,hxu⟩:∃ x,us.getD k Fv0=x:=⟨_,rfl⟩
     rw [hxu] at c0 c1 c2 c3 hub
     simp only at c0 c1 c2 c3 hub
     subst hub
     have hom1:=OM.ints (g:=g) (cap:=cap) (k:=k) (fs:=gs) (vs:=us) (W:=wr) (n₀:=n₀) (by rw [hgl];exact hom) (by omega) (kAt fs k) (kAt fs k + 1) (kAt fs k + 1 + 1)
     obtain ⟨hom1,hgr1⟩:=hom1
     rw [hgl,hxu] at hom1
     have hosb:OS (((wr.setCell ⟨g,k * 4,none⟩ (.int .i64 (kAt fs k))).setCell ⟨g,k * 4 + 1,none⟩ (.int .i64 (kAt fs k + 1))).setCell ⟨g,k * 4 + 2,none⟩ (.int .i64 (kAt fs k + 1 + 1))) n₀ (.slice (some ⟨gb,0,none⟩) (fs.getD k .z).b.length cb) (gs.getD k .z).b:=by
       have:=(hom1.2.2.1 k (by rw [List.length_set];omega)).2.2.2
       rw [getD_set_self (by omega),getD_set_self (by omega)] at this
       exact this
     have hcon:=markStepS_at gb (fs.getD k .z).b.length cb n₀ (gs.getD k .z).b (kAt fs k + 3) (by omega) (by omega) (by omega) _ hosb
     have HG:=Hid.put (And.intro hgl (And.intro hg1 hg2))
     have HOM1:=Hid.put (And.intro hom1 hgr1)
     have HXU:=Hid.put (And.intro hxu hul)
     have hgn:gb ≠ g:=by
       intro e
       subst e
       obtain ⟨g9,c9,e9,_,_,_,hr9⟩:=hosb
       have hr1:=hom1.1
       rcases hr1.2 with ⟨h',_⟩ | ⟨g',cap'',cur',h',_,hc',_⟩
       · cases h'
       · rcases hr9.2 with ⟨h'',_⟩ | ⟨g'',cap3,cur'',h'',_,hc'',_⟩
         · cases h''
         · simp only [Value.slice.injEq,Option.some.injEq,Addr.mk.injEq] at h' h''
           obtain ⟨⟨i1,_⟩,_⟩:=h'
           obtain ⟨⟨i2,_⟩,_⟩:=h''
           subst i1 i2
           rw [hc'] at hc''
           simp at hc''
     obtain ⟨K,hK⟩:∃ K,kAt fs k=K:=⟨_,rfl⟩
     obtain ⟨B,hBn⟩:∃ B,(fs.getD k .z).b.length=B:=⟨_,rfl⟩
     have HKB:=Hid.put (And.intro hK hBn)
     rw [hK] at hbd hcon
     rw [hBn] at hcon c3 hb80
     rw [hK]
     have e33:K + 3=K + 1 + 1 + 1:=by omega
     rw [e33] at hcon
     clear hom hom1 hgr1 hrow hrow0 hte hpw hosb hxu hul hgl hg1 hg2 e0 e1 e2 e3 hK hBn hbl e33
     go_wp2_with fail
     refine hcon.mono ?_
     rintro x w3 ⟨rfl,hos3,hg3⟩
     clear hcon
     go_wp2
     go_roundw
     case rel =>
       obtain ⟨hgl,hg1,hg2⟩:=HG.out
       obtain ⟨hom1,hgr1⟩:=HOM1.out
       obtain ⟨hxu,hul⟩:=HXU.out
       obtain ⟨hK,hBn⟩:=HKB.out
       rw [hK] at hom1 hgr1
       have hml:(marksAt (K + 1 + 1 + 1) B).length=B:=marksAt_len _ _
       rw [hBn] at hom1
       have hom3:=hom1.body (k:=k) (gb:=gb) (cb:=cb) (ys:=marksAt (K + 1 + 1 + 1) B) (by rw [List.length_set];omega) (by rw [getD_set_self (by omega),hml]) hg3 (by rw [hml];exact hos3)
       rw [getD_set_self (by omega),List.set_set] at hom3
       refine ⟨k + 1,_,_,?_,by simp,by omega,?_,?_,?_,hom3,?_,?_,?_,?_⟩
       · simp only [kAt,hK,hBn]
         congr 1
         omega
       · simp [hgl]
       · intro j hj
         by_cases e:j=k
         · subst e
           rw [getD_set_self (by omega),markd,hK,hBn]
           show (⟨K,K + 1,K + 1 + 1,marksAt (K + 1 + 1 + 1) B⟩:Fn)=⟨K,K + 1,K + 2,marksAt (K + 3) B⟩
           rw [show K + 1 + 1=K + 2 by omega,show K + 2 + 1=K + 3 by omega]
         · rw [getD_set_ne e]
           exact hg1 j (by omega)
       · intro j hj
         rw [getD_set_ne (by omega)]
         exact hg2 j (by omega)
       · exact below_of_grown8 (below_of_grown8 hB hgr1 hge hsz) hg3 hgb0 (Nat.le_trans hsz hgr1.size)
       · exact Nat.le_trans hsz (Nat.le_trans hgr1.size hg3.size)
       · have hbs:=bk_set us k K (K + 1) (K + 1 + 1) (by omega)
         rw [hxu,hBn] at hbs
         refine Eq.trans hbs ?_
         exact HBK.out.1
       · have hgN:g < N:=hN g rfl
         have hgbN:gb < N:=by
           refine hNb gb ?_
           rw [← HBK.out.1]
           refine List.mem_map.2 ⟨us.getD k Fv0,?_,by rw [hxu];rfl⟩
           rw [List.getD_eq_getElem?_getD,List.getElem?_eq_getElem (by omega)]
           exact List.getElem_mem _
         exact (HBK.out.2.step hB.size hgr1 hgN).step (Nat.le_trans hB.size hgr1.size) hg3 hgbN
     case measure => simp [intOf];omega
   · have hke:k=fs.length:=by omega
     subst hke
     have e:gs=mkF fs:=by
       apply List.ext_getElem
       · rw [hgl,mkF_len]
       · intro j h1 h2
         have:=(hg1 j (by omega)).trans (mkF_get (fs:=fs) (by omega)).symm
         simpa [List.getD_eq_getElem?_getD,List.getElem?_eq_getElem h1,List.getElem?_eq_getElem h2] using this
     have HOM:=Hid.put hom
     clear hom hg1 hg2
     go_wp2
     go_ret
     exact ⟨rfl,⟨us,by rw [← e];exact HOM.out⟩,hB,HBK.out.2⟩
theorem markModule_is (n₀:Nat) (v:Value) (d:ByteArray) (fs:List Fn) (vs:List Fv) (h4:fs.length ≤ 1048576) (h80:∀ j,j < fs.length → (fs.getD j .z).b.length ≤ 1048576) (w:World) (hn:n₀ ≤ w.heap.size) (hs:OM w n₀ v fs vs) (N:Nat) (hN:∀ b,v.ownBlock=some b → b < N) (hNb:∀ b ∈ vs.map (fun x => bk x.2.2.2),b < N) :
   Calls Tryz.prog 24 #[.agg #[v,.string d],.int .i64 1] w fun e w' => e = .returned (.int .i64 (kAt fs fs.length)) ∧ (∃ vs',OM w' n₀ v (mkF fs) vs') ∧ Below n₀ w w' ∧ Above N w w':=by
 obtain ⟨a,cap,rfl, -⟩:=hs.slice
 have hB1:=below_one w (.cells #[.slice a fs.length cap,.string d] 26)
 have hcon:=markFuncS_is n₀ _ fs vs h4 h80 _ (by simp;omega) (hs.kept hB1) N hN hNb
 go_enter Tryz.func24,Tryz.ntmps24
 go_wp2_with fail
 refine hcon.mono ?_
 rintro x w1 ⟨rfl,hom,hB2,hA2⟩
 have HOM:=Hid.put hom
 have HA2:=Hid.put hA2
 clear hA2
 clear hcon hom
 go_wp2
 go_ret
 exact ⟨rfl,HOM.out,(hB1.mono hn).trans hB2,fun b h1 h2 => (HA2.out b h1 (by simp;omega)).trans (hB1.block b h2)⟩
theorem OM.set {W:World} {n₀:Nat} {v:Value} {fs:List Fn} {vs:List Fv} (h:OM W n₀ v fs vs) (p:Addr) (hp:p.block < n₀) (x:Value):OM (W.setCell p x) n₀ v fs vs:=h.far (grownBy_set' W p x) hp
def UpTo (vs:List Fv) (k N:Nat):Prop:=((vs.take k).map fun x => bk x.2.2.2).Pairwise (· < ·) ∧ ∀ b ∈ (vs.take k).map (fun x => bk x.2.2.2),b < N
theorem UpTo.zero (vs:List Fv) (N:Nat):UpTo vs 0 N:=⟨by simp,by simp⟩
theorem take_set_app {α:Type} (vs:List α) (k:Nat) (x:α) (h:k < vs.length):(vs.set k x).take (k + 1)=vs.take k ++ [x]:=by
 rw [List.take_add_one,List.getElem?_set_self h]
 have:(vs.set k x).take k=vs.take k:=by
   apply List.ext_getElem?
   intro i
   simp only [List.getElem?_take]
   by_cases hi:i < k
   · simp only [hi,if_true]
     rw [List.getElem?_set_ne (by omega)]
   · simp [hi]
 rw [this]
 rfl
theorem UpTo.app {vs:List Fv} {k N M:Nat} {x:Fv} (h:UpTo vs k N) (hk:k < vs.length) (h1:N ≤ bk x.2.2.2) (h2:bk x.2.2.2 < M):UpTo (vs.set k x) (k + 1) M:=by
 unfold UpTo
 rw [take_set_app _ _ _ hk,List.map_append]
 refine ⟨List.pairwise_append.2 ⟨h.1,by simp,fun a ha b hb => ?_⟩,fun b hb => ?_⟩
 · have:=h.2 a ha
   simp only [List.map_cons,List.map_nil,List.mem_singleton] at hb
   omega
 · rcases List.mem_append.1 hb with hb | hb
   · have:=h.2 b hb
     omega
   · simp only [List.map_cons,List.map_nil,List.mem_singleton] at hb
     omega
theorem toFuncS_om (a:Option Addr) (len cap:Nat) (fs:List Fn) (h20:len ≤ 1048576) (hsm:Small len fs) (w:World) (hs:FL w a len fs) :
   Calls Tryz.prog 41 #[.slice a len cap] w fun e w' => ∃ v vs,e = .returned v ∧ OM w' w.heap.size v fs vs ∧ Below w.heap.size w w':=by
 obtain ⟨hl,hm,hrow⟩:=hs
 have HL:Hid (fs.length=len):=hl
 have HSM:=Hid.put hsm
 clear hm hl hsm
 obtain ⟨i0,hi,hz0,hz1,hz2⟩:=info_parts info_func
 obtain ⟨wm,hmk,hown,hgrow⟩:=run_make_full (P:=Tryz.prog) w w.heap.size 24 76 i0 _ 4 Tryz.underlying24 hi hz0 hz1 .i64 .i64 len (by rw [hz2];omega) (by simp only [maxLen];omega) (Nat.le_refl _)
 have hBm:Below w.heap.size w wm:=⟨hgrow.os,hgrow.tape,hgrow.output,hgrow.size,fun k hk => hgrow.block k hk (by simp)⟩
 have hown0:wm.ownsRow w.heap.size 76 4 (.slice (some ⟨w.heap.size,0,none⟩) len len) len (encF (List.replicate len Fv0)):=by rw [← encF_zero];exact hown
 clear hown hgrow
 go_enter Tryz.func41,Tryz.ntmps41
 go_wp2
 go_loopw [4] (fun i wr => ∃ (k:Nat) (vs:List Fv),i = .int .i64 k ∧ k ≤ len ∧ vs.length=len ∧ Tells wr (w.heap.size + 1) k vs fs ∧ wr.ownsRow w.heap.size 76 4 (.slice (some ⟨w.heap.size,0,none⟩) len len) len (encF vs) ∧ Below w.heap.size w wr ∧ UpTo vs k wr.heap.size) (fun i _ => len - (intOf i).toNat)
 case atStart => exact ⟨0,_,rfl,Nat.zero_le _,by simp,fun j hj => by omega,hown0,hBm,UpTo.zero _ _⟩
 case round =>
   obtain ⟨k,vs,rfl,hk,hvl,hvs,hown,hB,hup⟩:=hrel
   have HY:=Hid.put (And.intro hvl (And.intro hvs hup))
   clear hvl hvs hown0 hBm hup
   by_cases hlt:k < len
   · rcases hrow with h0 | ⟨b,off,rfl,hb,hx⟩
     · omega
     · obtain ⟨x0,x1,x2,ba,bl,bc,x3,hsl⟩:=hx k hlt
       have hx0:=(hB.cell (p:=⟨b,off + k * 4,none⟩) hb).trans x0
       have hx1:=(hB.cell (p:=⟨b,off + k * 4 + 1,none⟩) hb).trans x1
       have hx2:=(hB.cell (p:=⟨b,off + k * 4 + 2,none⟩) hb).trans x2
       have hx3:=(hB.cell (p:=⟨b,off + k * 4 + 3,none⟩) hb).trans x3
       have h20b:=HSM.out k hlt
       obtain ⟨⟨p,l,g,bd⟩,hpq⟩:∃ x,fs.getD k .z=x:=⟨_,rfl⟩
       rw [hpq] at hx0 hx1 hx2 hsl h20b
       simp only at hx0 hx1 hx2 hsl h20b
       have HP:Hid (fs.getD k .z=⟨p,l,g,bd⟩):=hpq
       have hcon:=toFunc_is p l g bd ba bl bc (by have:=hsl.1;omega) _ (hsl.kept hB)
       have hgsz:w.heap.size < wr.heap.size:=(hown.lt _ rfl).2
       clear hx hpq x0 x1 x2 x3 hsl h20b
       go_wp2_with fail
       refine hcon.mono ?_
       rintro e w1 ⟨v,rfl,hos,hB1⟩
       clear hcon
       obtain ⟨gb,cb,rfl,hgb0,hgb1, -⟩:=hos.SL
       have hB2:=hB.trans (hB1.mono hB.size)
       have hown1:=hown.kept (row:=none) ⟨hB1.os,hB1.tape,hB1.output,hB1.size,fun k hk _ => hB1.block k hk⟩ (.inr (by simp [Value.ownBlock]))
       have hos1:=hos.mono (n₀:=w.heap.size + 1) (by omega)
       obtain ⟨hvl,hvs,hup⟩:=HY.out
       have hvs1:=hvs.kept hB1
       obtain ⟨g0,g1,g2,g3⟩:=encF_get vs k (by omega)
       have hc0:=(hown1.cellAt (k * 4) (by omega)).trans g0
       have hc1:=(hown1.cellAt (k * 4 + 1) (by omega)).trans g1
       have hc2:=(hown1.cellAt (k * 4 + 2) (by omega)).trans g2
       have hc3:=(hown1.cellAt (k * 4 + 3) (by omega)).trans g3
       obtain ⟨⟨p',l',q',v'⟩,hpq'⟩:∃ x,vs.getD k Fv0=x:=⟨_,rfl⟩
       rw [hpq'] at hc0 hc1 hc2 hc3
       simp only at hc0 hc1 hc2 hc3
       have hf0:=hown1.frozenAt (k * 4)
       have hf1:=hown1.frozenAt (k * 4 + 1)
       have hf2:=hown1.frozenAt (k * 4 + 2)
       have hf3:=hown1.frozenAt (k * 4 + 3)
       have hst1:=hown1.stored (k * 4) (.int .i64 p)
       have hst2:=hst1.1.stored (k * 4 + 1) (.int .i64 l)
       have hst3:=hst2.1.stored (k * 4 + 2) (.int .i64 g)
       have hst4:=hst3.1.stored (k * 4 + 3) (.slice (some ⟨gb,0,none⟩) bd.length cb)
       have hgr:=grownBy_trans' (grownBy_trans' (grownBy_trans' hst1.2 hst2.2) hst3.2) hst4.2
       have hup4:=UpTo.app (x:=(p,l,g,(.slice (some ⟨gb,0,none⟩) bd.length cb))) hup (by omega) hgb0 (Nat.lt_of_lt_of_le hgb1 hgr.size)
       have ht4:=hvs1.other hgr (by omega)
       have ho4:=hos1.other hgr (by omega)
       rw [← encF_set vs k (p,l,g,(.slice (some ⟨gb,0,none⟩) bd.length cb))] at hst4
       have HST:=Hid.put (And.intro hst4.1 (And.intro ht4 (And.intro ho4 hup4)))
       clear hvl hvs hvs1 g0 g1 g2 g3 hpq' hst1 hst2 hst3 hst4 hgr ht4 ho4 hos1 hos hup hup4
       have hB3:=(((hB2.setCell (p:=⟨w.heap.size,k * 4,none⟩) (Nat.le_refl _) (.int .i64 p)).setCell (p:=⟨w.heap.size,k * 4 + 1,none⟩) (Nat.le_refl _) (.int .i64 l)).setCell (p:=⟨w.heap.size,k * 4 + 2,none⟩) (Nat.le_refl _) (.int .i64 g)).setCell (p:=⟨w.heap.size,k * 4 + 3,none⟩) (Nat.le_refl _) (.slice (some ⟨gb,0,none⟩) bd.length cb)
       go_wp2
       go_roundw
       case rel =>
         obtain ⟨hvl,hvs,hup⟩:=HY.out
         obtain ⟨s1,s2,s3,s4⟩:=HST.out
         refine ⟨k + 1,vs.set k (p,l,g,(.slice (some ⟨gb,0,none⟩) bd.length cb)),by simp,by omega,by simp [hvl],fun j hj => ?_,s1,hB3,s4⟩
         by_cases e:j=k
         · subst e
           have e1:(vs.set j (p,l,g,(.slice (some ⟨gb,0,none⟩) bd.length cb))).getD j Fv0=(p,l,g,(.slice (some ⟨gb,0,none⟩) bd.length cb)):=by rw [List.getD_eq_getElem?_getD,List.getElem?_set_self (by omega)];rfl
           rw [e1,HP.out]
           exact ⟨rfl,rfl,rfl,s3⟩
         · have e1:(vs.set k (p,l,g,(.slice (some ⟨gb,0,none⟩) bd.length cb))).getD j Fv0=vs.getD j Fv0:=by rw [List.getD_eq_getElem?_getD,List.getElem?_set_ne (by omega),← List.getD_eq_getElem?_getD]
           rw [e1]
           exact s2 j (by omega)
       case measure => simp [intOf];omega
   · have hke:k=len:=by omega
     subst hke
     clear hrow
     go_wp2
     go_ret
     obtain ⟨hvl,hvs,hup⟩:=HY.out
     rw [← HL.out] at hown hvs
     exact ⟨_,vs,by rw [← HL.out];rfl,⟨hown,by rw [hvl,HL.out],hvs.mono (by omega),by have:=hup.1;rwa [List.take_of_length_le (by omega)] at this⟩,hB⟩
theorem toModule_om (a:Option Addr) (len cap:Nat) (fs:List Fn) (d:ByteArray) (h20:len ≤ 1048576) (hsm:Small len fs) (w:World) (hs:FL w a len fs) :
   Calls Tryz.prog 19 #[.agg #[.slice a len cap,.string d]] w fun e w' => ∃ v vs,e = .returned (.agg #[v,.string d]) ∧ OM w' w.heap.size v fs vs ∧ Below w.heap.size w w':=by
 have hB3:=below_three' w (.cells #[.slice a len cap,.string d] 41) (.cells #[.slice none 0 0,.string ⟨#[]⟩] 26) (.cells #[.slice none 0 0,.string ⟨#[]⟩] 26)
 have b1:=(Box2.new (w.alloc (.cells #[.slice a len cap,.string d] 41)) (.slice none 0 0) (.string ⟨#[]⟩) 26).kept (below_one _ (.cells #[.slice none 0 0,.string ⟨#[]⟩] 26))
 have b2:=Box2.new ((w.alloc (.cells #[.slice a len cap,.string d] 41)).alloc (.cells #[.slice none 0 0,.string ⟨#[]⟩] 26)) (.slice none 0 0) (.string ⟨#[]⟩) 26
 have b0:=((Box2.new w (.slice a len cap) (.string d) 41).kept (below_one _ (.cells #[.slice none 0 0,.string ⟨#[]⟩] 26))).kept (below_one _ (.cells #[.slice none 0 0,.string ⟨#[]⟩] 26))
 simp only [World.size_alloc] at b1 b2
 have hcon:=toFuncS_om a len cap fs h20 hsm _ (hs.kept hB3)
 go_enter Tryz.func19,Tryz.ntmps19
 go_wp2_with fail
 refine hcon.mono ?_
 rintro e w4 ⟨v,vs,rfl,hof,hB4⟩
 obtain ⟨a4,c,rfl, -⟩:=hof.slice
 simp only [World.size_alloc] at hof
 have b3:=b1.kept hB4
 have b4:=b2.kept hB4
 have b5:=b0.kept hB4
 have hB5:=hB3.trans (hB4.mono hB3.size)
 clear b1 b2 b0 hcon hB3 hB4 hs
 obtain ⟨p0,p1,p2,p5,p6⟩:=b3
 obtain ⟨q0,q1,q2,q5,q6⟩:=b4
 obtain ⟨r0,r1,r2,r5,r6⟩:=b5
 go_wp2
 (try simp only [Exit.inBlock,Exit.then])
 refine bodyPost_ret (v:=.agg #[.slice a4 fs.length c,.string d]) ?_ rfl ⟨_,vs,rfl,((((hof.set ⟨w.heap.size + 1 + 1,0,none⟩ (by simp) _).set ⟨w.heap.size + 1 + 1,1,none⟩ (by simp) _).set ⟨w.heap.size + 1,0,none⟩ (by simp) _).set ⟨w.heap.size + 1,1,none⟩ (by simp) _).mono (by omega),
   (((hB5.setCell (p:=⟨w.heap.size + 1 + 1,0,none⟩) (by simp;omega) _).setCell (p:=⟨w.heap.size + 1 + 1,1,none⟩) (by simp;omega) _).setCell (p:=⟨w.heap.size + 1,0,none⟩) (by simp) _).setCell (p:=⟨w.heap.size + 1,1,none⟩) (by simp) _⟩
 rw [results_cell1 rfl]
 go_simp
section
open Go.ChangeShapes Go.WideShapes Go.ChangeAt Go.RowKit Go.Deep
theorem SL_trod {H:Type} {enc:TypeId × Value → H} {W:World} {v:Value} {n:Nat} {x:DataW H × List MemPlace} (hf:DataW.trod enc Tryz.prog W 0 (fun _ => true) true n 110 [v]=some x):∃ a len cap xs,v = .slice a len cap ∧ SL W a len xs:=by
 rcases open_slice_pairs Tryz.underlying110 Tryz.underlying188 (by kernel_rfl) rfl rfl (by kernel_rfl) (by kernel_rfl) hf with ⟨hcs,_⟩ | ⟨x,l,c,m,n,V0,V1,D0,D1,P0,P1,hcs,_,hl,hm,hmm,_,hcell⟩
 · simp at hcs
   subst hcs
   exact ⟨none,0,0,[],rfl,rfl,Nat.zero_le _,.inl rfl⟩
 · simp at hcs
   subst hcs
   simp only [if_true] at hmm
   subst hmm
   by_cases h0:l=0
   · subst h0
     exact ⟨_,_,_,[],rfl,rfl,Nat.zero_le _,.inl rfl⟩
   · have hspot:x.spot=none:=by
       have hc:=(hcell 0 (by omega)).1
       have:=World.cell?_spot hc
       obtain ⟨b,off,spot⟩:=x
       simpa [Addr.add] using this
     obtain ⟨b,off,spot⟩:=x
     simp only at hspot
     subst hspot
     have hadd:∀ i,(⟨b,off,none⟩:Addr).add i=⟨b,off + i,none⟩:=fun i => by unfold Addr.add;split <;> simp_all
     have hV:∀ j,j < m → ∃ p q:Int,V0 j = .int .i64 p ∧ V1 j = .int .i64 q:=by
       intro j hj
       obtain ⟨_,_,ht0,ht1⟩:=hcell j hj
       obtain ⟨p,e0,_⟩:=DataW.trod_int Tryz.underlying2 ht0
       obtain ⟨q,e1,_⟩:=DataW.trod_int Tryz.underlying2 ht1
       exact ⟨p,q,by simpa using e0,by simpa using e1⟩
     have hb:b < W.heap.size:=by
       have:=World.block_lt_of_cell? _ _ (hcell 0 (by omega)).1
       simpa [hadd] using this
     refine ⟨_,_,_,(List.range l).map fun j => (intOf (V0 j),intOf (V1 j)),rfl,by simp,Nat.le_trans hl hm,.inr ⟨b,off,rfl,hb,fun j hj => ?_⟩⟩
     obtain ⟨p,q,e0,e1⟩:=hV j (by omega)
     obtain ⟨hc0,hc1,_,_⟩:=hcell j (by omega)
     rw [hadd] at hc0 hc1
     have e:((List.range l).map fun j => (intOf (V0 j),intOf (V1 j))).getD j (0,0)=(p,q):=by simp [List.getD_eq_getElem?_getD,hj,e0,e1,intOf]
     rw [e]
     exact ⟨by rw [hc0,e0],by rw [Nat.add_assoc,hc1,e1]⟩
theorem FL_trod {H:Type} {enc:TypeId × Value → H} {W:World} {v:Value} {n:Nat} {x:DataW H × List MemPlace} (hf:DataW.trod enc Tryz.prog W 0 (fun _ => true) true n 39 [v]=some x):∃ a len cap fs,v = .slice a len cap ∧ FL W a len fs:=by
 rcases open_slice Tryz.underlying39 hf with ⟨hcs,_⟩ | ⟨x,l,c,m,n,D,Pl,hcs,_,hl,hm,hmm,_,hx⟩
 · simp at hcs
   subst hcs
   exact ⟨none,0,0,[],rfl,rfl,Nat.zero_le _,.inl rfl⟩
 · simp at hcs
   subst hcs
   simp only [if_true] at hmm
   subst hmm
   have ce:Tryz.prog.cellsOf 112=4:=by kernel_rfl
   have each:∀ i,i < m → ∃ q:Fn × Option Addr × Nat × Nat,W.cell? (x.add (i * 4))=some (.int .i64 q.1.a) ∧ W.cell? (x.add (i * 4 + 1))=some (.int .i64 q.1.l) ∧ W.cell? (x.add (i * 4 + 2))=some (.int .i64 q.1.g) ∧ W.cell? (x.add (i * 4 + 3))=some (.slice q.2.1 q.2.2.1 q.2.2.2) ∧ SL W q.2.1 q.2.2.1 q.1.b:=by
     intro i hi
     obtain ⟨cs',h1,h2⟩:=hx i hi
     rw [ce] at h1
     obtain ⟨_,hlen,hcell⟩:=World.cells?_some h1
     obtain ⟨y0,y1,y2,y3,k,_,_,t0,t1,t2,t3⟩:=Go.Joins.trod_struct4 Tryz.underlying112 h2
     match cs',hlen with
     | [v0,v1,v2,v3],_ =>
       have c1:Tryz.prog.cellsOf 2=1:=by kernel_rfl
       have c2:Tryz.prog.cellsOf 110=1:=by kernel_rfl
       simp [c1,c2] at t0 t1 t2 t3
       obtain ⟨p,e0,_⟩:=DataW.trod_int Tryz.underlying2 t0
       obtain ⟨q,e1,_⟩:=DataW.trod_int Tryz.underlying2 t1
       obtain ⟨r,e2,_⟩:=DataW.trod_int Tryz.underlying2 t2
       obtain ⟨a,bl,bc,xs,e3,hs⟩:=SL_trod t3
       have e0:v0 = .int .i64 p:=by simpa using e0
       have e1:v1 = .int .i64 q:=by simpa using e1
       have e2:v2 = .int .i64 r:=by simpa using e2
       subst e0 e1 e2 e3
       have g0:=hcell 0 (by omega)
       have g1:=hcell 1 (by omega)
       have g2:=hcell 2 (by omega)
       have g3:=hcell 3 (by omega)
       rw [add_add] at g0 g1 g2 g3
       exact ⟨(⟨p,q,r,xs⟩,a,bl,bc),by simpa using g0,by simpa using g1,by simpa using g2,by simpa using g3,hs⟩
   haveI:Inhabited (Fn × Option Addr × Nat × Nat):=⟨(.z,none,0,0)⟩
   obtain ⟨q,hq⟩:=choose_lt each
   by_cases h0:l=0
   · subst h0
     exact ⟨_,_,_,[],rfl,rfl,Nat.zero_le _,.inl rfl⟩
   · have hspot:x.spot=none:=by
       have hc:=(hq 0 (by omega)).1
       have:=World.cell?_spot hc
       obtain ⟨b,off,spot⟩:=x
       simpa [Addr.add] using this
     obtain ⟨b,off,spot⟩:=x
     simp only at hspot
     subst hspot
     have hadd:∀ i,(⟨b,off,none⟩:Addr).add i=⟨b,off + i,none⟩:=fun i => by unfold Addr.add;split <;> simp_all
     have hb:b < W.heap.size:=by
       have:=World.block_lt_of_cell? _ _ (hq 0 (by omega)).1
       simpa [hadd] using this
     refine ⟨_,_,_,(List.range l).map fun j => (q j).1,rfl,by simp,Nat.le_trans hl hm,.inr ⟨b,off,rfl,hb,fun j hj => ?_⟩⟩
     obtain ⟨k0,k1,k2,k3,k4⟩:=hq j (by omega)
     rw [hadd] at k0 k1 k2 k3
     have e:((List.range l).map fun j => (q j).1).getD j .z=(q j).1:=by simp [List.getD_eq_getElem?_getD,hj]
     rw [e]
     exact ⟨k0,by rw [Nat.add_assoc];exact k1,by rw [Nat.add_assoc];exact k2,_,_,_,by rw [Nat.add_assoc];exact k3,k4⟩
end
section
open Go.ChangeShapes Go.WideShapes Go.ChangeAt Go.RowKit Go.Shelf Go.Deep
theorem IL_of {H:Type} {enc:TypeId × Value → H} {W:World} {a:Option Addr} {len cap:Nat} {d:DataW H} {ps:List MemPlace} (h:DataW.Trod enc Tryz.prog W 0 (fun _ => true) true 27 (.slice a len cap) d ps):∃ xs,IL W a len xs:=by
 obtain ⟨fuel,hf⟩:=h
 rcases open_ints Tryz.underlying27 Tryz.underlying2 (by kernel_rfl) hf with ⟨hcs,_⟩ | ⟨x,l,c,zs,hcs,_,hl,hm,hzl,_,hcell,_⟩
 · simp [Value.cells] at hcs
   obtain ⟨rfl,rfl,rfl⟩:=hcs
   exact ⟨[],rfl,Nat.zero_le _,.inl rfl⟩
 · simp [Value.cells] at hcs
   obtain ⟨rfl,rfl,rfl⟩:=hcs
   simp only [if_true] at hzl
   by_cases h0:len=0
   · subst h0
     exact ⟨[],rfl,Nat.zero_le _,.inl rfl⟩
   · have hspot:x.spot=none:=by
       have:=World.cell?_spot (hcell 0 (by omega))
       obtain ⟨b,off,spot⟩:=x
       simpa [Addr.add] using this
     obtain ⟨b,off,spot⟩:=x
     simp only at hspot
     subst hspot
     have hadd:∀ i,(⟨b,off,none⟩:Addr).add i=⟨b,off + i,none⟩:=fun i => by unfold Addr.add;split <;> simp_all
     have hb:b < W.heap.size:=by
       have:=World.block_lt_of_cell? _ _ (hcell 0 (by omega))
       simpa [hadd] using this
     refine ⟨zs.take len,by rw [List.length_take];omega,Nat.le_trans hl hm,.inr ⟨b,off,rfl,hb,fun j hj => ?_⟩⟩
     have:=hcell j (by omega)
     rw [hadd] at this
     rw [this,List.getD_eq_getElem?_getD,List.getD_eq_getElem?_getD,List.getElem?_take_of_lt hj]
end
end Go.Proofs.YthpdpoocigpccaaGreatDoor
