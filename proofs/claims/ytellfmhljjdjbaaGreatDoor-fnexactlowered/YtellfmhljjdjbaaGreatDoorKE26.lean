/-
  Own texts for a law: Insp12 Lo14
-/
import Derived.Test.YtellfmhljjdjbaaGreatDoorKE24
import Derived.Test.YtellfmhljjdjbaaGreatDoorKE25
namespace Go.Proofs.YtellfmhljjdjbaaGreatDoor
open Go.RowKit Go.Shelf
set_option linter.all false
set_option maxRecDepth 100000
set_option maxHeartbeats 16000000
section
variable {s : jh} {a : Option Addr} {len cap : Nat} {fs : List Fn} {d : ByteArray} {w : World}
theorem mH.kept {W W':World}(h:mH s W)(hB:Below W.heap.size W W'):mH s W':=by have k:∀{b:Nat},(∃c t,W.heap[b]?=some (.cells c t (0,0)))->∃c t,W'.heap[b]?=some (.cells c t (0,0)):=fun{b} ⟨c,t,e⟩=>⟨c,t,(hB.block b (Array.getElem?_eq_some_iff.1 e).1).trans e⟩;exact⟨k h.1,fun ad had=>⟨(h.2 ad had).1,k (h.2 ad had).2⟩⟩
def VI (s:jh)(fs:List Fn)(d:ByteArray)(gk:Nat)(u v:Value):Prop:=
 ∃k:Nat,v= .int .i64 k/\k<=fs.length+1/\((u= .nilIface/\gk=fs.length+1-k+1/\k<=fs.length/\(k=0\/Md.ok fs d=true)/\∀j:Nat,j<k->Hg.acc fs d j=true)\/(gk=0/\∃at' ad,u=wO at' ad/\((ad=s.fn/\Hg.valid fs d=true)\/(ad∈s.rest/\Hg.valid fs d=false))))
theorem vD (bu:jd s w)(hap:mH s w)(hd:d.size<=maxLen)(hs:FL w a len fs):Calls Tryz.prog 32 #[.agg #[.slice a len cap, .string d]] w fun e w'=>e= .returned (.bool (Hg.valid fs d))/\Below w.heap.size w w':=by have hB1:=aB w (.cells #[.slice a len cap, .string d] 26);have hB0:=Below.refl (w.alloc (.cells #[.slice a len cap, .string d] 26)).heap.size (w.alloc (.cells #[.slice a len cap, .string d] 26));have hl:=hs.1;have hm:=hs.2.1;have hsz:=bu.sz;unfold maxLen at hm;go_enter Tryz.func32,Tryz.ntmps32;go_wp2;go_loopg [3,4] (fs.length+2) (fun gk u v wr=>VI s fs d gk u v/\Below (w.alloc (.cells #[.slice a len cap, .string d] 26)).heap.size (w.alloc (.cells #[.slice a len cap, .string d] 26)) wr);(case atStart=>exact⟨⟨0,rfl,by omega, .inl ⟨rfl,by omega,by omega, .inl rfl,fun j h=>absurd h (Nat.not_lt_zero _)⟩⟩,hB0⟩);case round=>obtain⟨⟨k,rfl,hk1,hcase⟩,hBr⟩:=hrel;obtain⟨c0,c1,FC⟩:=kG hBr;have hB:=hB1.trans (hBr.mono hB1.size);have HB:=af hBr;have HL:=af hl;rcases hcase with⟨rfl,V4,hkl,hk0,hac⟩|⟨rfl,at',ad,rfl,hres⟩;{have hcon:=kE (cap:=cap) (bu.kept hB bu.sz) hd (hs.kept hB) (k:Int);have hk4:k<=4:=by{rcases hk0 with rfl|hok;{omega};rw[Md.ok,ax,ax]at hok;have:=Wd.aW.1 hok.1.1;omega};have HA:=af (au hk0 (au hac V4));clear hB1 hB0 hBr hl hk0 hac V4;unfold jT at hcon;rcases hH:Hg.bZ fs d (k:Int)with _|⟨out,mo⟩;{rw[hH]at hcon;have HH:=af hH;clear hH;go_wp2_with fail;refine hcon.mono ?_;rintro e w1 ⟨hB2,at',ad,rfl,had⟩;clear hcon;dsimp only;have HD:=af had;obtain⟨rv,GJ⟩:∃rv,wO at' ad=rv:=⟨_,rfl⟩;rw[GJ];have Y4:=af GJ;clear had GJ;go_wp2;go_roundg 0;(case measure=>rw[HA.out.2.2];omega);case rel=>refine⟨⟨k+1,by simp,by omega, .inr ⟨rfl,at',ad,Y4.out.symm,?_⟩⟩,HB.out.trans (hB2.mono HB.out.size)⟩;have had:=HD.out;obtain⟨hk0,hac,-⟩:=HA.out;by_cases hr:Md.ok fs d=true/\¬(0<=(k:Int)/\(k:Int)<fs.length);{rw[az hr]at had;refine .inl ⟨had,?_⟩;rw[Hg.qB (fun j hj=>hac j (by have:=hr.2;omega))];exact hr.1};rw[ay hr]at had;refine .inr ⟨had,?_⟩;rcases hok:Md.ok fs d with _|_;{unfold Hg.valid;rw[hok];rfl};have hkk:k<fs.length:=by{rcases Nat.lt_or_ge k fs.length with h|h;{exact h};exact absurd ⟨hok,by omega⟩ hr};exact Hg.sP hkk (by rw[Hg.acc,HH.out];rfl)};rw[hH]at hcon;have hk:Md.ok fs d=true/\0<=(k:Int)/\(k:Int)<fs.length:=by{by_cases h:Md.ok fs d=true/\0<=(k:Int)/\(k:Int)<fs.length;{exact h};unfold Hg.bZ at hH;rw[ay h]at hH;cases hH};have HH:=af (au hH hk);have ZU:k<fs.length:=by{omega};clear hH hk;go_wp2_with fail;refine hcon.mono ?_;rintro e w1 ⟨hB2,v,rfl,-⟩;clear hcon;dsimp only;go_wp2;go_roundg (fs.length+1-(k+1)+1);(case measure=>rw[HA.out.2.2];omega);case rel=>refine⟨⟨k+1,by simp,by omega, .inl ⟨rfl,rfl,by omega, .inr HH.out.2.1,fun j hj=>?_⟩⟩,HB.out.trans (hB2.mono HB.out.size)⟩;rcases Nat.lt_succ_iff_lt_or_eq.1 hj with h|rfl;{exact HA.out.2.1 j h};rw[Hg.acc,HH.out.1];rfl};have hsw:=bu.kept hB bu.sz;have g0:=hsw.fn;have hcon:Calls Tryz.prog 58 #[wO at' ad,dm s.fn] wr fun e w'=>e= .returned (.bool (Hg.valid fs d))/\Below wr.heap.size wr w':=by{have ha:=hap.kept hB;rcases hres with⟨rfl,hv⟩|⟨hin,hv⟩;{rw[hv];exact Db at' s.fn wr};rw[hv];exact AR at' ad s.fn wr (ha.2 ad hin).1 (ha.2 ad hin).2 ha.1};unfold wO dm at*;clear hB1 hB0 hBr hl hsw hres;go_wp2_with fail;refine hcon.mono ?_;rintro e w1 ⟨rfl,hB2⟩;clear hcon;dsimp only;have hB3:=hB.trans (hB2.mono hB.size);clear hB2;go_wp2;go_ret;exact⟨rfl,hB3⟩
end
theorem kT.none (W:World)(n₀:Nat)(hn:n₀<=W.heap.size):kT (W.alloc (.cells #[] 41)) n₀ (.slice (some ⟨W.heap.size,0,none⟩) 0 0) [] []:=
 ⟨⟨rfl, .inr ⟨W.heap.size,0,#[],rfl,hn,World.alloc_heap_new W _,Nat.le_refl _,by simp[maxLen],rfl,rfl⟩⟩,rfl,fun j hj=>by simp at hj,fun i j _ hj=>by simp at hj⟩
theorem ru {s:jh}{w:World}{a:Option Addr}{len:Nat}{cap:Nat}{fs:List Fn}{d:ByteArray}(bu:jd s w)(hap:mH s w)(hg:w.cell? ⟨10,0,none⟩=some wL)(hd:d.size<=maxLen)(hs:FL w a len fs)(k:Int):Calls Tryz.prog 9 #[.agg #[.slice a len cap, .string d], .int .i64 k] w fun e w'=>∃g cc vs,e= .returned (.slice (some ⟨g,0,none⟩) (Lw.bB fs d k).length cc)/\kT w' w.heap.size (.slice (some ⟨g,0,none⟩) (Lw.bB fs d k).length cc) (Lw.bB fs d k) vs/\Below w.heap.size w w':=by
 have hl:=hs.1
 have hm:=hs.2.1
 unfold maxLen at hm
 have hB1:=aB w (.cells #[.slice a len cap, .string d] 26)
 have bM:=bN.new w [.slice a len cap, .string d] 26
 have eM:w.alloc (.cells [Value.slice a len cap, .string d].toArray 26)=w.alloc (.cells #[.slice a len cap, .string d] 26):=rfl
 rw[eM]at bM
 generalize hW1:w.alloc (.cells #[.slice a len cap, .string d] 26)=W1 at hB1 bM
 have hcon:=vD (cap:=cap) (bu.kept hB1 bu.sz) (hap.kept hB1) hd (hs.kept hB1)
 have m0:=(bM.2 0 _ rfl).1
 have m1:=(bM.2 1 _ rfl).1
 have HB1:=af hB1
 have bad:∀(W2:World),Below w.heap.size w W2->Lw.bB fs d k=[]->kT (W2.alloc (.cells #[] 41)) w.heap.size (.slice (some ⟨W2.heap.size,0,none⟩) 0 0) [] []/\Below w.heap.size w (W2.alloc (.cells #[] 41)):=fun W2 hB e=>
  ⟨kT.none W2 _ hB.size,hB.trans ((aB W2 _).mono hB.size)⟩
 rcases hv:Hg.valid fs d with _|_
 · have e0:Lw.bB fs d k=[]:=by{unfold Lw.bB;rw[ay (by rw[hv];simp)]};rw[hv]at hcon;rw[e0];have hbad:=fun W2 hB=>bad W2 hB e0;clear bad hs bu hap hg hv e0 bM;go_enter Tryz.func9,Tryz.ntmps9;go_wp2_with fail;refine hcon.mono ?_;rintro e w2 ⟨rfl,hB2⟩;dsimp only;have HF:=af (hbad w2 (hB1.trans (hB2.mono hB1.size)));clear hcon m0 m1 hbad hB2;go_wp2;go_ret;exact⟨_,_,_,rfl,HF.out.1,HF.out.2⟩
 rw[hv]at hcon
 by_cases hk:0<=k/\k<=(len:Int)-1
 · obtain⟨kn,rfl⟩:=Int.eq_ofNat_of_zero_le hk.1;have e0:Lw.bB fs d (kn:Int)=Lw.func fs (Mn.fn fs kn) (aC.ends (Mn.fn fs kn).b) (aC.aH (Mn.fn fs kn).b) (Mn.jJ fs kn):=by{unfold Lw.bB;rw[az ⟨hv,by omega,by omega⟩,aA]};have hof:=fun(W:World) (hB:Below w.heap.size w W)=>E8 (cap:=cap) (bu.kept hB bu.sz) ((hB.cell (p:=⟨10,0,none⟩) (by have:=bu.sz;simp only;omega)).trans hg) hd (hs.kept hB) hv kn (by omega);rw[←e0]at hof;have hin:Wd.eY (kn:Int) 0 ((len:Int)-1)=true:=Wd.iK hk.1 hk.2;clear bad hs bu hap hg hv e0;go_enter Tryz.func9,Tryz.ntmps9;go_wp2_with fail;refine hcon.mono ?_;rintro e w2 ⟨rfl,hB2⟩;dsimp only;have jE:=hB1.trans (hB2.mono hB1.size);have BK:=hof w2 jE;have b2:=bM.kept hB2;have n0:=(b2.2 0 _ rfl).1;have n1:=(b2.2 1 _ rfl).1;clear hcon m0 m1 hof bM b2;go_wp2_with(go_at_call 33;refine(aY _ _ _ _).mono ?_;rintro e w' ⟨rfl,dw⟩;subst w';rw[hin];dsimp only);refine BK.mono ?_;rintro e w4 ⟨g,cc,vs,rfl,ho,hB4⟩;dsimp only;have HF:=af (au (ho.mono jE.size) (jE.trans (hB4.mono jE.size)));clear BK ho hB4 n0 n1;go_wp2;go_ret;exact⟨_,_,_,rfl,HF.out.1,HF.out.2⟩
 · have e0:Lw.bB fs d k=[]:=by{unfold Lw.bB;rw[ay (by omega)]};have hin:Wd.eY k 0 ((len:Int)-1)=false:=by{rcases h:Wd.eY k 0 ((len:Int)-1)with _|_;{rfl};exact absurd (Wd.aW.1 h) hk};rw[e0];have hbad:=fun W2 hB=>bad W2 hB e0;clear bad hs bu hap hg hv e0;go_enter Tryz.func9,Tryz.ntmps9;go_wp2_with fail;refine hcon.mono ?_;rintro e w2 ⟨rfl,hB2⟩;dsimp only;have HF:=af (hbad w2 (hB1.trans (hB2.mono hB1.size)));have b2:=bM.kept hB2;have n0:=(b2.2 0 _ rfl).1;clear hcon m0 m1 hbad hB2 bM b2;go_wp2_with(go_at_call 33;refine(aY _ _ _ _).mono ?_;rintro e w' ⟨rfl,dw⟩;subst w';rw[hin];dsimp only);go_ret;exact⟨_,_,_,rfl,HF.out.1,HF.out.2⟩
theorem Lw.vw (fs:List Fn)(d:ByteArray)(k:Int):(Lw.bB fs d k).length<=300/\∀j,j<(Lw.bB fs d k).length->((Lw.bB fs d k).getD j .z).l.length<=3:=by
 unfold Lw.bB
 split
 · rename_i h
   have V:=Mn.qN h.1
   have hk:k.toNat<fs.length:=by omega
   have V5:=Lw.yu (V.acc k.toNat hk) (Mn.nS V hk) (fun j hj=>by have:=Mn.nS V hj;exact⟨this.1,this.2.1⟩) (by
    have:=Md.aM V.all hk
    simp only[Md.iP,ax]at this
    exact this.2.2.2.2)
   obtain⟨L,hL⟩:∃L,Lw.func fs (Mn.fn fs k.toNat) (aC.ends (Mn.fn fs k.toNat).b) (aC.aH (Mn.fn fs k.toNat).b) (Mn.jJ fs k.toNat)=L:=⟨_,rfl⟩
   rw[hL]at V5 ⊢
   by_cases he:L=[]
   · rw[he];exact⟨by simp,fun j hj=>by simp at hj⟩
   · have ho:=(V5.2 he).1;unfold Ln.isOk at ho;simp only[ax,decide_eq_true_eq,List.all_eq_true]at ho;refine⟨ho.1.2,fun j hj=>?_⟩;have hm:L.getD j .z∈L:=by{rw[ai,aj hj];exact List.getElem_mem hj};have h2:=ho.2.1 _ hm;unfold Ln.xX at h2;rw[ax]at h2;exact Ln.Ao h2.1
 · exact⟨by simp,fun j hj=>by simp at hj⟩
end Go.Proofs.YtellfmhljjdjbaaGreatDoor
