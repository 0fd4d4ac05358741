/-
  Own texts for a law of chapter 8: TrnN Stp1 Giv Giv1 Mnt0 Mem5 Prg0 Prg1
-/
import Derived.Test.YthpdpoocigpccaaGreatDoorKU08
import Derived.Test.YthpdpoocigpccaaGreatDoorKU10
import Derived.Test.YthpdpoocigpccaaGreatDoorKU11
import Derived.Test.YthpdpoocigpccaaGreatDoorKU12
import Derived.Test.YthpdpoocigpccaaGreatDoorKU13
import Derived.Test.YthpdpoocigpccaaGreatDoorKU14
import Derived.Lib.BufferWrite
import Derived.Laws.IdiomStrings
namespace Go.Proofs.YthpdpoocigpccaaGreatDoor
open Go.RowKit Go.Shelf
set_option linter.unusedVariables false
set_option maxRecDepth 100000
set_option maxHeartbeats 16000000
theorem trnArmN {c:PC} {W0:World} {q:KK} {R:Mn.Rs} {at1:Nat} {pile loc mem:List Int} {n:Nat} {WJ W:World} {p a:Int} (Q:KQ c W0 q) (HIN:Hid (KJ c q R at1 pile loc mem n WJ)) (HM:Hid (KM c q ((at1:Int) + 1) pile loc mem (c.L q.k at1) ((c.fuel:Int) - n) W)) (HST:Hid (Nst.op (Mn.fn c.fs q.k).b at1=p ∧ Hg.arg (Mn.fn c.fs q.k).b at1=a ∧ St.ok p a=true))
   (HP:Hid (p=20))  : Calls Tryz.prog 114 #[.pointer (some ⟨q.C,0,none⟩),.int .i64 at1,.agg #[.int .i64 p,.int .i64 a]] W (SP c q R n):=by
 obtain rfl:=HP.out
 have hG:=HIN.out.good
 have hat:at1 < q.bl:=by have:=hG.lt;have:=Q.len;omega
 have hb80:=Q.b80
 have hpl:pile.length ≤ 20:=by
   have h1:=hG.here
   have h2:=(Q.tab.val.acc q.k Q.lt).top at1 hG.lt
   omega
 have hlsl:(c.L q.k at1).length ≤ 81:=by have:=L_len (c:=c) (q:=q) (at1:=at1);omega
 have hatZ:(at1:Int) < (q.bl:Int):=by omega
 have HM2:=Hid.put (HM.out.kept (below_one W (.cells #[.int .i64 20,.int .i64 a] 78)))
 have HS2:Hid (Arr (W.alloc (.cells #[.int .i64 20,.int .i64 a] 78)) W.heap.size 78 [.int .i64 20,.int .i64 a]):=heap_alloc_last W _
 go_enter Tryz.func114,Tryz.ntmps114
 go_upto_region 1 with fail
 obtain ⟨W2,hW2⟩:∃ W2,W.alloc (.cells #[.int .i64 20,.int .i64 a] 78)=W2:=⟨_,rfl⟩
 rw [hW2] at HM2 HS2 ⊢
 obtain ⟨sb,hsb⟩:∃ sb,W.heap.size=sb:=⟨_,rfl⟩
 rw [hsb] at HS2 ⊢
 have s0:=HS2.out.cell (j:=0) rfl
 have s1:=HS2.out.cell (j:=1) rfl
 clear hW2 hsb
 go_wp2
 (try simp only [Exit.inBlock,Exit.then])
 refine bodyPost_end (results_none rfl _ _ _) rfl ?_
 exact HIN.out.next Q (Mn.st20 HST.out.1 HST.out.2.1) (a2:=at1 + 1) HM2.out (L_plain Q hG.lt (by rw [HST.out.1];rfl) (by rw [HST.out.1];decide))
theorem stp_is {c:PC} {W0:World} {q:KK} {R:Mn.Rs} {at1:Nat} {pile loc mem:List Int} {n:Nat} {W:World} (Q:KQ c W0 q) (IH:GiveOK c W0 n) (J:KJ c q R at1 pile loc mem n W) :
   Calls Tryz.prog 77 #[.pointer (some ⟨q.C,0,none⟩)] W (SP c q R n):=by
 obtain ⟨p,hp⟩:∃ p,Nst.op (Mn.fn c.fs q.k).b at1=p:=⟨_,rfl⟩
 obtain ⟨a,ha⟩:∃ a,Hg.arg (Mn.fn c.fs q.k).b at1=a:=⟨_,rfl⟩
 have hok:St.ok p a=true:=by
   have hf:=Md.okAll_getD Q.tab.val.all Q.lt
   simp only [Md.fOk,Bool.and_eq_true] at hf
   have:=St.okAll_getD hf.2.2.2.2 J.good.lt
   rw [← hp,← ha]
   exact this
 have HST:Hid (Nst.op (Mn.fn c.fs q.k).b at1=p ∧ Hg.arg (Mn.fn c.fs q.k).b at1=a ∧ St.ok p a=true):=⟨hp,ha,hok⟩
 have HIN:Hid (KJ c q R at1 pile loc mem n W):=J
 have hr:1 ≤ p ∧ p ≤ 20:=by
   simp only [St.ok,Bool.and_eq_true,Wd.in_iff] at hok
   exact hok.1
 by_cases h1:p=1
 · exact stpArmA Q HIN HST h1
 by_cases h2:p=2
 · exact stpArmB Q HIN HST h2
 by_cases h3:p=3
 · exact stpArmC Q HIN HST h3
 by_cases h4:p=4
 · exact stpArmD Q HIN HST h4
 by_cases h5:p=5
 · exact stpArmE Q HIN HST h5
 by_cases h6:p=6
 · exact stpArmF Q HIN HST h6
 by_cases h7:p=7
 · exact stpArmG Q HIN HST h7
 by_cases h16:p=16
 · exact stpArmO Q HIN HST h16 IH
 by_cases h17:p=17
 · exact stpArmP Q HIN HST h17
 by_cases h18:p=18
 · exact stpArmR Q HIN HST h18
 by_cases h19:p=19
 · exact stpArmS Q HIN HST h19
 refine stpArmT Q HIN HST ⟨h1,h2,h3,h4,h5,h6,h7,h17,h18,h16,h19⟩ (fun W2 K2 => ?_)
 have HM:Hid (KM c q ((at1:Int) + 1) pile loc mem (c.L q.k at1) ((c.fuel:Int) - n) W2):=K2
 by_cases h8:p=8
 · exact trnArmA Q HIN HM HST h8
 by_cases h9:p=9
 · exact trnArmB Q HIN HM HST h9
 by_cases h10:p=10
 · by_cases hn:Mn.top pile=0
   · by_cases ho:0 ≤ Nst.at1 (Nst.elses (Mn.fn c.fs q.k).b) at1
     · exact trnArmD Q HIN HM HST h10 hn ho
     · exact trnArmE Q HIN HM HST h10 hn ho
   · exact trnArmC Q HIN HM HST h10 hn
 by_cases h11:p=11
 · exact trnArmF Q HIN HM HST h11
 by_cases h12:p=12
 · by_cases hn:at1 + 1=(Mn.fn c.fs q.k).b.length
   · exact trnArmH Q HIN HM HST h12 hn
   · exact trnArmG Q HIN HM HST h12 (show at1 + 1 < _ by have:=J.good.lt;omega)
 by_cases h13:p=13
 · exact trnArmI Q HIN HM HST h13
 by_cases h14:p=14
 · by_cases hn:Mn.top pile=0
   · exact trnArmJ Q HIN HM HST h14 hn
   · exact trnArmK Q HIN HM HST h14 hn
 by_cases h15:p=15
 · exact trnArmL Q HIN HM HST h15
 exact trnArmN Q HIN HM HST (show p=20 by omega)
def mea (P C bl fuel:Nat) (w:World):Nat :=
 match w.cell? ⟨C,6,none⟩,w.cell? ⟨P,65,none⟩ with
 | some (.int _ x),some (.int _ y) => if x < bl then fuel - y.toNat + 1 else 0
 | _,_ => 0
section
variable {c:PC} {W0:World} {q:KK} {R:Mn.Rs}
theorem mea_in {a2 b:Int} {pile loc mem:List Int} {ls:List Mn.Lb} {W:World} (K:KM c q a2 pile loc mem ls b W):mea c.P q.C q.bl c.fuel W=if a2 < q.bl then c.fuel - b.toNat + 1 else 0:=by
 obtain ⟨v,u,hA, -⟩:=K.box
 obtain ⟨⟨-,p1, -⟩, -⟩:=pb_cells K.ml K.pb
 unfold mea
 rw [hA.cell (j:=6) (show (q.vals c v u a2)[6]? = some (.int .i64 a2) from rfl),p1]
theorem give_step (n:Nat) (IH:∀ m,m < n → GiveOK c W0 m) (T:TabP c W0) (w:World) (k d:Nat) (mem args:List Int) (va:Value) (ba:Nat) (hag:AgP c.P W0 w) (hk:k < c.fs.length) (hd:d < 12) (hmm:Mm.ok mem=true) (hwa:Mn.words args) (hal:(args.length:Int)=(Mn.fn c.fs k).a) (hva:w.ownsRow ba 93 1 va args.length (args.map wv)) (hn:n ≤ c.fuel) (hP:Arr w c.P 91 (PB mem c.fuel ((c.fuel:Int) - n) (d:Int) c.fv c.nv)) :
   Calls Tryz.prog 54 #[.pointer (some ⟨c.P,0,none⟩),.int .i64 k,va] w (GP c w (Mn.run c.fs (n + 1) n d k 0 [] (Mn.locs (Mn.fn c.fs k) args) mem) d):=by
 obtain ⟨R,hR⟩:∃ R,Mn.run c.fs (n + 1) n d k 0 [] (Mn.locs (Mn.fn c.fs k) args) mem=R:=⟨_,rfl⟩
 rw [hR]
 have hml:=Mm.ok_len hmm
 have f3:=T.f3
 have HA:=Hid.put (And.intro hag (And.intro hva (And.intro hP (And.intro hwa hal))))
 have hent:=enter_on d hml hd hP
 have hPl:=hP.lt
 have HN:=Hid.put hn
 have HR:=Hid.put hR
 clear hag hva hP hwa hal hR hn
 go_enter Tryz.func54,Tryz.ntmps54
 go_wp2_with fail
 refine hent.mono ?_
 rintro e W1 ⟨rfl,hP1,hg1⟩
 dsimp only
 obtain ⟨hag,hva,hP,hwa,hal⟩:=HA.out
 have hag1:AgP c.P w W1:=(AgP.refl c.P w).grow hg1 (fun r e => .inr (by simp only [Option.some.injEq] at e;exact e.symm))
 have hva1:W1.ownsRow ba 93 1 va args.length (args.map wv):=by
   refine row_off' (b:=0) hva hg1 (fun g e => ?_)
   simp only [ne_eq,Option.some.injEq]
   rintro rfl
   rcases hva.2 with ⟨h',_⟩ | ⟨g',cap',cur,h',_,hb,_⟩
   · rw [h'] at e;cases e
   · rw [h'] at e
     cases e
     unfold Arr at hP
     rw [hb] at hP
     simp only [Option.some.injEq,Obj.cells.injEq] at hP
     exact absurd hP.2.1 (by decide)
 have hnew:=k_new T (hag.trans hag1) hk hd hP1 hml hva1 hal
 have HAG:=Hid.put hag1
 clear hent hag hva hP hva1 hP1 hg1 hag1
 go_wp2_with fail
 refine hnew.mono ?_
 rintro e W2 ⟨q,rfl,hqw,hqk,hqd,Q,hK⟩
 dsimp only
 have hKI:KI c q R 0 [] (Mn.locs (Mn.fn c.fs k) args) mem n W2:=by
   refine ⟨HN.out,?_,?_,?_⟩
   · rw [hqk];exact hK
   · rw [hqk];exact Mn.good_start T.val hk hal hwa hmm
   · rw [hqk,hqd];exact HR.out
 have HKI:=Hid.put hKI
 have HQ:=Hid.put (And.intro hqw (And.intro hqk hqd))
 clear hnew hK hKI hwa hal
 go_wp2
 go_loopw [18,19,20,21,22,23,24,25,26,27,28,29,30,31,32,33] (fun _ _ _ _ _ _ _ _ _ _ _ _ _ _ _ _ wr => (∃ at1 pile loc mem m,m ≤ n ∧ KI c q R at1 pile loc mem m wr) ∨ (∃ pile mem m,KF c q R pile mem m wr)) (fun _ _ _ _ _ _ _ _ _ _ _ _ _ _ _ _ wr => mea c.P q.C q.bl c.fuel wr)
 case atStart => exact .inl ⟨0,_,_,_,n,Nat.le_refl _,HKI.out⟩
 case round =>
   clear HKI
   have hb80:=Q.b80
   rcases hrel with ⟨at1,pile,loc,mem1,m,hmn,hKI⟩ | ⟨pile,mem1,m,hKF⟩
   · have hK:=hKI.km
     have hat:at1 < q.bl:=by have:=hKI.good.lt;have:=Q.len;omega
     have hatZ:(at1:Int) < (q.bl:Int):=by omega
     have hme:=mea_in hK
     rw [if_pos hatZ] at hme
     obtain ⟨v,u,hA, -⟩:=hK.box
     have c1:=hA.cell (j:=1) rfl
     have c6:=hA.cell (j:=6) rfl
     have hml1:=hK.ml
     have hnb:=hKI.nb
     have HK:=Hid.put hKI
     have HME:=Hid.put (And.intro hme hmn)
     have HP:=Hid.put hK.pb
     clear hA hK hKI hme hmn
     go_wp2
     go_region
     rcases m with _ | m
     · have hbo:=burn_out (W:=wr.drew) hml1 (by have:=HP.out.kept (Below.refl wr.heap.size wr).drew;simpa using this)
       go_wp2_with fail
       refine hbo.mono ?_
       rintro e w3 ⟨rfl,hB3⟩
       refine ⟨rfl,.inr ⟨5,rfl,?_⟩⟩
       have hB4:Below wr.heap.size wr w3:=(Below.refl wr.heap.size wr).drew.trans (hB3.mono (Below.refl wr.heap.size wr).drew.size)
       refine ⟨(HAG.out.trans (HQ.out.1 ▸ HK.out.km.agr)).trans (AgP.below hB4),mem1,0,_,?_,Nat.zero_le _,hml1,HP.out.kept hB4⟩
       rw [← HK.out.run]
       rfl
     · have hbn:=burn_on (W:=wr.drew) hml1 (by omega) (by omega) (by omega) (HP.out.kept (Below.refl wr.heap.size wr).drew)
       go_wp2_with fail
       refine hbn.mono ?_
       rintro e w3 ⟨rfl,hP3,hg3⟩
       dsimp only
       rw [show ((c.fuel:Int) - ((m + 1:Nat):Int)) + 1=(c.fuel:Int) - (m:Int) by omega] at hP3
       have hK3:=((HK.out.km.kept (Below.refl wr.heap.size wr).drew).setP hg3 hml1 hP3).1
       have hst:=stp_is Q (IH m (by have:=HME.out.2;omega)) ⟨by omega,hK3,HK.out.good,HK.out.run⟩
       clear hbn hP3 hg3 hK3 c1 c6
       go_wp2_with fail
       refine hst.mono ?_
       intro e w4 hsp
       clear hst
       rcases hsp with ⟨rfl,at2,pile2,loc2,mem2,m2,hm2,hKI2⟩ | ⟨rfl,pile2,mem2,m2,hKF2⟩ | ⟨cd,rfl,hKX⟩
       · dsimp only
         have HK2:=Hid.put (And.intro hm2 hKI2)
         clear hm2 hKI2
         go_wp2
         go_roundw
         case rel => exact .inl ⟨at2,pile2,loc2,mem2,m2,by have:=HK2.out.1;have:=HME.out.2;omega,HK2.out.2⟩
         case measure =>
           have h1:=mea_in HK2.out.2.km
           have h2:=HME.out.1
           have hat2:(at2:Int) < (q.bl:Int):=by have:=HK2.out.2.good.lt;have:=Q.len;omega
           rw [if_pos hat2] at h1
           have:=HK2.out.1
           have:=HK2.out.2.nb
           omega
       · dsimp only
         have HK2:=Hid.put hKF2
         clear hKF2
         go_wp2
         go_roundw
         case rel => exact .inr ⟨pile2,mem2,m2,HK2.out⟩
         case measure =>
           obtain ⟨lo2,ls2,hk2⟩:=HK2.out.km
           have h1:=mea_in hk2
           have h2:=HME.out.1
           rw [if_neg (by omega)] at h1
           omega
       · refine ⟨rfl,.inr ⟨cd,rfl,⟨(HAG.out.trans (HQ.out.1 ▸ hKX.agr)),hKX.box⟩⟩⟩
   · obtain ⟨lo1,ls1,hK⟩:=hKF.km
     obtain ⟨v,u,hA,hv,hu⟩:=hK.box
     have c1:=hA.cell (j:=1) rfl
     have c6:=hA.cell (j:=6) rfl
     have hml1:=hK.ml
     have HK:=Hid.put (And.intro hKF hK)
     have HP:=Hid.put hK.pb
     have HV:=Hid.put (And.intro hA hv)
     have hnlt:¬ (q.bl:Int) < (q.bl:Int):=by omega
     have hPC:¬ c.P=q.C:=by have:=hK.o1;have:=hK.gl;have:=hK.o2;omega
     have hrowP:∀ g,v.ownBlock=some g → g ≠ c.P:=fun g e => by have:=(hv.lt g e).1;have:=hK.o1;have:=hK.gl;have:=hK.o2;omega
     clear hA hv hu hK hKF
     go_wp2
     go_region
     have hlv:=leave_is (W:=wr.drew) d hml1 hd (by have:=HP.out.kept (Below.refl wr.heap.size wr).drew;rw [HQ.out.2.2] at this;exact this)
     go_wp2_with fail
     refine hlv.mono ?_
     rintro e w3 ⟨rfl,hP3,hg3⟩
     dsimp only
     have hA3:Arr w3 q.C 131 (q.vals c v u q.bl):=(HV.out.1.kept (Below.refl wr.heap.size wr).drew).far hg3 (by simp only [ne_eq,Option.some.injEq];exact fun e => hPC e.symm)
     have hv3:w3.ownsRow (q.C + 1) 93 1 v pile.length (pile.map wv):=row_off' (b:=0) (row_kept2 HV.out.2 (Below.refl wr.heap.size wr).drew) hg3 (fun g e => by simp only [ne_eq,Option.some.injEq];exact fun e2 => hrowP g e e2.symm)
     have hag3:AgP c.P w w3:=((HAG.out.trans (HQ.out.1 ▸ HK.out.2.agr)).trans (AgP.below (Below.refl wr.heap.size wr).drew)).grow hg3 (fun r e => .inr (by simp only [Option.some.injEq] at e;exact e.symm))
     have HF:=Hid.put (And.intro hag3 hP3)
     have hfo:=Mn.fn_ok T.val hk
     have hlen:(pile.length:Int)=(Mn.fn c.fs k).g:=by rw [← HQ.out.2.1];exact HK.out.1.len
     have hRR:R = .done (Mn.gives (Mn.fn c.fs k) pile) mem1 m:=by rw [← HQ.out.2.1];exact HK.out.1.run
     have HRR:=Hid.put hRR
     have c4:=hA3.cell (j:=4) rfl
     rcases hfo.2.2.2.2.1 with h0 | h0
     · have hp0:pile.length=0:=by omega
       rw [hp0] at hv3
       have htop:=wtop0 c4 hv3
       have hgv:Mn.gives (Mn.fn c.fs k) pile=0:=by unfold Mn.gives;rw [if_pos h0]
       have HGV:=Hid.put hgv
       clear hlv hA3 hv3 hag3 hP3 hg3 c1 c6 hfo hlen hRR hgv h0 hp0
       go_wp2_with fail
       refine htop.mono ?_
       rintro e w4 ⟨rfl,rfl⟩
       dsimp only
       clear htop
       go_wp2
       go_ret
       refine .inl ⟨0,mem1,m,by rw [HRR.out,HGV.out],rfl,HF.out.1,hml1,HK.out.1.nb,HF.out.2⟩
     · have hp0:pile.length=0 + 1:=by omega
       rw [hp0] at hv3
       have htop:=wtop (by omega) c4 hv3
       have hgv:Mn.gives (Mn.fn c.fs k) pile=pile.getD 0 0:=by unfold Mn.gives;rw [if_neg (by omega),Mn.top_is hp0]
       obtain ⟨y,hy⟩:∃ y,pile.getD 0 0=y:=⟨_,rfl⟩
       rw [hy] at htop hgv
       have HGV:=Hid.put hgv
       clear hlv hA3 hv3 hag3 hP3 hg3 c1 c6 hfo hlen hRR hgv h0 hp0 hy
       go_wp2_with fail
       refine htop.mono ?_
       rintro e w4 ⟨rfl,hB4⟩
       dsimp only
       have HB4:=Hid.put hB4
       clear htop hB4
       go_wp2
       go_ret
       refine .inl ⟨y,mem1,m,by rw [HRR.out,HGV.out],rfl,HF.out.1.trans (AgP.below HB4.out),hml1,HK.out.1.nb,HF.out.2.kept HB4.out⟩
end
theorem give_deep {c:PC} (w:World) (k n:Nat) (mem:List Int) (va:Value) (hml:mem.length=64) (hn:n ≤ c.fuel) (hP:Arr w c.P 91 (PB mem c.fuel ((c.fuel:Int) - n) 12 c.fv c.nv)) :
   Calls Tryz.prog 54 #[.pointer (some ⟨c.P,0,none⟩),.int .i64 k,va] w (GP c w (.stop 6 mem n) 12):=by
 have hent:=enter_deep hml hP
 have HP:=Hid.put hP
 clear hP
 go_enter Tryz.func54,Tryz.ntmps54
 go_wp2_with fail
 refine hent.mono ?_
 rintro e w1 ⟨rfl,rfl⟩
 exact ⟨rfl,.inr ⟨6,rfl,⟨AgP.refl _ _,mem,n,12,rfl,hn,hml,HP.out⟩⟩⟩
theorem give_is {c:PC} {W0:World} (T:TabP c W0) (n:Nat):GiveOK c W0 n:=by
 induction n using Nat.strongRecOn with
 | ind n IH =>
   intro w k d mem args va ba hag hk hd hmm hwa hal hva hn hP
   unfold Mn.runAt
   by_cases h12:12 ≤ d
   · obtain rfl:d=12:=by omega
     rw [if_pos h12]
     exact give_deep w k n mem va (Mm.ok_len hmm) hn hP
   · rw [if_neg h12]
     exact give_step n (fun m hm => IH m hm) T w k d mem args va ba hag hk (by omega) hmm hwa hal hva hn hP
theorem all_take_succ {xs:List Int} {k:Nat} (hk:k < xs.length) (h:(xs.take k).all Wd.ok=true) (hx:Wd.ok (xs.getD k 0)=true):(xs.take (k + 1)).all Wd.ok=true:=by
 rw [List.take_succ_eq_append_getElem hk,List.all_append,h,Bool.true_and]
 rw [List.getD_eq_getElem?_getD,List.getElem?_eq_getElem hk] at hx
 simpa using hx
theorem all_not {xs:List Int} {k:Nat} (hk:k < xs.length) (hx:Wd.ok (xs.getD k 0)=false):xs.all Wd.ok=false:=by
 rw [List.all_eq_false]
 refine ⟨xs[k],List.getElem_mem hk,?_⟩
 rw [List.getD_eq_getElem?_getD,List.getElem?_eq_getElem hk] at hx
 simpa using hx
theorem wordsOk_is (a:Option Addr) (len cap:Nat) (xs:List Int) (w:World) (hs:IL w a len xs) :
   Calls Tryz.prog 70 #[.slice a len cap] w fun e w' => e = .returned (.bool (xs.all Wd.ok)) ∧ w'=w:=by
 obtain ⟨hl,hm,hrow⟩:=hs
 unfold maxLen at hm
 rcases hrow with rfl | ⟨b,off,rfl,hb,hx⟩
 · obtain rfl:xs=[]:=List.eq_nil_of_length_eq_zero hl
   go_enter Tryz.func70,Tryz.ntmps70
   go_wp2
   go_loop [4,7,8,9,10,11,12,13,14] (fun _ i _ _ _ _ _ _ _ => i = .int .i64 0) (fun _ _ _ _ _ _ _ _ _ => 0)
   case atStart => rfl
   case round =>
     subst hrel
     go_wp2
     go_ret
     exact ⟨rfl,rfl⟩
 · have HL:=Hid.put hl
   clear hl
   go_enter Tryz.func70,Tryz.ntmps70
   go_wp2
   go_loop [4,7,8,9,10,11,12,13,14] (fun _ i _ _ _ _ _ _ _ => ∃ k:Nat,i = .int .i64 k ∧ k ≤ len ∧ (xs.take k).all Wd.ok=true) (fun _ i _ _ _ _ _ _ _ => len - (intOf i).toNat)
   case atStart => exact ⟨0,rfl,Nat.zero_le _,rfl⟩
   case round =>
     obtain ⟨k,rfl,hk,hall⟩:=hrel
     have HA:=Hid.put hall
     clear hall
     by_cases hlt:k < len
     · have hltZ:(k:Int) < (len:Int):=by omega
       have c0:=hx k hlt
       obtain ⟨y,hy⟩:∃ y,xs.getD k 0=y:=⟨_,rfl⟩
       rw [hy] at c0
       have HY:=Hid.put hy
       clear hy hx
       rcases hok:Wd.ok y with _ | _
       · go_wp2_with (go_at_call 101;refine (impl_WordOk _ _).mono ?_;rintro e w' ⟨rfl,hww⟩;subst w';rw [hok])
         go_ret
         rw [all_not (xs:=xs) (k:=k) (by rw [HL.out];exact hlt) (by rw [HY.out];exact hok)]
         exact ⟨rfl,rfl⟩
       · go_wp2_with (go_at_call 101;refine (impl_WordOk _ _).mono ?_;rintro e w' ⟨rfl,hww⟩;subst w';rw [hok])
         refine ⟨⟨k + 1,by simp,by omega,all_take_succ (by rw [HL.out];exact hlt) HA.out (by rw [HY.out];exact hok)⟩,?_⟩
         simp [intOf]
         omega
     · obtain rfl:k=len:=by omega
       clear hx
       go_wp2
       go_ret
       have:=HA.out
       rw [List.take_of_length_le (by rw [HL.out];exact Nat.le_refl _)] at this
       rw [this]
       exact ⟨rfl,rfl⟩
theorem wordsOf_is (a:Option Addr) (len cap:Nat) (xs:List Int) (w:World) (hs:IL w a len xs) (hn:len ≤ 100) (hw:Mn.words xs) :
   Calls Tryz.prog 55 #[.slice a len cap] w fun e w' => ∃ va,e = .returned va ∧ w'.ownsRow w.heap.size 93 1 va len (xs.map wv) ∧ Below w.heap.size w w':=by
 obtain ⟨i0,hi,hz0,hz1,hz2⟩:=info_parts info_word
 obtain ⟨wm,hmk,hown,hgrow⟩:=run_make_own (P:=Tryz.prog) w w.heap.size 95 93 i0 _ 1 Tryz.underlying95 hi hz0 hz1 .i64 .i64 len (by rw [hz2];omega) (by simp only [maxLen];omega) (Nat.le_refl _)
 have hBm:Below w.heap.size w wm:=⟨hgrow.os,hgrow.tape,hgrow.output,hgrow.size,fun k hk => hgrow.block k hk (by simp)⟩
 have HS:=Hid.put hs
 have HM:=Hid.put (And.intro hown hBm)
 have HW:=Hid.put hw
 clear hgrow hown hw hs hBm
 go_enter Tryz.func55,Tryz.ntmps55
 go_wp2
 go_loopw [3,5,11,12,13,14,15,16,17,18,19,20] (fun v _ i _ _ _ _ _ _ _ _ _ wr => ∃ k:Nat,i = .int .i64 k ∧ k ≤ len ∧ wr.ownsRow w.heap.size 93 1 v k ((xs.take k).map wv) ∧ Below w.heap.size w wr) (fun _ _ i _ _ _ _ _ _ _ _ _ _ => len - (intOf i).toNat)
 case atStart => exact ⟨0,rfl,Nat.zero_le _,HM.out.1,HM.out.2⟩
 case round =>
   clear hmk
   obtain ⟨k,rfl,hk,hown,hB⟩:=hrel
   have hil:=HS.out.kept hB
   obtain ⟨vs,cs,rfl⟩:=ownsRow_slice hown
   have hl:=hil.1
   by_cases hlt:k < len
   · have hltZ:(k:Int) < (len:Int):=by omega
     obtain ⟨-, -,h3 | ⟨b,off,rfl,hb,hx⟩⟩:=id hil
     · omega
     have c0:=hx k hlt
     have hwk:Wd.ok (xs.getD k 0)=true:=Mn.words_get HW.out k
     obtain ⟨y,hy⟩:∃ y,xs.getD k 0=y:=⟨_,rfl⟩
     rw [hy] at c0 hwk
     obtain ⟨hy0,hy1⟩:=Wd.ok_iff.1 hwk
     have hsn:xs.take (k + 1)=xs.take k ++ [y]:=by
       rw [List.take_succ_eq_append_getElem (by omega),← hy,List.getD_eq_getElem?_getD,List.getElem?_eq_getElem (by omega)]
       rfl
     have HR:=Hid.put (hown.alloc (.cells #[.int .u32 y] 93))
     have HB1:=Hid.put (And.intro (hB.trans ((below_one wr (.cells #[.int .u32 y] 93)).mono hB.size)) (And.intro hil hsn))
     have hsz:=hB.size
     clear hown hB hil hx hy hwk hsn
     go_wp2_with (at_builtin;refine wpList_append_own _ rfl _ _ 95 rfl w.heap.size 93 i0 (.int .u32 0) 1 4 Tryz.underlying95 hi hz0 hz1 hz2 rfl (by decide) _ _ _ rfl HR.out ⟨wr.heap.size,0,none⟩ 1 1 [.int .u32 y] rfl rfl (one_news _ _ _ _ rfl) (by simp [Value.oneCell']) (by simp only [maxLen];omega) (by omega) (by simp;omega) ?_;intro v' wA hown' hgrow _;have HF:=Hid.put (And.intro hown' hgrow);clear hown' hgrow)
     go_roundw
     case rel =>
       obtain ⟨hB1,hil,hsn⟩:=HB1.out
       have hB2:=hB1.grown HF.out.2 hB1.size (fun j ej => ((HR.out.lt j ej).1))
       exact ⟨k + 1,by simp,by omega,by rw [hsn,List.map_append];exact HF.out.1,hB2⟩
     case measure => simp [intOf];omega
   · obtain rfl:k=len:=by omega
     have HO:=Hid.put (And.intro hown hB)
     have HL:=Hid.put hl
     clear hown hB hil hl
     go_wp2
     go_ret
     refine ⟨_,rfl,?_,HO.out.2⟩
     have:=HO.out.1
     rw [List.take_of_length_le (by rw [HL.out];exact Nat.le_refl _)] at this
     exact this
theorem wpList_copyS {P:Program} {w:World} {ops:Array Oper} {rest:List Oper} {o:Oper} {a:Act} {Q:Exit → Act → World → Prop} (hgd:o.guard=none) (d s:Operand) (dT sT:TypeId)
   (ho:o.op = .call { callee:=.builtin .copy,args:=#[d,s],argTypes:=#[dT,sT] }) (elem:TypeId) (hu:P.underlying dT=some (.slice elem)) (hsz:(P.info? elem).map (·.size)=some 1)
   (g dCap:Nat) (dLen:Nat) (t:ByteArray) (hd:a.eval d = .slice (some ⟨g,0,none⟩) dLen dCap) (hs:a.eval s = .string t)
   (ty:TypeId) (cur:List Value) (hg:Arr w g ty cur) (hle:t.size ≤ dLen) (hfit:t.size ≤ cur.length)
   (h:∀ w',Arr w' g ty (Lib.byteCells t.data.toList ++ cur.drop t.size) → w.grownBy w' (some g) → wpList P ops Q rest (a.put o.dst (goInt t.size)) w'):wpList P ops Q (o :: rest) a w:=by
 refine wpList_plain hgd fun K hK => ?_
 have hrun:=Lib.run_copy_row_string (P:=P) w dT sT o.type elem g 0 dLen dCap t cur.toArray ty hu hsz hg hle (by simpa using hfit)
 unfold Oper.wp
 simp [execOp,ho,resolve,invoke,builtin,hd,hs,hrun,Result.andThen]
 refine hK _ _ (h _ ?_ (grownBy_setRow _ _ _))
 have:=hg.row (Lib.byteCells t.data.toList ++ cur.drop t.size)
 simpa using this
theorem info_ptr:(Tryz.prog.info? 117).map (fun i => (i.zero,i.size,i.bytes))=some (some (.pointer none),1,8):=by kernel_rfl
def zmem:List Int:=List.replicate 64 0
theorem built_prog (a:Option Addr) (n c:Nat):Tryz.prog.built 91 [(1,.slice a n c)]=some (PB zmem 0 0 0 (.slice a n c) (.slice none 0 0)).toArray:=by kernel_rfl
theorem wpList_build {P:Program} {ops:Array Oper} {rest:List Oper} {o:Oper} {a:Act} {w:World} {Q:Exit → Act → World → Prop} (hgd:o.guard=none) (t:TypeId) (parts:Array (Nat × Operand)) (ho:o.op = .build t parts)
   (cs:Array Value) (hb:P.built t (parts.map fun (i,x) => (i,a.eval x)).toList=some cs) (h:wpList P ops Q rest (a.put o.dst (.agg cs)) w):wpList P ops Q (o :: rest) a w:=by
 refine wpList_plain hgd fun K hK => ?_
 refine wp_build t parts ho (by rw [hb];rfl) ?_
 rw [hb]
 exact hK _ _ h
structure NS (W:World) (P:Nat) (v:Value) (k:Nat) (ns:Nat → Nat) (fs:List Fn):Prop where
 row:∃ vs:List Value,W.ownsRow (P + 1) 117 1 v k vs ∧ ∀ j,j < k → vs[j]? = some (.pointer (some ⟨ns j,0,none⟩))
 box:∀ j,j < k → NB W (P + 1) (ns j) (Nst.ends (Mn.fn fs j).b) (Nst.elses (Mn.fn fs j).b)
theorem box5_far {W W':World} {b r:Nat} {v0 v1 v2 v3 v4:Value} (h:Box5 W b v0 v1 v2 v3 v4) (hg:W.grownBy W' (some r)) (hne:b ≠ r):Box5 W' b v0 v1 v2 v3 v4:=h.far hg (by simp only [ne_eq,Option.some.injEq];exact fun e => hne e.symm)
theorem NB.far {W W':World} {n0 N r:Nat} {E O:List Int} (h:NB W n0 N E O) (hg:W.grownBy W' (some r)) (hN:N ≠ r) (hr:∀ (v:Value) (xs:List Int),W.ownsRow n0 2 1 v xs.length (xs.map iv) → v.ownBlock ≠ some r):NB W' n0 N E O:=by
 obtain ⟨v0,v1,vE,vO,v4,hb,hE,hO,hn,hs⟩:=h
 refine ⟨v0,v1,vE,vO,v4,box5_far hb hg hN,?_,?_,hn,hs⟩
 · exact row_off' (b:=0) hE hg (fun g e q => hr vE E hE (e.trans q.symm))
 · exact row_off' (b:=0) hO hg (fun g e q => hr vO O hO (e.trans q.symm))
theorem NB.kept {W W':World} {n0 N:Nat} {E O:List Int} (h:NB W n0 N E O) (hB:Below W.heap.size W W'):NB W' n0 N E O:=by
 obtain ⟨v0,v1,vE,vO,v4,hb,hE,hO,hn,hs⟩:=h
 exact ⟨v0,v1,vE,vO,v4,hb.far (row:=none) (grown_below' hB) (by simp),row_kept2 hE hB,row_kept2 hO hB,hn,hs⟩
theorem NB.mono {W:World} {n0 n1 N:Nat} {E O:List Int} (h:NB W n1 N E O) (hm:n0 ≤ n1):NB W n0 N E O:=by
 obtain ⟨v0,v1,vE,vO,v4,hb,hE,hO,hn,hs⟩:=h
 exact ⟨v0,v1,vE,vO,v4,hb,row_mono hE hm,row_mono hO hm,Nat.le_trans hm hn,hs⟩
theorem NB.ptr {W:World} {n0 N e base k:Nat} {E O:List Int} {v:Value} {vs:List Value} (h:NB W n0 N E O) (hr:W.ownsRow base e 1 v (k + 1) vs) (hp:∃ a,vs[0]? = some (.pointer a)):v.ownBlock ≠ some N:=by
 intro hv
 obtain ⟨g,c,rfl⟩:=ownsRow_succ hr
 cases hv
 obtain ⟨v0,v1,vE,vO,v4,hb,hE,hO,hn,a0,l0,c0,rfl⟩:=h
 obtain ⟨a,ha⟩:=hp
 have h1:=hr.cellAt 0 (by omega)
 rw [ha] at h1
 have h2:=hb.2.1.1
 rw [h1] at h2
 cases h2
theorem NS.kept {W W':World} {P k:Nat} {v:Value} {ns:Nat → Nat} {fs:List Fn} (h:NS W P v k ns fs) (hB:Below W.heap.size W W'):NS W' P v k ns fs:=by
 obtain ⟨vs,h1,h2⟩:=h.row
 exact ⟨⟨vs,row_kept2 h1 hB,h2⟩,fun j hj => (h.box j hj).kept hB⟩
theorem NB.ge {W:World} {n0 N:Nat} {E O:List Int} (h:NB W n0 N E O):n0 ≤ N:=by
 obtain ⟨v0,v1,vE,vO,v4,hb,hE,hO,hn,hs⟩:=h
 exact hn
theorem NS.agp {W W':World} {P k:Nat} {v:Value} {ns:Nat → Nat} {fs:List Fn} (h:NS W P v k ns fs) (hg:W.grownBy W' (some P)):NS W' P v k ns fs:=by
 obtain ⟨vs,h1,h2⟩:=h.row
 refine ⟨⟨vs,row_off' (b:=0) h1 hg (fun g e q => by have:=(h1.lt g e).1;cases q;omega),h2⟩,fun j hj => (h.box j hj).far hg (by have:=(h.box j hj).ge;omega) (fun v xs hr e => by have:=(hr.lt P e).1;omega)⟩
theorem AgP.grownBy {P:Nat} {W W':World} (h:AgP P W W'):W.grownBy W' (some P):=⟨h.os,h.tape,h.out,h.size,fun i hi hne => h.blk i hi (fun e => hne (by rw [e]))⟩
theorem tab_of {c:PC} {w W0:World} (hfl:FL w (some ⟨c.fb,c.fo,none⟩) c.fs.length c.fs) (hwP:w.heap.size ≤ c.P) (hfb:c.fb < w.heap.size) (hB:Below w.heap.size w W0) (hns:NS W0 c.P c.nv c.fs.length c.ns c.fs) (hv:Mn.Val c.fs) (hf:c.fuel ≤ 3000):TabP c W0:=by
 refine ⟨fun W h => ?_,fun W h k hk => ?_,hv,hf,⟨Nat.lt_of_lt_of_le hfb hB.size,by omega⟩⟩
 · refine hfl.kept ⟨h.os.trans hB.os,h.tape.trans hB.tape,h.out.trans hB.output,Nat.le_trans hB.size h.size,fun i hi => (h.blk i (Nat.lt_of_lt_of_le hi hB.size) (by omega)).trans (hB.block i hi)⟩
 · have hn2:=hns.agp h.grownBy
   obtain ⟨vs,h1,h2⟩:=hn2.row
   have hcell:W.cell? ⟨c.nb,k,none⟩=some (.pointer (some ⟨c.ns k,0,none⟩)):=by
     have e:=World.ownsRow.cellAt (g:=c.nb) h1 k (by omega)
     rw [e]
     exact h2 k hk
   obtain ⟨v0,v1,vE,vO,v4,hb,hE,hO, -⟩:=hn2.box k hk
   obtain ⟨aE,cE,rfl,hiE⟩:=OI.slice hE
   obtain ⟨aO,cO,rfl,hiO⟩:=OI.slice hO
   exact ⟨hcell,⟨aE,_,cE,hb.2.1.2.2.1,hiE⟩,⟨aO,_,cO,hb.2.1.2.2.2.1,hiO⟩⟩
theorem PB_new {s:ByteArray} {fuel:Int} {fv nv:Value} (hle:s.size ≤ 64):Lib.byteCells s.data.toList ++ (PB zmem fuel 0 0 fv nv).drop s.size=PB (Mm.new s) fuel 0 0 fv nv:=by
 unfold PB zmem
 rw [List.drop_append_of_le_length (by simp;exact hle),← List.map_drop,List.drop_replicate,← List.append_assoc]
 congr 1
 rw [Mm.new,if_pos hle,List.map_append]
 congr 1
 simp [Lib.byteCells,Mm.nums,bv]
theorem newProgram_is (fb fo n cap:Nat) (fs:List Fn) (s:ByteArray) (fuel:Nat) (w:World) (hfl:FL w (some ⟨fb,fo,none⟩) n fs) (hv:Mn.Val fs) (hs:s.size ≤ 64) (hf:fuel ≤ 3000) :
   Calls Tryz.prog 51 #[.agg #[.slice (some ⟨fb,fo,none⟩) n cap,.string s],.int .i64 fuel] w fun e w' => ∃ c:PC,e = .returned (.pointer (some ⟨c.P,0,none⟩)) ∧ c.fuel=fuel ∧ c.fs=fs ∧ w.heap.size ≤ c.P ∧ TabP c w' ∧ Arr w' c.P 91 (PB (Mm.new s) c.fuel 0 0 c.fv c.nv) ∧ Below w.heap.size w w':=by
 have hnl:fs.length=n:=hfl.1
 have hn4:n ≤ 4:=by have:=hv.len.2;omega
 have hB1:=below_one w (.cells #[.slice (some ⟨fb,fo,none⟩) n cap,.string s] 26)
 have hM1:Arr (w.alloc (.cells #[.slice (some ⟨fb,fo,none⟩) n cap,.string s] 26)) w.heap.size 26 [.slice (some ⟨fb,fo,none⟩) n cap,.string s]:=heap_alloc_last w _
 obtain ⟨pb,hpb⟩:∃ pb,PB zmem 0 0 0 (.slice (some ⟨fb,fo,none⟩) n cap) (.slice none 0 0)=pb:=⟨_,rfl⟩
 have hbt:=built_prog (some ⟨fb,fo,none⟩) n cap
 rw [hpb] at hbt
 have HF:=Hid.put (And.intro hfl (And.intro hnl (And.intro hB1 (And.intro hM1 (And.intro hpb hbt)))))
 clear hfl hnl hB1 hM1 hpb hbt
 go_enter Tryz.func51,Tryz.ntmps51
 go_wp2_with (refine stop_build 91 _ rfl ?_)
 refine ⟨?_⟩
 refine wpList_build rfl _ _ rfl pb.toArray (by simpa [Act.eval] using HF.out.2.2.2.2.2) ?_
 go_wp2_with (refine stop_box 91 _ rfl ?_)
 refine ⟨?_⟩
 refine wpList_boxA rfl _ _ rfl pb rfl ?_
 intro P W2 hP2 hA2 hB2
 obtain ⟨hfl,hnl,hB1,hM1,hpb, -⟩:=HF.out
 rw [← hpb] at hA2
 have hzl:zmem.length=64:=by unfold zmem;simp
 have hPw:w.heap.size < P:=by have:=hP2.out;have:=hM1.lt;omega
 obtain ⟨⟨q0, -, -, -, -⟩,qf⟩:=pb_cells hzl hA2
 have q64:=qf 64
 have hB12:Below w.heap.size w W2:=hB1.trans (hB2.mono hB1.size)
 have hA3:Arr (W2.setCell ⟨P,64,none⟩ (.int .i64 fuel)) P 91 (PB zmem fuel 0 0 (.slice (some ⟨fb,fo,none⟩) n cap) (.slice none 0 0)):=by
   have:=hA2.set 64 (.int .i64 fuel)
   rw [show (64:Nat)=64 + 0 from rfl,PB_set hzl] at this
   exact this
 have hM3:Arr (W2.setCell ⟨P,64,none⟩ (.int .i64 fuel)) w.heap.size 26 [.slice (some ⟨fb,fo,none⟩) n cap,.string s]:=(hM1.kept hB2).far (grownBy_set' W2 ⟨P,64,none⟩ (.int .i64 fuel)) (by simp only [ne_eq,Option.some.injEq];omega)
 have hB3:Below w.heap.size w (W2.setCell ⟨P,64,none⟩ (.int .i64 fuel)):=hB12.setCell (p:=⟨P,64,none⟩) (by show w.heap.size ≤ P;omega) _
 have H3:=Hid.put (And.intro hA3 (And.intro hM3 hB3))
 have hPl:=hA2.lt
 clear hA3 hM3 hB3 hA2 hB12 hB1 hM1 hB2 hpb hP2 qf hfl
 go_upto_region 3 with fail
 obtain ⟨W3,hW3⟩:∃ W3,W2.setCell ⟨P,64,none⟩ (.int .i64 fuel)=W3:=⟨_,rfl⟩
 rw [hW3] at H3 ⊢
 clear hW3 q0 q64
 obtain ⟨hA3,hM3,hB3⟩:=H3.out
 have m1:=hM3.cell (j:=1) rfl
 have hml:=hM3.lt
 have hne:=Beh.any W3
 have m1B:∀ p:Beh W3,p.to.cell? ⟨w.heap.size,1,none⟩=some (.string s):=fun p => (p.h.cell (p:=⟨w.heap.size,1,none⟩) hml).trans m1
 go_wp2_with fail
 clear m1 hA3 hM3 hB3
 refine wp_region_qtail 7 (by kernel_rfl) (by kernel_rfl) ?_
 simp only [List.take_succ_cons,List.take_zero,List.drop_succ_cons,List.drop_zero]
 repeat (go_big_quiet_step (fail))
 refine wpQuiet_nil ?_
 rintro _ ⟨pw,rfl⟩
 have hA4:=H3.out.1.kept pw.h
 have hM4:=H3.out.2.1.kept pw.h
 have hB4:Below w.heap.size w pw.to:=H3.out.2.2.trans (pw.h.mono H3.out.2.2.size)
 obtain ⟨W4,hW4⟩:∃ W4,pw.to=W4:=⟨_,rfl⟩
 rw [hW4] at hA4 hM4 hB4 ⊢
 clear hW4 hne m1B
 go_simp
 refine wpList_copyS rfl _ _ _ _ rfl 5 Tryz.underlying22 (by kernel_rfl) P _ _ s rfl rfl _ _ hA4 hs (by rw [PB_len hzl];omega) ?_
 intro W5 hA5 hg5
 rw [PB_new hs] at hA5
 have hM5:Arr W5 w.heap.size 26 [.slice (some ⟨fb,fo,none⟩) n cap,.string s]:=hM4.far hg5 (by simp only [ne_eq,Option.some.injEq];omega)
 have hB5:Below w.heap.size w W5:=below_grownBy hB4 hg5 (by omega)
 have m0:=hM5.cell (j:=0) rfl
 have H5:=Hid.put (And.intro hA5 (And.intro hM5 hB5))
 have HZ:=Hid.put hzl
 clear hA5 hM5 hB5 hA4 hM4 hB4 hg5 H3 hzl
 go_wp2_with fail
 obtain ⟨i0,hi,hz0,hz1,hz2⟩:=info_parts info_ptr
 go_loopw [7,8,9,30,31,32,33,34,35,36,37,38,39,40,41,42,43,44,45,46,47,48,49,50] (fun _ _ _ i _ _ _ _ _ _ _ _ _ _ _ _ _ _ _ _ _ _ _ _ wr => ∃ (k:Nat) (v:Value) (ns:Nat → Nat),i = .int .i64 k ∧ k ≤ n ∧ Arr wr P 91 (PB (Mm.new s) fuel 0 0 (.slice (some ⟨fb,fo,none⟩) n cap) v) ∧ NS wr P v k ns fs ∧ Below w.heap.size w wr) (fun _ _ _ i _ _ _ _ _ _ _ _ _ _ _ _ _ _ _ _ _ _ _ _ _ => n - (intOf i).toNat)
 case atStart => exact ⟨0,.slice none 0 0,fun _ => 0,rfl,Nat.zero_le _,H5.out.1,⟨⟨[],⟨rfl,.inl ⟨rfl,rfl⟩⟩,fun j hj => by omega⟩,fun j hj => by omega⟩,H5.out.2.2⟩
 case round =>
   obtain ⟨k,v,ns,rfl,hk,hA,hns,hB⟩:=hrel
   have hmm:(Mm.new s).length=64:=Mm.ok_len (Mm.new_ok hs)
   clear H5 m0
   by_cases hlt:k < n
   · have hltZ:(k:Int) < (n:Int):=by omega
     obtain ⟨f0,f1,f2,ba,bl,bc,f3,hsl⟩:=fl_at (HF.out.1.kept hB) hlt
     obtain ⟨fa,hfa⟩:∃ x,(Mn.fn fs k).a=x:=⟨_,rfl⟩
     obtain ⟨fl,hfl'⟩:∃ x,(Mn.fn fs k).l=x:=⟨_,rfl⟩
     obtain ⟨fg,hfg⟩:∃ x,(Mn.fn fs k).g=x:=⟨_,rfl⟩
     rw [hfa] at f0
     rw [hfl'] at f1
     rw [hfg] at f2
     have hB1:=below_one wr (.cells #[.int .i64 fa,.int .i64 fl,.int .i64 fg,.slice ba bl bc] 76)
     have hcon:=nestingOf_is ba bl bc (Mn.fn fs k).b _ (hsl.kept hB1)
     have hPr:=hA.lt
     have H6:=Hid.put (And.intro hA (And.intro hns (And.intro hB hB1)))
     clear hA hns hB hB1 hsl hfa hfl' hfg
     go_wp2_with fail
     refine hcon.mono ?_
     rintro e W6 ⟨N,rfl,hnb,hB6⟩
     dsimp only
     obtain ⟨hA,hns,hB,hB1⟩:=H6.out
     have hBr:Below wr.heap.size wr W6:=hB1.trans (hB6.mono hB1.size)
     have hA6:=hA.kept hBr
     have hns6:=hns.kept hBr
     obtain ⟨⟨-, -, -, -,p68⟩,pf⟩:=pb_cells hmm hA6
     obtain ⟨vs,hrow,hvs⟩:=hns6.row
     obtain ⟨av,cv,rfl⟩:=ownsRow_slice hrow
     have HR:=Hid.put (hrow.alloc (.cells #[.pointer (some ⟨N,0,none⟩)] 117))
     have hsz6:P + 1 ≤ W6.heap.size:=hA6.lt
     have HALL:=Hid.put (And.intro hA6 (And.intro hns6 (And.intro (hB.trans (hBr.mono hB.size)) (And.intro hnb (And.intro hvs hrow)))))
     have hB7:=below_one W6 (.cells #[.pointer (some ⟨N,0,none⟩)] 117)
     have q68:=(hB7.cell (p:=⟨P,68,none⟩) hA6.lt).trans p68
     have qf68:=(hB7.frozen (p:=⟨P,68,none⟩) hA6.lt).trans (pf 68)
     have hap:(Value.slice av k cv).ownBlock ≠ some P:=fun e => by have:=(hrow.lt P e).1;omega
     have HD:=Hid.put (And.intro q68 (And.intro qf68 (And.intro hap hB7)))
     clear hcon hA hns hB hB1 hBr hA6 hns6 hrow hvs hnb hB6 pf q68 qf68 hap hB7
     go_wp2_with (at_builtin;refine wpList_append_own _ rfl _ _ 89 rfl (P + 1) 117 i0 (.pointer none) 1 8 Tryz.underlying89 hi hz0 hz1 hz2 rfl (by decide) _ _ _ rfl HR.out ⟨W6.heap.size,0,none⟩ 1 1 [.pointer (some ⟨N,0,none⟩)] rfl rfl (one_news _ _ _ _ rfl) (by simp [Value.oneCell']) (by simp only [maxLen];omega) (by omega) (by simp;omega) ?_;intro v' wA hown' hgrow _;obtain ⟨g',cap',rfl⟩:=ownsRow_succ hown';have hblk:=hgrow.block P (by simp;omega) (fun e => HD.out.2.2.1 e.symm);have cA:=(World.cell?_of_block hblk (a:=⟨P,68,none⟩)).trans HD.out.1;have fA:wA.frozen? ⟨P,68,none⟩=false:=(by unfold World.frozen?;rw [hblk];exact HD.out.2.1);have HAll:=Hid.put (And.intro hown' (And.intro hgrow hblk));clear hown' hgrow hblk)
     go_roundw
     case rel =>
       obtain ⟨hA6,hns6,hBw,hnb,hvs,hrow⟩:=HALL.out
       obtain ⟨hown',hgrow,hblk⟩:=HAll.out
       have hB7:=HD.out.2.2.2
       have hgr:W6.grownBy wA (Value.slice av k cv).ownBlock:=⟨hgrow.os.trans hB7.os,hgrow.tape.trans hB7.tape,hgrow.output.trans hB7.output,Nat.le_trans hB7.size hgrow.size,fun i hi hne => (hgrow.block i (Nat.lt_of_lt_of_le hi hB7.size) hne).trans (hB7.block i hi)⟩
       have hset:=grownBy_set' wA ⟨P,68,none⟩ (.slice (some ⟨g',0,none⟩) (k + 1) cap')
       have hAA:Arr wA P 91 (PB (Mm.new s) fuel 0 0 (.slice (some ⟨fb,fo,none⟩) n cap) (.slice av k cv)):=hA6.far hgr (fun e => HD.out.2.2.1 e.symm)
       refine ⟨k + 1,.slice (some ⟨g',0,none⟩) (k + 1) cap',fun j => if j=k then N else ns j,by simp,by omega,?_,?_,?_⟩
       · have:=hAA.set 68 (.slice (some ⟨g',0,none⟩) (k + 1) cap')
         rw [show (68:Nat)=64 + 4 from rfl,PB_set hmm] at this
         exact this
       · refine NS.agp ?_ hset
         have hkeep:∀ (M:Nat) (E O:List Int),NB W6 (P + 1) M E O → (Value.slice av k cv).ownBlock ≠ some M → NB wA (P + 1) M E O:=fun M E O h hne => by
           rcases hv0:(Value.slice av k cv).ownBlock with _ | r
           · rw [hv0] at hgr
             exact h.kept ⟨hgr.os,hgr.tape,hgr.output,hgr.size,fun i hi => hgr.block i hi (by simp)⟩
           · rw [hv0] at hgr hne
             refine h.far hgr (fun e => hne (by rw [e])) (fun v xs hr e => ?_)
             exact (rows_apart hr hrow (by decide)) r hv0 e
         refine ⟨⟨_,hown',fun j hj => ?_⟩,fun j hj => ?_⟩
         · by_cases e:j=k
           · subst e
             rw [if_pos rfl,List.getElem?_append_right (by rw [hrow.1];omega),hrow.1]
             simp
           · rw [if_neg e,List.getElem?_append_left (by rw [hrow.1];omega)]
             exact hvs j (by omega)
         · by_cases e:j=k
           · subst e
             rw [if_pos rfl]
             refine hkeep _ _ _ (hnb.mono (by simp;omega)) (fun e => ?_)
             have h1:=hnb.ge
             obtain ⟨vs0,hrow0, -⟩:=H6.out.2.1.row
             have h2:=(hrow0.lt N e).2
             simp at h1
             omega
           · rw [if_neg e]
             obtain ⟨k',rfl⟩:∃ k',k=k' + 1:=⟨k - 1,by omega⟩
             exact hkeep _ _ _ (hns6.box j (by omega)) ((hns6.box j (by omega)).ptr hrow ⟨_,hvs 0 (by omega)⟩)
       · refine (hBw.grown hgr hBw.size (fun r e => ?_)).grown hset (Nat.le_trans hBw.size hgr.size) (fun r e => ?_)
         · have:=(hrow.lt r e).1
           omega
         · simp only [Option.some.injEq] at e
           omega
     case measure => simp [intOf];omega
   · obtain rfl:k=n:=by omega
     have hfo:=hv.len.1
     obtain ⟨vs,hrow,hvs⟩:=id hns.row
     obtain ⟨hflw,hnl, -⟩:=HF.out
     obtain ⟨k',hk'⟩:∃ k',k=k' + 1:=⟨k - 1,by omega⟩
     have hsl:∃ g c,v = .slice (some ⟨g,0,none⟩) k c:=by
       rw [hk'] at hrow ⊢
       exact ownsRow_succ hrow
     obtain ⟨g,cc,rfl⟩:=hsl
     have hfbw:fb < w.heap.size:=by
       obtain ⟨-, -,h3 | ⟨b',o',e,hb', -⟩⟩:=hflw
       · omega
       · simp only [Option.some.injEq,Addr.mk.injEq,and_true] at e
         rw [e.1]
         exact hb'
     have HR:Hid (TabP ⟨P,fuel,fs,fb,fo,cap,g,cc,ns⟩ wr ∧ Arr wr P 91 (PB (Mm.new s) fuel 0 0 (.slice (some ⟨fb,fo,none⟩) k cap) (.slice (some ⟨g,0,none⟩) k cc)) ∧ Below w.heap.size w wr):=by
       refine ⟨tab_of (w:=w) ?_ (by show w.heap.size ≤ P;omega) hfbw hB ?_ hv hf,hA,hB⟩
       · show FL w (some ⟨fb,fo,none⟩) fs.length fs
         rw [hnl];exact hflw
       · show NS wr P (.slice (some ⟨g,0,none⟩) fs.length cc) fs.length ns fs
         rw [hnl];exact hns
     clear hA hns hB hrow hvs
     go_wp2
     go_ret
     refine ⟨⟨P,fuel,fs,fb,fo,cap,g,cc,ns⟩,rfl,rfl,rfl,by show w.heap.size ≤ P;omega,HR.out.1,?_,HR.out.2.2⟩
     show Arr wr P _ (PB (Mm.new s) fuel 0 0 (.slice (some ⟨fb,fo,none⟩) fs.length cap) (.slice (some ⟨g,0,none⟩) fs.length cc))
     rw [hnl]
     exact HR.out.2.1
end Go.Proofs.YthpdpoocigpccaaGreatDoor
