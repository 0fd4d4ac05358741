/-
  Proved: at every list of Lines the program's Pressure answers as the specification's does and writes nothing of what it is given, and the law FnExactPressure returns true; no condition.
-/
import Derived.Test.YtlbkdlnalgkjeaaLB11
import Derived.Deep.RegionWith
namespace Go.Proofs.Ytlbkdlnalgkjeaa.fnExactPressure
open Go.ChangeShapes Go.WideShapes Go.ChangeAt Go.RowKit Go.Joins Go.Deep
set_option linter.all false
set_option maxRecDepth 20000
theorem own:ownKnob Try.prog.godebug=none:=by kernel_rfl
theorem laidOut:laidOutB Try.prog=true:=by kernel_rfl
theorem drew_below {w w':World}(h:Below w.drew.heap.size w.drew w'):Below w.heap.size w w':=((Below.refl _ w).drew).trans (h.mono (by simp))
set_option maxHeartbeats 4000000 in
theorem walk (a:Option Addr)(len cap:Nat)(fs:List Ln)(w:World)(hs:LL w a len fs):Calls Try.prog 5 #[.slice a len cap] w fun e w'=>e= .returned (.bool true)/\Below w.heap.size w w':=by have HL:=ae hs.1;go_enter Try.func5,Try.ntmps5;go_wp2_with fail;refine(ni a len cap fs w hs).mono ?_;rintro e w1 ⟨r,rfl,hr,hB1⟩;dsimp only;rcases hr with rfl|⟨hr0,hr1,BA,hsm⟩;{clear hs;go_wp2;go_ret;exact⟨rfl,hB1⟩};have hnn:¬r<0:=by{omega};have hs1:=hs.kept hB1;have hmv:∀W,LL W a len fs->Calls Try.prog 8 #[.slice a len cap] W fun e w'=>∃g c,e= .returned (.slice (some ⟨g,0,none⟩) len c)/\LL w' (some ⟨g,0,none⟩) len fs/\Below W.heap.size W w':=fun W h=>(mJ a len cap fs BA hsm W h).mono fun e w'=>by{rintro⟨v,rfl,ho,hB⟩;obtain⟨g,c,rfl,-,-,hll⟩:=ho.LL;rw[HL.out]at hll ⊢;exact⟨g,c,rfl,hll,hB⟩};clear hs hsm HL;go_wp2_with fail;refine(hmv _ hs1).mono ?_;rintro e w2 ⟨g2,c2,rfl,hl2,hB2⟩;dsimp only;have hs2:=hs1.kept hB2;have hB3:=hB1.trans (hB2.mono hB1.size);clear hs1 hB1 hB2;go_wp2_with fail;refine(jm _ _ _ fs _ hl2).mono ?_;rintro e w3 ⟨rfl,hB4⟩;dsimp only;have hs3:=hs2.kept hB4;have bX:=hB3.trans (hB4.mono hB3.size);clear hs2 hB3 hB4 hl2;go_wp2_with fail;refine(hmv _ hs3).mono ?_;rintro e w4 ⟨g4,c4,rfl,hl4,jT⟩;dsimp only;have hs4:=hs3.kept jT;have ww:=bX.trans (jT.mono bX.size);clear hs3 bX jT;go_wp2_with fail;refine(jy _ _ _ fs _ hl4).mono ?_;rintro e w5 ⟨rfl,uK⟩;dsimp only;have hs5:=hs4.kept uK;have hl5:=hl4.kept uK;have BB:=ww.trans (uK.mono ww.size);clear hs4 ww uK hl4;go_wp2_with fail;refine(hmv _ hs5).mono ?_;rintro e w6 ⟨g6,c6,rfl,CU,xg⟩;dsimp only;have zz:=hl5.kept xg;have xh:=BB.trans (xg.mono BB.size);clear hs5 BB xg hl5;go_wp2_with fail;refine(ko _ _ len _ _ fs _ zz CU).mono ?_;rintro e w7 ⟨rfl,zA⟩;dsimp only;have BC:=xh.trans (zA.mono xh.size);clear xh zA zz CU;go_wp2;go_ret;exact⟨rfl,BC⟩
end Go.Proofs.Ytlbkdlnalgkjeaa.fnExactPressure
