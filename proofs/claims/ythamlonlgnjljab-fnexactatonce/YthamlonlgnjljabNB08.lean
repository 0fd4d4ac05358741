/-
  Own texts for a law: HmS IlOf
-/
import Derived.Test.YthamlonlgnjljabNB02
import Derived.OpenShut
import Derived.Deep.Slices
import Derived.ChangeSlices
namespace Go.Proofs.Ythamlonlgnjljab
open Go.RowKit Go.Shelf
set_option linter.all false
set_option maxRecDepth 100000
set_option maxHeartbeats 16000000
section
open Go.RowKit
set_option linter.unusedSimpArgs false
theorem fu (x:Int)(w:World):Calls Try.prog 27 #[.int .i64 x] w fun e w'=>e= .returned (.bool (Wd.aS x 0 4))/\w'=w:=by go_enter Try.func27,Try.ntmps27;go_wp2_with(go_at_call 28;refine(bK _ _ _ _).mono ?_;rintro e w' ⟨rfl,ek⟩;subst w';dsimp only);go_ret;exact⟨rfl,rfl⟩
def Hm.pl (x:Int):Bool:=Wd.aS x 0 4||Wd.aS x 100 163
theorem cK (x:Int)(w:World):Calls Try.prog 23 #[.int .i64 x] w fun e w'=>e= .returned (.bool (Hm.pl x))/\w'=w:=by have HM:Hid (Hm.pl x=(Wd.aS x 0 4||Wd.aS x 100 163)):=rfl;have hsh:=fun W=>fu x W;have hir:=fun W=>bK x 100 163 W;generalize Wd.aS x 0 4=p at hsh HM;generalize Wd.aS x 100 163=q at hir HM;generalize Hm.pl x=r at HM ⊢;have HR:Hid (r=(p||q)):=HM;clear HM;go_enter Try.func23,Try.ntmps23;cases p;{go_wp2_with(first|(go_at_call 27;refine(hsh _).mono ?_;rintro e w' ⟨rfl,ek⟩;subst w';dsimp only)|(go_at_call 28;refine(hir _).mono ?_;rintro e w' ⟨rfl,ek⟩;subst w';dsimp only));go_ret;exact⟨by rw[HR.out]<;>rfl,rfl⟩};go_wp2_with(first|(go_at_call 27;refine(hsh _).mono ?_;rintro e w' ⟨rfl,ek⟩;subst w';dsimp only)|(go_at_call 28;refine(hir _).mono ?_;rintro e w' ⟨rfl,ek⟩;subst w';dsimp only));go_ret;exact⟨by rw[HR.out]<;>rfl,rfl⟩
end
section
open Go.ChangeShapes Go.WideShapes Go.ChangeAt Go.RowKit Go.Shelf Go.Deep
theorem oG {H:Type}{enc:TypeId×Value->H}{W:World}{a:Option Addr}{len cap:Nat}{d:DataW H}{ps:List MemPlace}(h:DataW.Trod enc Try.prog W 0 (fun _=>true) true 23 (.slice a len cap) d ps):∃xs,IL W a len xs:=by obtain⟨aP,hf⟩:=h;rcases open_ints Try.underlying23 Try.underlying2 (by kernel_rfl) hf with⟨hcs,_⟩|⟨x,l,c,zs,hcs,_,hl,hm,hzl,_,hcell,_⟩;{simp[Value.cells]at hcs;obtain⟨rfl,rfl,rfl⟩:=hcs;exact⟨[],rfl,Nat.zero_le _, .inl rfl⟩};simp[Value.cells]at hcs;obtain⟨rfl,rfl,rfl⟩:=hcs;simp only[if_true]at hzl;by_cases h0:len=0;{subst h0;exact⟨[],rfl,Nat.zero_le _, .inl rfl⟩};have hspot:x.spot=none:=by{have:=World.cell?_spot (hcell 0 (by omega));obtain⟨b,off,spot⟩:=x;simpa[Addr.add]using this};obtain⟨b,off,spot⟩:=x;simp only at hspot;subst hspot;(have hadd:∀i,(⟨b,off,none⟩:Addr).add i=⟨b,off+i,none⟩:=fun i=>by unfold Addr.add;split<;>simp_all);have hb:b<W.heap.size:=by{have:=World.block_lt_of_cell? _ _ (hcell 0 (by omega));simpa[hadd]using this};refine⟨zs.take len,by rw[List.length_take];omega,Nat.le_trans hl hm, .inr ⟨b,off,rfl,hb,fun j hj=>?_⟩⟩;have:=hcell j (by omega);rw[hadd]at this;rw[this,af,af,List.getElem?_take_of_lt hj]
end
end Go.Proofs.Ythamlonlgnjljab
