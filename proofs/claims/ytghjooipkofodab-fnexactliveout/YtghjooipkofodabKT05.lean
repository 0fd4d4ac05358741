/-
  Own texts for a law: Nest3
-/
import Derived.Test.YtghjooipkofodabKT04
namespace Go.Proofs.Ytghjooipkofodab
open Go.RowKit Go.Shelf
set_option linter.all false
set_option maxRecDepth 100000
set_option maxHeartbeats 16000000
theorem NI.out {xs:List (Int×Int)}{len:Nat}{w w1 w2 wr:World}{gE cE gO cO gS cS k:Nat}{E O:List Int}{S:List Nat}(h:NI xs len w w1 w2 wr gE cE gO cO gS cS k E O S)(hg:(decide (xs.length<=80)&&St.bV xs)=true){r:Bool}(hr:aN.go xs (len+1-k) k E O S=(E,O,r)):aN.isOk xs=r/\(r=true->OI wr w.heap.size (.slice (some ⟨gE,0,none⟩) len cE) (aN.ends xs)/\OI wr w.heap.size (.slice (some ⟨gO,0,none⟩) len cO) (aN.gX xs)):=by have he:=h.eq;rw[hr]at he;have h1:aN.isOk xs=r:=by{rw[aN.isOk,hg,he,Bool.true_and]};refine⟨h1,fun hr=>?_⟩;subst hr;obtain⟨l1,l2⟩:=h.Ac;have BR:w.heap.size<=w1.heap.size:=by{have:=(h.rE.lt gE rfl).1;have:=h.eE;omega};have e1:aN.ends xs=E:=by{rw[aN.ends,ax h1,he]};have e2:aN.gX xs=O:=by{rw[aN.gX,ax h1,he]};rw[e1,e2];unfold OI;rw[l1,l2];exact⟨h.rE,OI.mono (v:= .slice (some ⟨gO,0,none⟩) len cO) (xs:=O) (by unfold OI;rw[l2];exact h.rO) BR |> fun q=>by unfold OI at q;rw[l2]at q;exact q⟩
end Go.Proofs.Ytghjooipkofodab
