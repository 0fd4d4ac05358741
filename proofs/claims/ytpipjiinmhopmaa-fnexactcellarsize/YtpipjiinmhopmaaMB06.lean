/-
  Own texts for a law: Nest3
-/
import Derived.Test.YtpipjiinmhopmaaMB05
namespace Go.Proofs.Ytpipjiinmhopmaa
open Go.RowKit Go.Shelf
set_option linter.all false
set_option maxRecDepth 100000
set_option maxHeartbeats 16000000
theorem NI.out {xs:List (Int×Int)}{len:Nat}{w w1 w2 wr:World}{gE cE gO cO gS cS k:Nat}{E O:List Int}{S:List Nat}(h:NI xs len w w1 w2 wr gE cE gO cO gS cS k E O S)(hg:(decide (xs.length<=80)&&St.sj xs)=true){r:Bool}(hr:eG.go xs (len+1-k) k E O S=(E,O,r)):eG.isOk xs=r/\(r=true->OI wr w.heap.size (.slice (some ⟨gE,0,none⟩) len cE) (eG.ends xs)/\OI wr w.heap.size (.slice (some ⟨gO,0,none⟩) len cO) (eG.oK xs)):=by have he:=h.eq;rw[hr]at he;have h1:eG.isOk xs=r:=by{rw[eG.isOk,hg,he,Bool.true_and]};refine⟨h1,fun hr=>?_⟩;subst hr;obtain⟨l1,l2⟩:=h.yx;have zU:w.heap.size<=w1.heap.size:=by{have:=(h.rE.lt gE rfl).1;have:=h.eE;omega};have e1:eG.ends xs=E:=by{rw[eG.ends,av h1,he]};have e2:eG.oK xs=O:=by{rw[eG.oK,av h1,he]};rw[e1,e2];unfold OI;rw[l1,l2];exact⟨h.rE,OI.mono (v:= .slice (some ⟨gO,0,none⟩) len cO) (xs:=O) (by unfold OI;rw[l2];exact h.rO) zU |> fun q=>by unfold OI at q;rw[l2]at q;exact q⟩
end Go.Proofs.Ytpipjiinmhopmaa
