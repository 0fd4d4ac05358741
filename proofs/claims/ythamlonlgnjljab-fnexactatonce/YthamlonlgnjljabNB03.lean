/-
  Own texts for a law: Lin1
-/
import Derived.Test.YthamlonlgnjljabNB02
namespace Go.Proofs.Ythamlonlgnjljab
open Go.RowKit Go.Shelf
set_option linter.all false
set_option maxRecDepth 100000
set_option maxHeartbeats 16000000
namespace Ln
theorem dJ {k d a b n:Int}{l:List Int}(hl:l.length=0):ok ⟨k,d,a,b,n,l⟩=(asks k d a b n l).all id:=by simp[ok,hl]
end Ln
theorem dA {l:List Int}{i:Nat}(hi:i<l.length)(h:Ln.bx (l.getD i 0)=false):l.all Ln.bx=false:=by rw[List.all_eq_false];refine⟨l.getD i 0,?_,by rw[h];decide⟩;rw[af,ag hi];exact List.getElem_mem hi
end Go.Proofs.Ythamlonlgnjljab
