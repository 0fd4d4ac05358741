/- Own text. -/
import Derived.Test.YthkjdjmjdlimnaaGreatKV33
import Derived.Test.YthkjdjmjdlimnaaGreatKV34
import Derived.Test.YthkjdjmjdlimnaaGreatKV35
import Derived.Test.YthkjdjmjdlimnaaGreatKV36
import Derived.Test.YthkjdjmjdlimnaaGreatKV37
import Derived.Test.YthkjdjmjdlimnaaGreatKV38
import Derived.Test.YthkjdjmjdlimnaaGreatKV39
namespace Go.Proofs.YthkjdjmjdlimnaaGreat
open Go.RowKit Go.Shelf
set_option linter.all false
set_option maxRecDepth 100000
set_option maxHeartbeats 16000000
variable {W0 wr:World}{a p:Int}{aI cp gp m:Nat}{loc mem pile:List Int}
theorem QQ{c:WC}{q:CC}(Q:CQ c W0 q)(bf:Hid (CI c W0 q aI pile loc mem (m+1) gp cp wr))(HST:Hid (aM.op (Mn.fn c.fs q.k).b aI=p/\Hg.arg (Mn.fn c.fs q.k).b aI=a/\St.ok p a=true))(IH:CU c W0 m):jo c W0 q aI pile loc mem m gp cp wr:=by have hp:=St.fO HST.out.2.2;have hk:p=1\/p=2\/p=3\/p=4\/p=5\/p=6\/p=7\/p=8\/p=9\/p=10\/p=11\/p=12\/p=13\/p=14\/p=15\/p=16\/p=17\/p=18\/p=19\/p=20:=by{omega};rcases hk with hk|hk|hk|hk|hk|hk|hk|hk|hk|hk|hk|hk|hk|hk|hk|hk|hk|hk|hk|hk;{exact(MP Q bf HST (ae (.inl hk)))};{exact(MP Q bf HST (ae (.inr (.inl hk))))};{exact(MP Q bf HST (ae (.inr (.inr (.inl hk)))))};{exact(MP Q bf HST (ae (.inr (.inr (.inr (hk))))))};{by_cases hc:Wd.dc a (Mn.under pile) (Mn.dU pile)=0;{exact(M7 Q bf HST (ae (.inl ⟨hk,hc⟩)))};exact(M7 Q bf HST (ae (.inr (.inl ⟨hk,hc⟩))))};{exact(M7 Q bf HST (ae (.inr (.inr (.inl hk)))))};{exact(M7 Q bf HST (ae (.inr (.inr (.inr (hk))))))};{exact(Cn Q bf HST (ae (.inl hk)))};{exact(Cn Q bf HST (ae (.inr (.inl hk))))};{by_cases hc:Mn.dU pile=0;{exact(Cn Q bf HST (ae (.inr (.inr (.inr (.inr (.inl ⟨hk,hc⟩)))))))};exact(Cn Q bf HST (ae (.inr (.inr (.inr (.inl ⟨hk,hc⟩))))))};{exact(Cn Q bf HST (ae (.inr (.inr (.inr (.inr (.inr (hk))))))))};{exact(QY Q bf HST (ae (.inl hk)))};{exact(QY Q bf HST (ae (.inr (.inl hk))))};{by_cases hc:Mn.dU pile=0;{exact(QY Q bf HST (ae (.inr (.inr (⟨hk,hc⟩)))))};exact(Q9 Q bf HST (ae (.inl ⟨hk,hc⟩)))};{exact(Q9 Q bf HST (ae (.inr (.inl hk))))};{exact XK Q bf HST (ae hk) IH};{by_cases hc:Mm.there (Mn.dU pile) a=true;{exact(M8 Q bf HST (ae (.inl ⟨hk,hc⟩)))};exact(M8 Q bf HST (ae (.inr (.inl ⟨hk,hc⟩))))};{by_cases hc:Mm.there (Mn.under pile) a=true;{exact(M8 Q bf HST (ae (.inr (.inr (.inl ⟨hk,hc⟩)))))};exact(M8 Q bf HST (ae (.inr (.inr (.inr (⟨hk,hc⟩))))))};{exact(Q9 Q bf HST (ae (.inr (.inr (hk)))))};exact(Cn Q bf HST (ae (.inr (.inr (.inl hk)))))
end Go.Proofs.YthkjdjmjdlimnaaGreat
