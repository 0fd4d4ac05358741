/- Own text. -/
import Derived.Test.YthkjdjmjdlimnaaGreatKV29
import Derived.Test.YthkjdjmjdlimnaaGreatKV30
import Derived.Test.YthkjdjmjdlimnaaGreatKV31
import Derived.Test.YthkjdjmjdlimnaaGreatKV32
namespace Go.Proofs.YthkjdjmjdlimnaaGreat
open Go.RowKit Go.Shelf
set_option linter.all false
set_option maxRecDepth 100000
set_option maxHeartbeats 16000000
variable {W0 wr:World}{a p:Int}{aI cp gp m:Nat}{c:WC}{loc mem pile:List Int}{q:CC}
theorem QF(Q:CQ c W0 q)(aY:Hid (CI c W0 q aI pile loc mem (m+1) gp cp wr))(HST:Hid (aM.op (Mn.fn c.fs q.k).b aI=p/\Hg.arg (Mn.fn c.fs q.k).b aI=a/\St.ok p a=true))(IH:Cy c W0 m):jg c W0 q aI pile loc mem m gp cp wr:=by have hp:=St.fH HST.out.2.2;have hk:p=1\/p=2\/p=3\/p=4\/p=5\/p=6\/p=7\/p=8\/p=9\/p=10\/p=11\/p=12\/p=13\/p=14\/p=15\/p=16\/p=17\/p=18\/p=19\/p=20:=by{omega};rcases hk with hk|hk|hk|hk|hk|hk|hk|hk|hk|hk|hk|hk|hk|hk|hk|hk|hk|hk|hk|hk;{exact(Me Q aY HST (ae (.inl hk)))};{exact(Me Q aY HST (ae (.inr (.inl hk))))};{exact(Me Q aY HST (ae (.inr (.inr (.inl hk)))))};{exact(Me Q aY HST (ae (.inr (.inr (.inr (hk))))))};{by_cases hc:Wd.dc a (Mn.under pile) (Mn.dO pile)=0;{exact(MB Q aY HST (ae (.inl ⟨hk,hc⟩)))};exact(MB Q aY HST (ae (.inr (.inl ⟨hk,hc⟩))))};{exact(MB Q aY HST (ae (.inr (.inr (.inl hk)))))};{exact(MB Q aY HST (ae (.inr (.inr (.inr (hk))))))};{exact(Bp Q aY HST (ae (.inl hk)))};{exact(Bp Q aY HST (ae (.inr (.inl hk))))};{by_cases hc:Mn.dO pile=0;{exact(Bp Q aY HST (ae (.inr (.inr (.inr (.inr (.inl ⟨hk,hc⟩)))))))};exact(Bp Q aY HST (ae (.inr (.inr (.inr (.inl ⟨hk,hc⟩))))))};{exact(Bp Q aY HST (ae (.inr (.inr (.inr (.inr (.inr (hk))))))))};{exact(QZ Q aY HST (ae (.inl hk)))};{exact(QZ Q aY HST (ae (.inr (.inl hk))))};{by_cases hc:Mn.dO pile=0;{exact(QZ Q aY HST (ae (.inr (.inr (⟨hk,hc⟩)))))};exact(Q9 Q aY HST (ae (.inl ⟨hk,hc⟩)))};{exact(Q9 Q aY HST (ae (.inr (.inl hk))))};{exact Ws Q aY HST (ae hk) IH};{by_cases hc:Mm.there (Mn.dO pile) a=true;{exact(LZ Q aY HST (ae (.inl ⟨hk,hc⟩)))};exact(LZ Q aY HST (ae (.inr (.inl ⟨hk,hc⟩))))};{by_cases hc:Mm.there (Mn.under pile) a=true;{exact(LZ Q aY HST (ae (.inr (.inr (.inl ⟨hk,hc⟩)))))};exact(LZ Q aY HST (ae (.inr (.inr (.inr (⟨hk,hc⟩))))))};{exact(Q9 Q aY HST (ae (.inr (.inr (hk)))))};exact(Bp Q aY HST (ae (.inr (.inr (.inl hk)))))
end Go.Proofs.YthkjdjmjdlimnaaGreat
