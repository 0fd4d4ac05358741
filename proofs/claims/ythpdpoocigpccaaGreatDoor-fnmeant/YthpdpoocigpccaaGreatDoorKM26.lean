/-
  Own texts for a law: Cal8
-/
import Derived.Test.YthpdpoocigpccaaGreatDoorKM19
import Derived.Test.YthpdpoocigpccaaGreatDoorKM20
import Derived.Test.YthpdpoocigpccaaGreatDoorKM21
import Derived.Test.YthpdpoocigpccaaGreatDoorKM22
import Derived.Test.YthpdpoocigpccaaGreatDoorKM23
import Derived.Test.YthpdpoocigpccaaGreatDoorKM24
import Derived.Test.YthpdpoocigpccaaGreatDoorKM25
namespace Go.Proofs.YthpdpoocigpccaaGreatDoor
open Go.RowKit Go.Shelf
set_option linter.all false
set_option maxRecDepth 100000
set_option maxHeartbeats 16000000
theorem Kg {c:WC}{W0:World}{q:CC}{aB:Nat}{pile loc mem:List Int}{m gp cp:Nat}{wr:World}{p a:Int}(Q:CQ c W0 q)(aN:Hid (CI c W0 q aB pile loc mem (m+1) gp cp wr))(HST:Hid (aG.op (Mn.fn c.fs q.k).b aB=p/\Hg.arg (Mn.fn c.fs q.k).b aB=a/\St.ok p a=true))(IH:xD c W0 m):iC c W0 q aB pile loc mem m gp cp wr:=by have hp:=St.j6 HST.out.2.2;have hk:p=1\/p=2\/p=3\/p=4\/p=5\/p=6\/p=7\/p=8\/p=9\/p=10\/p=11\/p=12\/p=13\/p=14\/p=15\/p=16\/p=17\/p=18\/p=19\/p=20:=by{omega};rcases hk with hk|hk|hk|hk|hk|hk|hk|hk|hk|hk|hk|hk|hk|hk|hk|hk|hk|hk|hk|hk;{exact(He Q aN HST (aa (.inl hk)))};{exact(He Q aN HST (aa (.inr (.inl hk))))};{exact(He Q aN HST (aa (.inr (.inr (.inl hk)))))};{exact(He Q aN HST (aa (.inr (.inr (.inr (hk))))))};{by_cases hc:Wd.dc a (Mn.under pile) (Mn.dx pile)=0;{exact(Hw Q aN HST (aa (.inl ⟨hk,hc⟩)))};exact(Hw Q aN HST (aa (.inr (.inl ⟨hk,hc⟩))))};{exact(Hw Q aN HST (aa (.inr (.inr (.inl hk)))))};{exact(Hw Q aN HST (aa (.inr (.inr (.inr (hk))))))};{exact(xe Q aN HST (aa (.inl hk)))};{exact(xe Q aN HST (aa (.inr (.inl hk))))};{by_cases hc:Mn.dx pile=0;{exact(xe Q aN HST (aa (.inr (.inr (.inr (.inr (.inl ⟨hk,hc⟩)))))))};exact(xe Q aN HST (aa (.inr (.inr (.inr (.inl ⟨hk,hc⟩))))))};{exact(xe Q aN HST (aa (.inr (.inr (.inr (.inr (.inr (hk))))))))};{exact(Kw Q aN HST (aa (.inl hk)))};{exact(Kw Q aN HST (aa (.inr (.inl hk))))};{by_cases hc:Mn.dx pile=0;{exact(Kw Q aN HST (aa (.inr (.inr (⟨hk,hc⟩)))))};exact(KU Q aN HST (aa (.inl ⟨hk,hc⟩)))};{exact(KU Q aN HST (aa (.inr (.inl hk))))};{exact U6 Q aN HST (aa hk) IH};{by_cases hc:Mm.there (Mn.dx pile) a=true;{exact(H9 Q aN HST (aa (.inl ⟨hk,hc⟩)))};exact(H9 Q aN HST (aa (.inr (.inl ⟨hk,hc⟩))))};{by_cases hc:Mm.there (Mn.under pile) a=true;{exact(H9 Q aN HST (aa (.inr (.inr (.inl ⟨hk,hc⟩)))))};exact(H9 Q aN HST (aa (.inr (.inr (.inr (⟨hk,hc⟩))))))};{exact(KU Q aN HST (aa (.inr (.inr (hk)))))};exact(xe Q aN HST (aa (.inr (.inr (.inl hk)))))
end Go.Proofs.YthpdpoocigpccaaGreatDoor
