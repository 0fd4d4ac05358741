/-
  Own texts for a law: Leb7 Leb8 LebL Read0 Read2 Read4 StepD3
-/
import Derived.Test.YtlbkdlnalgkjeaaGreatLD02
import Derived.Test.YtlbkdlnalgkjeaaGreatLD05
import Derived.Deep.RegionWith
namespace Go.Proofs.YtlbkdlnalgkjeaaGreat
open Go.RowKit Go.Shelf
set_option linter.all false
set_option maxRecDepth 100000
set_option maxHeartbeats 16000000
def back (s:ByteArray)(a n count:Int)(sh:ByteArray):Int×Int×Bool:=
 if count=0 then(0,0,false)else if((s.extract a.toNat (a+count).toNat).toList==sh.toList)=true then(n,a+count,true)else(0,0,false)
def JE (s:ByteArray)(a:Int):Int×Int×Bool:=match Lb.Qu 5 (Lb.rest s a)with
 |none=>(0,0,false)
 |some t=>back s a (Lb.val t) t.length (ET (Lb.val t))
def BD (s:ByteArray)(a:Int):Int×Int×Bool:=match Lb.Qu 5 (Lb.rest s a)with
 |none=>(0,0,false)
 |some t=>back s a (Lb.WB t) t.length (EI (Lb.WB t))
section
open Go.RowKit
namespace Lb
end Lb
def up (x:UInt8):UInt8:=UInt8.ofNat (x.toNat+128)
end
namespace St
def rA (s:ByteArray)(op a:Int):Int×Int×Bool:=
 if op=1 then((BD s a).1%4294967296,(BD s a).2.1,(BD s a).2.2)else if EP op=true then JE s a else(0,a,true)
def QM (s:ByteArray)(k:Nat):Int:=((s.data.toList.getD k 0).toNat:Int)
def r1 (s:ByteArray)(k:Nat):Int×Int×Bool:=rA s (QM s k) ((k:Int)+1)
def pr (s:ByteArray):Nat->Nat->Option (List (Int×Int))
 |0,a=>if s.size<=a then some []else none
 | k+1,a=>if s.size<=a then some []else
   if(r1 s a).2.2=true/\ok (QM s a) (r1 s a).1=true then(pr s k (r1 s a).2.1.toNat).map ((QM s a,(r1 s a).1)::·)else none
def rd (s:ByteArray):List (Int×Int):=(pr s 80 0).getD []
theorem rX (s:ByteArray):∀(k a:Nat)(l:List (Int×Int)),pr s k a=some l->l.length<=k
 | 0,a,l,h=>by
   simp only[pr]at h
   split at h
   · cases h;simp
   · cases h
 | k + 1,a,l,h=>by
   simp only[pr]at h
   split at h
   · cases h;simp
   · split at h
     · obtain⟨m,hm,rfl⟩:=Option.map_eq_some_iff.1 h
       have:=rX s k _ m hm
       simp;omega
     · cases h
end St
theorem DV (W:World)(a b:Value)(t:TypeId)(H:Nat)(hH:W.heap.size=H):∀j u,[a,b][j]?=some u->(W.alloc (.cells #[a,b] t)).cell? ((⟨H,0,none⟩:Addr).add j)=some u:=by
 subst hH
 intro j u hu
 match j,hu with
 |0,hu=>simp at hu;subst hu;simp[Addr.add]
 |1,hu=>simp at hu;subst hu;simp[Addr.add]
namespace St
end St
namespace St
def bl (s:ByteArray):List UInt8:=s.data.toList
end St
theorem zg {w w':World}{B:Nat}{a:Option Addr}{len cap:Nat}{zs:List Int}{n₀ e k g n c:Nat}{xs:List Value}(h:w.ownsRow n₀ e k (.slice (some ⟨g,0,none⟩) n c) n xs)(hd:aN w w' B a len cap zs)(hB:B<n₀):w'.ownsRow n₀ e k (.slice (some ⟨g,0,none⟩) n c) n xs:=
 h.kept hd.2 (.inr (by have:=(h.lt g rfl).1;simp only[Value.ownBlock,ne_eq,af];omega))
theorem aN.app {w w1 w2:World}{B:Nat}{a:Option Addr}{len cap:Nat}{zs:List Int}{e k g n c:Nat}{xs:List Value}(h:aN w w1 B a len cap zs)(hB:B<w.heap.size)(hrow:w1.ownsRow w.heap.size e k (.slice (some ⟨g,0,none⟩) n c) n xs)(hg:w1.grownBy w2 (Value.slice (some ⟨g,0,none⟩) n c).ownBlock):aN w w2 B a len cap zs:=
 h.fresh hB hg (hrow.lt g rfl).1
def LD (w wr:World)(B:Nat)(a:Option Addr)(len cap:Nat)(zs:List Int)(v:Value)(n:Nat):Prop:=
 ∃(l:List (Int×Int))(g c:Nat),v= .slice (some ⟨g,0,none⟩) n c/\n=l.length/\wr.ownsRow w.heap.size 111 2 (.slice (some ⟨g,0,none⟩) n c) n (encS l)/\aN w wr B a len cap zs
theorem LD.os {w wr:World}{B:Nat}{a:Option Addr}{len cap:Nat}{zs:List Int}{v:Value}{n:Nat}(h:LD w wr B a len cap zs v n):∃l,OS wr w.heap.size v l/\aN w wr B a len cap zs:=by obtain⟨l,g,c,rfl,hn,hrow,hd⟩:=h;exact⟨l,OS.o6 hrow,hd⟩
end Go.Proofs.YtlbkdlnalgkjeaaGreat
