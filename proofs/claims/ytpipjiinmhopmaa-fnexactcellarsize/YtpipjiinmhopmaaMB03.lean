/-
  Own texts for a law: Step1
-/
import Derived.Test.YtpipjiinmhopmaaMB02
namespace Go.Proofs.Ytpipjiinmhopmaa
open Go.RowKit Go.Shelf
set_option linter.all false
set_option maxRecDepth 100000
set_option maxHeartbeats 16000000
section
open Go.RowKit
namespace St
def least (op:Int):Int:=if op=5 then 1 else 0
def eU (op:Int):Int:=
 if op=1 then 4294967295 else if op=2\/op=3\/op=4 then 5 else if op=5 then 12 else if op=8\/op=10 then 1 else if op=13\/op=14 then 9
 else if op=16 then 3 else if op=17\/op=18 then 255 else 0
def opens (op:Int):Bool:=decide (op=8\/op=9\/op=10)
def ok (op a:Int):Bool:=Wd.aH op 1 20&&Wd.aH a (least op) (eU op)
theorem kinds (op:Int):(op=1\/op=2\/op=3\/op=4\/op=5\/op=6\/op=7\/op=8\/op=9\/op=10\/op=11\/op=12\/op=13\/op=14\/op=15\/op=16\/op=17\/op=18\/op=19\/op=20)\/(Wd.aH op 1 20=false/\(op==1)=false/\(op==2)=false/\(op==3)=false/\(op==4)=false/\(op==5)=false/\(op==6)=false/\(op==7)=false/\(op==8)=false/\(op==9)=false/\(op==10)=false/\(op==11)=false/\(op==12)=false/\(op==13)=false/\(op==14)=false/\(op==15)=false/\(op==16)=false/\(op==17)=false/\(op==18)=false/\(op==19)=false/\(op==20)=false/\least op=0/\eU op=0/\opens op=false):=by by_cases h:1<=op/\op<=20;{left;omega};right;refine⟨?_,?_⟩;{by_cases h':1<=op;{exact Wd.jF (by omega)};exact Wd.jk (by omega)};have e1:least op=0:=by{unfold least;rw[au (by omega)]};have e2:eU op=0:=by{unfold eU;rw[au (by omega),au (by omega),au (by omega),au (by omega),au (by omega),au (by omega),au (by omega)]};have e3:opens op=false:=by{simp only[opens,decide_eq_false_iff_not];omega};simp only[beq_eq_false_iff_ne,ne_eq,e1,e2,e3,and_true];omega
end St
theorem aB {fn:Func}{p:Tmp}{ty:TypeId}(h:fn.results=#[.cell p ty])(tmps:Array Value)(P:Program)(w:World):(results fn tmps).run P w=((asAddr (tmps.getD p undef)).run P w).andThen fun a w₁=>((loadVar ty a).run P w₁).andThen fun v w₂=> .ok v w₂:=by simp only[results,h];simp[Sem.run_bind,Result.andThen];rcases(asAddr (tmps[p]?.getD undef)).run P w with⟨a,w1⟩|⟨h,w1⟩;{dsimp only;rcases(loadVar ty a).run P w1 with⟨a,w1⟩|⟨h,w1⟩<;>rfl};rfl
theorem nM (w:World)(a b:Obj):Below w.heap.size w ((w.alloc a).alloc b):=
 ((Below.refl _ w).alloc (Nat.le_refl _) _).alloc (by simp) _
theorem ay (w:World)(a:Obj):Below w.heap.size w (w.alloc a):=(Below.refl _ w).alloc (Nat.le_refl _) _
end
end Go.Proofs.Ytpipjiinmhopmaa
