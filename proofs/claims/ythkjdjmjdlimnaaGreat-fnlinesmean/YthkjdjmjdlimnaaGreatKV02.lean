/- Own text. -/
import Derived.Test.YthkjdjmjdlimnaaGreatKV01
namespace Go.Proofs.YthkjdjmjdlimnaaGreat
open Go.RowKit Go.Shelf
set_option linter.all false
set_option maxRecDepth 100000
set_option maxHeartbeats 16000000
variable {a:Int}{w1:World}
section
open Go.RowKit
namespace St
def least (op:Int):Int:=if op=5 then 1 else 0
def di (op:Int):Int:=
 if op=1 then 4294967295 else if op=2\/op=3\/op=4 then 5 else if op=5 then 12 else if op=8\/op=10 then 1 else if op=13\/op=14 then 9
 else if op=16 then 3 else if op=17\/op=18 then 255 else 0
def opens (op:Int):Bool:=decide (op=8\/op=9\/op=10)
def ok (op a:Int):Bool:=Wd.dP op 1 20&&Wd.dP a (least op) (di op)
def Zo (op:Int):Bool:=decide (0<di op)
theorem kinds (op:Int):(op=1\/op=2\/op=3\/op=4\/op=5\/op=6\/op=7\/op=8\/op=9\/op=10\/op=11\/op=12\/op=13\/op=14\/op=15\/op=16\/op=17\/op=18\/op=19\/op=20)\/(Wd.dP op 1 20=false/\(op==1)=false/\(op==2)=false/\(op==3)=false/\(op==4)=false/\(op==5)=false/\(op==6)=false/\(op==7)=false/\(op==8)=false/\(op==9)=false/\(op==10)=false/\(op==11)=false/\(op==12)=false/\(op==13)=false/\(op==14)=false/\(op==15)=false/\(op==16)=false/\(op==17)=false/\(op==18)=false/\(op==19)=false/\(op==20)=false/\least op=0/\di op=0/\opens op=false):=by by_cases h:1<=op/\op<=20;{left;omega};right;refine⟨?_,?_⟩;{by_cases h':1<=op;{exact Wd.Di (by omega)};exact Wd.Cz (by omega)};have e1:least op=0:=by{unfold least;rw[ax (by omega)]};have e2:di op=0:=by{unfold di;rw[ax (by omega),ax (by omega),ax (by omega),ax (by omega),ax (by omega),ax (by omega),ax (by omega)]};have e3:opens op=false:=by{simp only[opens,Hf];omega};simp only[beq_eq_false_iff_ne,ne_eq,e1,e2,e3,and_true];omega
end St
theorem aO {fn:Func}{p:Tmp}{ty:TypeId}(h:fn.results=#[.cell p ty])(tmps:Array Value)(P:Program)(w:World):(results fn tmps).run P w=((asAddr (tmps.getD p undef)).run P w).andThen fun a w₁=>((loadVar ty a).run P w₁).andThen fun v w₂=> .ok v w₂:=by simp only[results,h];simp[Sem.run_bind,Result.andThen];rcases(asAddr (tmps[p]?.getD undef)).run P w with⟨a,w1⟩|⟨h,w1⟩;{dsimp only;rcases(loadVar ty a).run P w1 with⟨a,w1⟩|⟨h,w1⟩<;>rfl};rfl
theorem BN (w:World)(a b:Obj):Below w.heap.size w ((w.alloc a).alloc b):=
 ((eG _ w).alloc (bI _) _).alloc (by simp) _
theorem St.QM{op:Int}(h:Wd.dP op 1 20=true)(hl:St.least op=0)(hg:St.di op=0):St.ok op a=(a==0):=by rw[St.ok,h,hl,hg,Bool.true_and];simp only[Wd.dP];by_cases e:a=0;{subst e;rfl};rw[beq_eq_false_iff_ne.2 e];simp only[Hf];omega
theorem St.ok_none{op:Int}(h:Wd.dP op 1 20=false):St.ok op a=false:=by rw[St.ok,h];rfl
theorem vR(w:World)(a b:Value)(t:TypeId)(hB:Below (w.alloc (.cells #[a,b] t)).heap.size (w.alloc (.cells #[a,b] t)) w1):w1.cell? ⟨w.heap.size,0,none⟩=some a/\w1.cell? ⟨w.heap.size,1,none⟩=some b/\w.heap.size<w1.heap.size:=by refine⟨(hB.cell (by simp)).trans ?_,(hB.cell (by simp)).trans ?_,by have:=hB.size;simp at this;omega⟩;{go_simp};go_simp
theorem aB (w:World)(a:Obj):Below w.heap.size w (w.alloc a):=(eG _ w).alloc (bI _) _
theorem mR (op a:Int)(w:World):Calls Tryz.prog 113 #[.agg #[.int .i64 op, .int .i64 a]] w fun e w'=>e= .returned (.bool (St.ok op a))/\Below w.heap.size w w':=by
 rcases St.kinds op with h|⟨h0,h1,h2,h3,h4,h5,h6,h7,h8,h9,h10,h11,h12,Az,Bz,uR,h16,Ea,h18,h19,h20,e1,e2,e3⟩
 · rcases h with rfl|rfl|rfl|rfl|rfl|rfl|rfl|rfl|rfl|rfl|rfl|rfl|rfl|rfl|rfl|rfl|rfl|rfl|rfl|rfl
   all_goals
    go_enter Tryz.func113,Tryz.ntmps113
    go_wp2_with(first|(go_at_call 47;refine(bJ _ _ _ _).mono ?_;rintro e w'⟨rfl,rfl⟩)|(go_at_call 56;refine(aU _ _).mono ?_;rintro e w'⟨rfl,rfl⟩))
    all_goals first
      |(go_ret;exact⟨rfl,aB _ _⟩)
      |(go_ret;exact⟨by rw[St.QM (by decide) (by decide) (by decide)];rfl,aB _ _⟩)
      |exact eU (by decide) ‹¬_›
      |trace_state
 · have h6':Wd.dP op 6 20=false:=by{simp only[Wd.dP,Hf]at h0 ⊢;omega};go_enter Tryz.func113,Tryz.ntmps113;go_wp2_with(first|(go_at_call 47;refine(bJ _ _ _ _).mono ?_;rintro e w'⟨rfl,rfl⟩));go_ret;exact⟨by rw[St.ok_none h0];rfl,aB _ _⟩
end
end Go.Proofs.YthkjdjmjdlimnaaGreat
