/-
  Own texts for a law: Words6 Lin0 LinP Shp0 Fl0 Words5 Words7 AppZ
-/
import Derived.Test.YthkjdjmjdlimnaaKQ01
import Derived.Below
import Derived.KernelRfl
import Derived.Lib.AppendZerosOnto
import Derived.Laws.AppendOwn
namespace Go.Proofs.Ythkjdjmjdlimnaa
open Go.RowKit Go.Shelf
set_option linter.all false
set_option maxRecDepth 100000
set_option maxHeartbeats 16000000
section
section
variable {P : Program} (w : World)
theorem jE (d:Nat)(t:TypeId){x y z}(f:Go.Fn)(c1:Array Value)(c2:Array Value)(h:P.underlying t=some (.func x y z)):(Op.equalIn (d+1) t (.func f c1 c2) .nilFunc).run P w= .ok false w:=by simp[Op.equalIn,run_underlying h]
theorem gX (t:TypeId){x y z}(f:Go.Fn)(c1:Array Value)(c2:Array Value)(h:P.underlying t=some (.func x y z)):(Op.equal t (.func f c1 c2) .nilFunc).run P w= .ok false w:=jE w 9999 t f c1 c2 h
theorem lX (t:TypeId){x y z}(f:Go.Fn)(c1:Array Value)(c2:Array Value)(h:P.underlying t=some (.func x y z)):(binOp .neq t (.func f c1 c2) .nilFunc).run P w= .ok (.bool true) w:=by simp only[binOp];simp[gX w t f c1 c2 h]
theorem mf (t:TypeId){x y z}(f:Go.Fn)(c1:Array Value)(c2:Array Value)(h:P.underlying t=some (.func x y z)):(binOp .eql t (.func f c1 c2) .nilFunc).run P w= .ok (.bool false) w:=by simp only[binOp];simp[gX w t f c1 c2 h]
theorem run_equalIn_nil_nil (d:Nat)(t:TypeId){x y z}(h:P.underlying t=some (.func x y z)):(Op.equalIn (d+1) t .nilFunc .nilFunc).run P w= .ok true w:=by simp[Op.equalIn,run_underlying h]
theorem run_equal_nil_nil (t:TypeId){x y z}(h:P.underlying t=some (.func x y z)):(Op.equal t .nilFunc .nilFunc).run P w= .ok true w:=run_equalIn_nil_nil w 9999 t h
theorem run_neq_nil_nil (t:TypeId){x y z}(h:P.underlying t=some (.func x y z)):(binOp .neq t .nilFunc .nilFunc).run P w= .ok (.bool false) w:=by simp only[binOp];simp[run_equal_nil_nil w t h]
theorem run_eql_nil_nil (t:TypeId){x y z}(h:P.underlying t=some (.func x y z)):(binOp .eql t .nilFunc .nilFunc).run P w= .ok (.bool true) w:=by simp only[binOp];simp[run_equal_nil_nil w t h]
end
theorem uW (w:World)(f:Go.Fn)(c1 c2:Array Value):(binOp .neq 145 (.func f c1 c2) .nilFunc).run Try.prog w= .ok (.bool true) w:=lX w _ f c1 c2 Try.underlying145
theorem qP (w:World):(binOp .neq 145 .nilFunc .nilFunc).run Try.prog w= .ok (.bool false) w:=run_neq_nil_nil w _ Try.underlying145
theorem vw (w:World)(f:Go.Fn)(c1 c2:Array Value):(binOp .eql 147 (.func f c1 c2) .nilFunc).run Try.prog w= .ok (.bool false) w:=mf w _ f c1 c2 Try.underlying147
theorem pO (w:World):(binOp .eql 147 .nilFunc .nilFunc).run Try.prog w= .ok (.bool true) w:=run_eql_nil_nil w _ Try.underlying147
attribute [local go_sem] uW qP vw pO
theorem bB (a:Int)(w:World)(ha:Wd.ok a=true):Calls Try.prog 81 #[.int .u32 a] w fun e w'=>e= .returned (.int .i64 (Wd.sg a))/\w'=w:=by go_enter Try.func81,Try.ntmps81;go_wp2;go_ret;exact⟨qI (Wd.zg ha),rfl⟩
end
section
open Go.RowKit
structure Ln where
 k:Int
 d:Int
 a:Int
 b:Int
 n:Int
 l:List Int
namespace Ln
def z:Ln:=⟨0,0,0,0,0,[]⟩
def bx (b:Int):Bool:=Wd.bL b 0 39
def q0 (x:Int):Bool:=decide (x=0)
def asks (k d a b n:Int)(l:List Int):List Bool:=
 if k=1 then[bx d,Wd.ok n,q0 a,q0 b]
 else if k=2\/k=4 then[bx d,bx a,q0 b,q0 n]
 else if k=3 then[bx d,bx a,bx b,Wd.bL n 1 12]
 else if k=5 then[Wd.bL n 0 299,q0 d,q0 a,q0 b]
 else if k=6 then[Wd.bL n 0 299,bx a,q0 d,q0 b]
 else if k=7 then[l.all bx,decide (l.length<=3),bx d,q0 a,q0 b,Wd.bL n 0 3]
 else if k=8 then[bx d,bx a,q0 b,Wd.bL n 0 255]
 else if k=9 then[q0 d,bx a,bx b,Wd.bL n 0 255]
 else if k=10 then[bx a,q0 d,q0 b,q0 n]
 else if k=11 then[q0 d,q0 a,q0 b,q0 n]
 else[false]
def ok (x:Ln):Bool:= !(decide (x.k≠7)&&decide (0<x.l.length))&&(asks x.k x.d x.a x.b x.n x.l).all id
def put:List Int->Int->List Int
 |[],n=>[n]
 |x::r,n=>if x<n then x::put r n else if x=n then x::r else n::x::r
def mO (l:List Int):List Int:=l.foldl put []
def us (x:Ln):List Int:=
 if x.k=2\/x.k=4\/x.k=6\/x.k=8\/x.k=10 then[x.a]
 else if x.k=3\/x.k=9 then put [x.a] x.b
 else mO x.l
def st (x:Ln):Int:=if x.k=1\/x.k=2\/x.k=3\/x.k=4\/x.k=7\/x.k=8 then x.d else -1
def fE (m:Nat)(x:Ln):Bool:=ok x&& !((decide (x.k=5)||decide (x.k=6))&&decide ((m:Int)<=x.n))
def iH (ls:List Ln):Bool:=decide ((ls.getD (ls.length-1) z).k=5)||decide ((ls.getD (ls.length-1) z).k=10)||decide ((ls.getD (ls.length-1) z).k=11)
def isOk (ls:List Ln):Bool:=decide (1<=ls.length/\ls.length<=300)&&(ls.all (fE ls.length)&&iH ls)
def mx (a b:Int):Int:=if a<b then b else a
end Ln
end
section
open Go.RowKit
namespace Ln
theorem zS {x:Ln}(h:ok x=true):x.l.length<=3:=by unfold ok at h;simp only[ak,Bool.not_eq_true',Bool.and_eq_false_iff,decide_eq_false_iff_not,Decidable.not_not]at h;obtain⟨h1|h1,h2⟩:=h;{rw[h1]at h2;simp[asks]at h2;exact h2.2.1};omega
theorem qy {z n:Int}:∀{xs:List Int},z∈put xs n->z=n\/z∈xs
 |[],h=> .inl (by simpa[put]using h)
 | x ::r,h=>by
   unfold put at h
   split at h
   · rcases List.mem_cons.1 h with h|h
     · exact .inr (by simp[h])
     · rcases qy h with h|h
       · exact .inl h
       · exact .inr (by simp[h])
   · split at h
     · exact .inr h
     · rcases List.mem_cons.1 h with h|h
       · exact .inl h
       · exact .inr h
theorem zJ {z:Int}(l:List Int):∀(acc:List Int),z∈l.foldl put acc->z∈l\/z∈acc:=by
 induction l with
 |nil=>intro acc h;exact .inr h
 |cons x r ih=>
  intro acc h
  rcases ih _ h with h|h
  · exact .inl (by simp[h])
  · rcases qy h with h|h;{exact .inl (by simp[h])};exact .inr h
theorem bN {b:Int}:bx b=true↔0<=b/\b<=39:=by unfold bx Wd.bL;simp
theorem eD {x:Ln}(h:ok x=true):1<=x.k/\x.k<=11:=by obtain⟨k,d,a,b,n,l⟩:=x;unfold ok at h;rw[ak]at h;have h2:=h.2;unfold asks at h2;simp only at h2 ⊢;(repeat' split at h2);all_goals first|omega|(simp at h2)
theorem JY {x:Ln}(h:ok x=true):∀y∈us x,0<=y/\y<=39:=by obtain⟨hk1,hk2⟩:=eD h;obtain⟨k,d,a,b,n,l⟩:=x;simp only at hk1 hk2;have hk:k=1\/k=2\/k=3\/k=4\/k=5\/k=6\/k=7\/k=8\/k=9\/k=10\/k=11:=by{omega};unfold ok at h;rw[ak]at h;obtain⟨h1,h⟩:=h;intro y hy;rcases hk with rfl|rfl|rfl|rfl|rfl|rfl|rfl|rfl|rfl|rfl|rfl;(all_goals(simp[asks,q0,bN]at h;simp[us]at hy));(case inl|inr.inr.inr.inr.inl|inr.inr.inr.inr.inr.inr.inr.inr.inr.inr=>have hl:l=[]:=by{simpa using h1};subst hl;simp[mO]at hy);(case inr.inl|inr.inr.inr.inl|inr.inr.inr.inr.inr.inl|inr.inr.inr.inr.inr.inr.inr.inl|inr.inr.inr.inr.inr.inr.inr.inr.inr.inl=>subst hy;omega);(case inr.inr.inl|inr.inr.inr.inr.inr.inr.inr.inr.inl=>rcases qy hy with h|h;{subst h;omega};rw[List.mem_singleton]at h;subst h;omega);rcases zJ l [] hy with h3|h3;{exact h.1 y h3};cases h3
theorem jm {ls:List Ln}(h:isOk ls=true){i:Nat}(hi:i<ls.length):ok (ls.getD i z)=true:=by unfold isOk at h;simp only[ak,List.all_eq_true]at h;have:=h.2.1 (ls.getD i z) (by rw[ag,ah hi];exact List.getElem_mem hi);unfold fE at this;simp only[ak]at this;exact this.1
theorem aW {ls:List Ln}(h:isOk ls=true):1<=ls.length/\ls.length<=300:=by unfold isOk at h;simp only[ak,decide_eq_true_eq]at h;exact h.1
end Ln
namespace Ln
def cn (x:Ln):Ln:=
 if x.k=1 then⟨1,x.d,0,0,x.n,[]⟩
 else if x.k=2 then⟨2,x.d,x.a,0,0,[]⟩
 else if x.k=3 then⟨3,x.d,x.a,x.b,x.n,[]⟩
 else if x.k=4 then⟨4,x.d,x.a,0,0,[]⟩
 else if x.k=5 then⟨5,0,0,0,x.n,[]⟩
 else if x.k=6 then⟨6,0,x.a,0,x.n,[]⟩
 else if x.k=7 then⟨7,x.d,0,0,x.n,x.l⟩
 else if x.k=8 then⟨8,x.d,x.a,0,x.n,[]⟩
 else if x.k=9 then⟨9,0,x.a,x.b,x.n,[]⟩
 else if x.k=10 then⟨10,0,x.a,0,0,[]⟩
 else if x.k=11 then⟨11,0,0,0,0,[]⟩
 else z
def iL (p q:Ln):Bool:=decide (p.k=q.k)&&(decide (p.d=q.d)&&(decide (p.a=q.a)&&(decide (p.b=q.b)&&(decide (p.n=q.n)&&decide (p.l=q.l)))))
def rd (x:Ln):List Int:=
 if x.k=2\/x.k=4\/x.k=6\/x.k=8\/x.k=10 then[x.a]else if x.k=3 then[x.a,x.b]else if x.k=9 then[x.b,x.a]else if x.k=7 then x.l else[]
def JC (x:Ln):Bool:=decide (x.k=1\/x.k=2\/x.k=3\/x.k=4\/x.k=7\/x.k=8)
def told (x:Ln):List Int:=rd x++(if JC x=true then[x.d]else[])
def counts (x:Ln):Bool:=if x.k=1 then Wd.ok x.n else if x.k=3 then Wd.bL x.n 1 12 else if x.k=7 then Wd.bL x.n 0 3&&decide (x.l.length<=3)else if x.k=8\/x.k=9 then Wd.bL x.n 0 255 else true
def iV (x:Ln):Bool:=decide (x.k=5\/x.k=6)
def place (m:Int)(x:Ln):Bool:= !iV x||Wd.bL x.n 0 (m-1)
def behind (x:Ln):Bool:= !decide (x.k=5\/x.k=10\/x.k=11)
theorem kinds {k:Int}(h1:1<=k)(h2:k<=11):k=1\/k=2\/k=3\/k=4\/k=5\/k=6\/k=7\/k=8\/k=9\/k=10\/k=11:=by omega
def right (x:Ln):Bool:=decide (1<=x.k/\x.k<=11)&&(iL (cn x) x&&(counts x&&((told x).all bx&&place 300 x)))
theorem z8 (x:Ln):right x=ok x:=by obtain⟨k,d,a,b,n,l⟩:=x;by_cases hk:1<=k/\k<=11;{rw[Bool.eq_iff_iff];have hq:∀y:Int,((0:Int)=y)↔(y=0):=fun y=>⟨Eq.symm,Eq.symm⟩;rcases kinds hk.1 hk.2 with rfl|rfl|rfl|rfl|rfl|rfl|rfl|rfl|rfl|rfl|rfl;all_goals simp only[right,ok,asks,iL,cn,counts,told,rd,JC,place,iV,q0];simp[hq,and_assoc,and_comm,and_left_comm]};have h1:right ⟨k,d,a,b,n,l⟩=false:=by{unfold right;rw[decide_eq_false hk];rfl};rw[h1];symm;rw[Bool.eq_false_iff];intro h;have:=eD h;simp only at this;omega
end Ln
end
section
open Go.RowKit
def aY (x:Ln)(sv:Value):Value:=
 if x.k=1 then .iface 113 (.agg #[.int .i64 x.d, .int .i64 x.n])
 else if x.k=2 then .iface 115 (.agg #[.int .i64 x.d, .int .i64 x.a])
 else if x.k=3 then .iface 118 (.agg #[.int .i64 x.d, .int .i64 x.n, .int .i64 x.a, .int .i64 x.b])
 else if x.k=4 then .iface 120 (.agg #[.int .i64 x.d, .int .i64 x.a])
 else if x.k=5 then .iface 131 (.agg #[.int .i64 x.n])
 else if x.k=6 then .iface 142 (.agg #[.int .i64 x.a, .int .i64 x.n])
 else if x.k=7 then .iface 109 (.agg #[.int .i64 x.d, .int .i64 x.n,sv])
 else if x.k=8 then .iface 122 (.agg #[.int .i64 x.d, .int .i64 x.a, .int .i64 x.n])
 else if x.k=9 then .iface 125 (.agg #[.int .i64 x.b, .int .i64 x.a, .int .i64 x.n])
 else if x.k=10 then .iface 133 (.agg #[.int .i64 x.a])
 else if x.k=11 then .iface 135 (.agg #[])
 else .nilIface
theorem ES (v:Value)(w:World):(Instr.typeAssert (.iface 113 v) 102 113 true).run Try.prog w= .ok (.tuple #[v, .bool true]) w:=by kernel_rfl
theorem Px (w:World):(do pure (Value.tuple #[←zeroValue 113, .bool false]):Sem Value).run Try.prog w= .ok (.tuple #[.agg #[.int .i64 0, .int .i64 0], .bool false]) w:=by kernel_rfl
theorem dI (u:TypeId)(v:Value)(w:World)(h:u≠113):(Instr.typeAssert (.iface u v) 102 113 true).run Try.prog w= .ok (.tuple #[.agg #[.int .i64 0, .int .i64 0], .bool false]) w:=by have e:(Instr.typeAssert (.iface u v) 102 113 true).run Try.prog w=(if u=113 then(pure (Value.tuple #[v, .bool true]):Sem Value)else(do pure (Value.tuple #[←zeroValue 113, .bool false]))).run Try.prog w:=by{kernel_rfl};rw[e,au h];exact Px w
theorem EA (v:Value)(w:World):(Instr.typeAssert (.iface 115 v) 102 115 true).run Try.prog w= .ok (.tuple #[v, .bool true]) w:=by kernel_rfl
theorem Pv (w:World):(do pure (Value.tuple #[←zeroValue 115, .bool false]):Sem Value).run Try.prog w= .ok (.tuple #[.agg #[.int .i64 0, .int .i64 0], .bool false]) w:=by kernel_rfl
theorem dM (u:TypeId)(v:Value)(w:World)(h:u≠115):(Instr.typeAssert (.iface u v) 102 115 true).run Try.prog w= .ok (.tuple #[.agg #[.int .i64 0, .int .i64 0], .bool false]) w:=by have e:(Instr.typeAssert (.iface u v) 102 115 true).run Try.prog w=(if u=115 then(pure (Value.tuple #[v, .bool true]):Sem Value)else(do pure (Value.tuple #[←zeroValue 115, .bool false]))).run Try.prog w:=by{kernel_rfl};rw[e,au h];exact Pv w
theorem yY (v:Value)(w:World):(Instr.typeAssert (.iface 118 v) 102 118 true).run Try.prog w= .ok (.tuple #[v, .bool true]) w:=by kernel_rfl
theorem Ps (w:World):(do pure (Value.tuple #[←zeroValue 118, .bool false]):Sem Value).run Try.prog w= .ok (.tuple #[.agg #[.int .i64 0, .int .i64 0, .int .i64 0, .int .i64 0], .bool false]) w:=by kernel_rfl
theorem dz (u:TypeId)(v:Value)(w:World)(h:u≠118):(Instr.typeAssert (.iface u v) 102 118 true).run Try.prog w= .ok (.tuple #[.agg #[.int .i64 0, .int .i64 0, .int .i64 0, .int .i64 0], .bool false]) w:=by have e:(Instr.typeAssert (.iface u v) 102 118 true).run Try.prog w=(if u=118 then(pure (Value.tuple #[v, .bool true]):Sem Value)else(do pure (Value.tuple #[←zeroValue 118, .bool false]))).run Try.prog w:=by{kernel_rfl};rw[e,au h];exact Ps w
theorem Es (v:Value)(w:World):(Instr.typeAssert (.iface 120 v) 102 120 true).run Try.prog w= .ok (.tuple #[v, .bool true]) w:=by kernel_rfl
theorem PR (w:World):(do pure (Value.tuple #[←zeroValue 120, .bool false]):Sem Value).run Try.prog w= .ok (.tuple #[.agg #[.int .i64 0, .int .i64 0], .bool false]) w:=by kernel_rfl
theorem fw (u:TypeId)(v:Value)(w:World)(h:u≠120):(Instr.typeAssert (.iface u v) 102 120 true).run Try.prog w= .ok (.tuple #[.agg #[.int .i64 0, .int .i64 0], .bool false]) w:=by have e:(Instr.typeAssert (.iface u v) 102 120 true).run Try.prog w=(if u=120 then(pure (Value.tuple #[v, .bool true]):Sem Value)else(do pure (Value.tuple #[←zeroValue 120, .bool false]))).run Try.prog w:=by{kernel_rfl};rw[e,au h];exact PR w
theorem ED (v:Value)(w:World):(Instr.typeAssert (.iface 131 v) 102 131 true).run Try.prog w= .ok (.tuple #[v, .bool true]) w:=by kernel_rfl
theorem Pq (w:World):(do pure (Value.tuple #[←zeroValue 131, .bool false]):Sem Value).run Try.prog w= .ok (.tuple #[.agg #[.int .i64 0], .bool false]) w:=by kernel_rfl
theorem fQ (u:TypeId)(v:Value)(w:World)(h:u≠131):(Instr.typeAssert (.iface u v) 102 131 true).run Try.prog w= .ok (.tuple #[.agg #[.int .i64 0], .bool false]) w:=by have e:(Instr.typeAssert (.iface u v) 102 131 true).run Try.prog w=(if u=131 then(pure (Value.tuple #[v, .bool true]):Sem Value)else(do pure (Value.tuple #[←zeroValue 131, .bool false]))).run Try.prog w:=by{kernel_rfl};rw[e,au h];exact Pq w
theorem EF (v:Value)(w:World):(Instr.typeAssert (.iface 142 v) 102 142 true).run Try.prog w= .ok (.tuple #[v, .bool true]) w:=by kernel_rfl
theorem Pn (w:World):(do pure (Value.tuple #[←zeroValue 142, .bool false]):Sem Value).run Try.prog w= .ok (.tuple #[.agg #[.int .i64 0, .int .i64 0], .bool false]) w:=by kernel_rfl
theorem iU (u:TypeId)(v:Value)(w:World)(h:u≠142):(Instr.typeAssert (.iface u v) 102 142 true).run Try.prog w= .ok (.tuple #[.agg #[.int .i64 0, .int .i64 0], .bool false]) w:=by have e:(Instr.typeAssert (.iface u v) 102 142 true).run Try.prog w=(if u=142 then(pure (Value.tuple #[v, .bool true]):Sem Value)else(do pure (Value.tuple #[←zeroValue 142, .bool false]))).run Try.prog w:=by{kernel_rfl};rw[e,au h];exact Pn w
theorem xY (v:Value)(w:World):(Instr.typeAssert (.iface 109 v) 102 109 true).run Try.prog w= .ok (.tuple #[v, .bool true]) w:=by kernel_rfl
theorem Qa (w:World):(do pure (Value.tuple #[←zeroValue 109, .bool false]):Sem Value).run Try.prog w= .ok (.tuple #[.agg #[.int .i64 0, .int .i64 0, .slice none 0 0], .bool false]) w:=by kernel_rfl
theorem eF (u:TypeId)(v:Value)(w:World)(h:u≠109):(Instr.typeAssert (.iface u v) 102 109 true).run Try.prog w= .ok (.tuple #[.agg #[.int .i64 0, .int .i64 0, .slice none 0 0], .bool false]) w:=by have e:(Instr.typeAssert (.iface u v) 102 109 true).run Try.prog w=(if u=109 then(pure (Value.tuple #[v, .bool true]):Sem Value)else(do pure (Value.tuple #[←zeroValue 109, .bool false]))).run Try.prog w:=by{kernel_rfl};rw[e,au h];exact Qa w
theorem zH (v:Value)(w:World):(Instr.typeAssert (.iface 122 v) 102 122 true).run Try.prog w= .ok (.tuple #[v, .bool true]) w:=by kernel_rfl
theorem PM (w:World):(do pure (Value.tuple #[←zeroValue 122, .bool false]):Sem Value).run Try.prog w= .ok (.tuple #[.agg #[.int .i64 0, .int .i64 0, .int .i64 0], .bool false]) w:=by kernel_rfl
theorem fI (u:TypeId)(v:Value)(w:World)(h:u≠122):(Instr.typeAssert (.iface u v) 102 122 true).run Try.prog w= .ok (.tuple #[.agg #[.int .i64 0, .int .i64 0, .int .i64 0], .bool false]) w:=by have e:(Instr.typeAssert (.iface u v) 102 122 true).run Try.prog w=(if u=122 then(pure (Value.tuple #[v, .bool true]):Sem Value)else(do pure (Value.tuple #[←zeroValue 122, .bool false]))).run Try.prog w:=by{kernel_rfl};rw[e,au h];exact PM w
theorem Co (v:Value)(w:World):(Instr.typeAssert (.iface 125 v) 102 125 true).run Try.prog w= .ok (.tuple #[v, .bool true]) w:=by kernel_rfl
theorem PV (w:World):(do pure (Value.tuple #[←zeroValue 125, .bool false]):Sem Value).run Try.prog w= .ok (.tuple #[.agg #[.int .i64 0, .int .i64 0, .int .i64 0], .bool false]) w:=by kernel_rfl
theorem jT (u:TypeId)(v:Value)(w:World)(h:u≠125):(Instr.typeAssert (.iface u v) 102 125 true).run Try.prog w= .ok (.tuple #[.agg #[.int .i64 0, .int .i64 0, .int .i64 0], .bool false]) w:=by have e:(Instr.typeAssert (.iface u v) 102 125 true).run Try.prog w=(if u=125 then(pure (Value.tuple #[v, .bool true]):Sem Value)else(do pure (Value.tuple #[←zeroValue 125, .bool false]))).run Try.prog w:=by{kernel_rfl};rw[e,au h];exact PV w
theorem Ak (v:Value)(w:World):(Instr.typeAssert (.iface 133 v) 102 133 true).run Try.prog w= .ok (.tuple #[v, .bool true]) w:=by kernel_rfl
theorem Km (w:World):(do pure (Value.tuple #[←zeroValue 133, .bool false]):Sem Value).run Try.prog w= .ok (.tuple #[.agg #[.int .i64 0], .bool false]) w:=by kernel_rfl
theorem gF (u:TypeId)(v:Value)(w:World)(h:u≠133):(Instr.typeAssert (.iface u v) 102 133 true).run Try.prog w= .ok (.tuple #[.agg #[.int .i64 0], .bool false]) w:=by have e:(Instr.typeAssert (.iface u v) 102 133 true).run Try.prog w=(if u=133 then(pure (Value.tuple #[v, .bool true]):Sem Value)else(do pure (Value.tuple #[←zeroValue 133, .bool false]))).run Try.prog w:=by{kernel_rfl};rw[e,au h];exact Km w
theorem DI (v:Value)(w:World):(Instr.typeAssert (.iface 135 v) 102 135 true).run Try.prog w= .ok (.tuple #[v, .bool true]) w:=by kernel_rfl
theorem Kq (w:World):(do pure (Value.tuple #[←zeroValue 135, .bool false]):Sem Value).run Try.prog w= .ok (.tuple #[.agg #[], .bool false]) w:=by kernel_rfl
theorem jC (u:TypeId)(v:Value)(w:World)(h:u≠135):(Instr.typeAssert (.iface u v) 102 135 true).run Try.prog w= .ok (.tuple #[.agg #[], .bool false]) w:=by have e:(Instr.typeAssert (.iface u v) 102 135 true).run Try.prog w=(if u=135 then(pure (Value.tuple #[v, .bool true]):Sem Value)else(do pure (Value.tuple #[←zeroValue 135, .bool false]))).run Try.prog w:=by{kernel_rfl};rw[e,au h];exact Kq w
theorem zU (u:TypeId)(v:Value)(w:World):(binOp .eql 102 (.iface u v) .nilIface).run Try.prog w= .ok (.bool false) w:=by kernel_rfl
end
section
open Go.RowKit
namespace Fl
def nx (x:Ln)(i:Nat):List Int:=
 if x.k=5 then[x.n]else if x.k=6 then Ln.put [(i:Int)+1] x.n else if x.k=10\/x.k=11 then[]else[(i:Int)+1]
def has (ls:List Ln)(p:Int):Bool:=Ln.isOk ls&&decide (0<=p/\p<(ls.length:Int))
def le (a b:Nat):Prop:=a|||b=b
theorem le_iff {a b:Nat}:le a b↔∀k,a.testBit k=true->b.testBit k=true:=by unfold le;constructor;{intro h k hk;rw[←h,Nat.testBit_or,hk];rfl};intro h;refine Nat.eq_of_testBit_eq fun k=>?_;rw[Nat.testBit_or];rcases e:a.testBit k with _|_;{rfl};rw[h k e];rfl
theorem le_refl (a:Nat):le a a:=le_iff.2 fun _ h=>h
theorem le_trans {a b c:Nat}(h:le a b)(h':le b c):le a c:=le_iff.2 fun k hk=>le_iff.1 h' k (le_iff.1 h k hk)
theorem Dz {a b:Nat}(h:le a b):a<=b:=by rw[←h];exact Nat.left_le_or
def an (a b:Nat):Nat:=a ^^^ (a&&& b)
theorem Ac (a b k:Nat):(an a b).testBit k=(a.testBit k&& !b.testBit k):=by unfold an;rw[Nat.testBit_xor,Nat.testBit_and];cases a.testBit k<;>cases b.testBit k<;>rfl
theorem or_mono {a b c d:Nat}(h:le a b)(h':le c d):le (a|||c) (b|||d):=le_iff.2 fun k=>by
 rw[Nat.testBit_or,Nat.testBit_or,Bool.or_eq_true,Bool.or_eq_true]
 exact fun h2=>h2.imp (le_iff.1 h k) (le_iff.1 h' k)
theorem Ch {a b:Nat}(c:Nat)(h:le a b):le (an a c) (an b c):=le_iff.2 fun k=>by
 rw[Ac,Ac,ak,ak]
 exact fun h2=>⟨le_iff.1 h k h2.1,h2.2⟩
def mk (l:List Int):Nat:=l.foldl (fun m b=>m|||2 ^ b.toNat) 0
theorem Cw (l:List Int):∀m,m<2 ^ 40->(∀y∈l,0<=y/\y<=39)->l.foldl (fun m b=>m|||2 ^ b.toNat) m<2 ^ 40:=by
 induction l with
 |nil=>intro m hm _;exact hm
 |cons y r ih=>
  intro m hm h
  have hy:=h y (by simp)
  exact ih _ (Nat.or_lt_two_pow hm (Nat.pow_lt_pow_right (by decide) (by omega))) fun z hz=>h z (by simp[hz])
theorem JS {l:List Int}(h:∀y∈l,0<=y/\y<=39):mk l<2 ^ 40:=Cw l 0 (by decide) h
def js (f:List Nat)(l:List Int):Nat:=l.foldl (fun m j=>m|||f.getD j.toNat 0) 0
def ou (ls:List Ln)(f:List Nat)(i:Nat):Nat:=js f (nx (ls.getD i .z) i)
def um (x:Ln):Nat:=mk (Ln.us x)
def sm (x:Ln):Nat:=if 0<=Ln.st x then 2 ^ (Ln.st x).toNat else 0
def uQ (ls:List Ln)(f:List Nat)(i:Nat):Nat:=um (ls.getD i .z)|||an (ou ls f i) (sm (ls.getD i .z))
theorem Vj (f:List Nat)(l:List Int):∀(m k:Nat),(l.foldl (fun m j=>m|||f.getD j.toNat 0) m).testBit k=(m.testBit k||l.any fun j=>(f.getD j.toNat 0).testBit k):=by
 induction l with
 |nil=>intro m k;simp
 |cons y r ih=>
  intro m k
  rw[List.foldl_cons,ih,Nat.testBit_or,List.any_cons,Bool.or_assoc]
theorem zy (f:List Nat)(l:List Int)(k:Nat):(js f l).testBit k=l.any fun j=>(f.getD j.toNat 0).testBit k:=by unfold js;rw[Vj];simp
theorem JU {f:List Nat}(hf:∀i,f.getD i 0<2 ^ 40)(l:List Int):js f l<2 ^ 40:=by
 suffices H:∀(l:List Int) m,m<2 ^ 40->l.foldl (fun m j=>m|||f.getD j.toNat 0) m<2 ^ 40 from H l 0 (by decide)
 intro l
 induction l with
 |nil=>intro m h;exact h
 |cons y r ih=>intro m h;exact ih _ (Nat.or_lt_two_pow h (hf _))
theorem BQ {f g:List Nat}(h:∀i,le (f.getD i 0) (g.getD i 0))(l:List Int):le (js f l) (js g l):=le_iff.2 fun k=>by
 rw[zy,zy,List.any_eq_true,List.any_eq_true]
 exact fun⟨y,hy,e⟩=>⟨y,hy,le_iff.1 (h _) k e⟩
theorem jY {ls:List Ln}{f g:List Nat}(h:∀i,le (f.getD i 0) (g.getD i 0))(i:Nat):le (uQ ls f i) (uQ ls g i):=
 or_mono (le_refl _) (Ch _ (BQ h _))
theorem J4 {a b:Nat}(h:a<2 ^ 40):an a b<2 ^ 40:=Nat.xor_lt_two_pow h (Nat.lt_of_le_of_lt Nat.and_le_left h)
theorem Kg {x:Ln}(h:Ln.ok x=true):um x<2 ^ 40:=JS (Ln.JY h)
structure In (ls:List Ln)(f:List Nat):Prop where
 len:f.length=ls.length
 lt:∀i,f.getD i 0<2 ^ 40
 up:∀i,i<ls.length->le (f.getD i 0) (uQ ls f i)
theorem Ar {ls:List Ln}{f:List Nat}(hok:Ln.isOk ls=true)(hf:∀i,f.getD i 0<2 ^ 40){i:Nat}(hi:i<ls.length):uQ ls f i<2 ^ 40:=
 Nat.or_lt_two_pow (Kg (Ln.jm hok hi)) (J4 (JU hf _))
theorem jP (f:List Nat)(i j x:Nat):(f.set i x).getD j 0=if i=j/\i<f.length then x else f.getD j 0:=by rw[ag,ag,List.getElem?_set];by_cases h:i=j;{subst h;by_cases h2:i<f.length;{simp[h2]};simp[h2]};simp[h]
theorem wK (x:Nat):∀(f:List Nat)(i:Nat),i<f.length->(f.set i x).sum+f.getD i 0=f.sum+x
 |[],i,h=>by simp at h
 |y::r,0,h=>by simp only[List.set_cons_zero,List.sum_cons,List.getD_cons_zero];omega
 | y::r,i+1,h=>by
   have:=wK x r i (by simpa using h)
   simp only[List.set_cons_succ,List.sum_cons,List.getD_cons_succ]
   omega
theorem uO (m:Nat):∀(f:List Nat),(∀i,f.getD i 0<m)->f.sum<=f.length*m
 |[],_=>by simp
 | y::r,h=>by
   have h1:=h 0
   have h2:=uO m r fun i=>h (i+1)
   simp only[List.getD_cons_zero]at h1
   simp only[List.sum_cons,List.length_cons,Nat.succ_mul]
   omega
theorem In.set {ls:List Ln}{f:List Nat}(hok:Ln.isOk ls=true)(h:In ls f){i:Nat}(hi:i<ls.length):In ls (f.set i (uQ ls f i)):=by have hle:∀j,le (f.getD j 0) ((f.set i (uQ ls f i)).getD j 0):=fun j=>by{rw[jP];split;{rename_i e;rw[←e.1];exact h.up i hi};exact le_refl _};refine⟨by rw[List.length_set];exact h.len,fun j=>?_,fun j hj=>?_⟩;{rw[jP];split;{exact Ar hok h.lt hi};exact h.lt j};rw[jP];split;{rename_i e;rw[←e.1];exact jY hle i};exact le_trans (h.up j hj) (jY hle j)
theorem In.sum {ls:List Ln}{f:List Nat}(h:In ls f):f.sum<=ls.length*2 ^ 40:=by have:=uO (2 ^ 40) f h.lt;rwa [h.len]at this
theorem In.more {ls:List Ln}{f:List Nat}(h:In ls f){i:Nat}(hi:i<ls.length)(hne:uQ ls f i≠f.getD i 0):f.sum<(f.set i (uQ ls f i)).sum:=by have h1:=wK (uQ ls f i) f i (by rw[h.len];exact hi);have h2:=Dz (h.up i hi);omega
def uE (ls:List Ln)(f:List Nat):List Nat:=(List.range ls.length).map (uQ ls f)
theorem qC (ls:List Ln)(f:List Nat){i:Nat}(hi:i<ls.length):(uE ls f).getD i 0=uQ ls f i:=by unfold uE;rw[ag,List.getElem?_map,List.getElem?_range hi];rfl
theorem Cs (ls:List Ln)(f:List Nat){i:Nat}(hi:¬i<ls.length):(uE ls f).getD i 0=0:=by unfold uE;rw[ag,List.getElem?_eq_none (by simp;omega)];rfl
def it (ls:List Ln):Nat->List Nat
 |0=>List.replicate ls.length 0
 |k+1=>uE ls (it ls k)
def PH (n:Nat):Nat:=n*2 ^ 40
theorem Ew (n:Nat):PH n=n*2 ^ 40:=rfl
def live (ls:List Ln):List Nat:=it ls (PH ls.length)
theorem Cj (ls:List Ln):live ls=it ls (PH ls.length):=by unfold live;rfl
def Fix (ls:List Ln)(f:List Nat):Prop:=∀i,i<ls.length->uQ ls f i=f.getD i 0
theorem In.zero (ls:List Ln):In ls (List.replicate ls.length 0):=by have e:∀i,(List.replicate ls.length 0).getD i 0=0:=fun i=>by{rw[ag,List.getElem?_replicate];split<;>rfl};refine⟨by simp,fun i=>by rw[e];decide,fun i _=>by rw[e];exact le_iff.2 fun k hk=>by simp at hk⟩
theorem In.out {ls:List Ln}{f:List Nat}(h:In ls f){i:Nat}(hi:¬i<ls.length):f.getD i 0=0:=by rw[ag,List.getElem?_eq_none (by rw[h.len];omega)];rfl
theorem In.uE {ls:List Ln}{f:List Nat}(hok:Ln.isOk ls=true)(h:In ls f):In ls (uE ls f)/\∀i,le (f.getD i 0) ((Fl.uE ls f).getD i 0):=by have hle:∀j,le (f.getD j 0) ((Fl.uE ls f).getD j 0):=fun j=>by{by_cases hj:j<ls.length;{rw[qC _ _ hj];exact h.up j hj};rw[h.out hj];exact le_iff.2 fun k hk=>by simp at hk};refine⟨⟨by simp[Fl.uE],fun j=>?_,fun j hj=>?_⟩,hle⟩;{by_cases hj:j<ls.length;{rw[qC _ _ hj];exact Ar hok h.lt hj};rw[Cs _ _ hj];decide};rw[qC _ _ hj];exact jY hle j
theorem In.it {ls:List Ln}(hok:Ln.isOk ls=true):∀k,In ls (it ls k)
 |0=>In.zero ls
 |k+1=>((In.it hok k).uE hok).1
theorem Aa:∀(f g:List Nat),f.length=g.length->(∀i,f.getD i 0<=g.getD i 0)->f≠g->f.sum<g.sum
 |[],[],_,_,h=>absurd rfl h
 |[],y::r,h,_,_=>by simp at h
 |y::r,[],h,_,_=>by simp at h
 | y ::r,z::s,hl,h,hne=>by
   have h0:y<=z:=h 0
   have hr:∀i,r.getD i 0<=s.getD i 0:=fun i=>h (i+1)
   have hl2:r.length=s.length:=by simpa using hl
   simp only[List.sum_cons]
   by_cases e:r=s
   · subst e
     have:y≠z:=fun e=>hne (by rw[e])
     omega
   · have:=Aa r s hl2 hr e
     omega
theorem lQ (ls:List Ln)(k:Nat):it ls (k+1)=uE ls (it ls k):=rfl
theorem wC {ls:List Ln}(hok:Ln.isOk ls=true)(k:Nat):it ls (k+1)=it ls k\/(it ls k).sum<(it ls (k+1)).sum:=by by_cases e:it ls (k+1)=it ls k;{exact .inl e};right;have h0:=In.it hok k;have h1:=h0.uE hok;rw[lQ]at e ⊢;exact Aa _ _ (by rw[h0.len,h1.1.len]) (fun i=>Dz (h1.2 i)) (fun h=>e h.symm)
theorem Ff {ls:List Ln}(hok:Ln.isOk ls=true)(k:Nat):it ls (k+1)=it ls k\/k<(it ls (k+1)).sum:=by
 induction k with
 |zero=>
  rcases wC hok 0 with h|h
  · exact .inl h
  · exact .inr (by omega)
 |succ k ih=>
  rcases wC hok (k+1)with h|h
  · exact .inl h
  · rcases ih with h3|h3;{exact .inl (by rw[lQ,h3,←lQ,h3])};exact .inr (by omega)
theorem EN {ls:List Ln}(hok:Ln.isOk ls=true){n:Nat}(hn:n=ls.length*2 ^ 40):uE ls (it ls n)=it ls n:=by rcases Ff hok n with h|h;{exact(lQ ls n).symm.trans h};have h2:=(In.it hok (n+1)).sum;omega
theorem zK {ls:List Ln}(hok:Ln.isOk ls=true):uE ls (live ls)=live ls:=by rw[Cj];exact EN hok (Ew _)
theorem zR {ls:List Ln}(hok:Ln.isOk ls=true):Fix ls (live ls):=fun i hi=>by
 have:=qC ls (live ls) hi
 rw[zK hok]at this
 exact this.symm
def Sound (ls:List Ln)(f:List Nat):Prop:=∀i,le (f.getD i 0) ((live ls).getD i 0)
theorem Sound.zero (ls:List Ln):Sound ls (List.replicate ls.length 0):=fun i=>by
 have e:(List.replicate ls.length 0).getD i 0=0:=by
   rw[ag,List.getElem?_replicate]
   split<;>rfl
 rw[e]
 exact le_iff.2 fun k hk=>by simp at hk
theorem Sound.set {ls:List Ln}{f:List Nat}(hok:Ln.isOk ls=true)(h:Sound ls f){i:Nat}(hi:i<ls.length):Sound ls (f.set i (uQ ls f i)):=fun j=>by
 rw[jP]
 split
 · rename_i e
   rw[←e.1,←zR hok i hi]
   exact jY h i
 · exact h j
end Fl
end
theorem sO (a b:Int)(w:World)(ha:Wd.ok a=true)(hb:Wd.ok b=true):Calls Try.prog 35 #[.int .i64 1, .int .i64 a, .int .i64 b] w fun e w'=>e= .returned (.tuple #[.int .i64 (Wd.dv 1 a b), .int .i64 (Wd.dc 1 a b)])/\∃q,w'=w.drewN q:=by obtain⟨h3,h4⟩:=Wd.aL.1 ha;obtain⟨h5,h6⟩:=Wd.aL.1 hb;go_enter Try.func35,Try.ntmps35;go_wp2_with(first|(go_at_call 20;refine(aD _ _).mono ?_;rintro e w' ⟨rfl,rfl⟩)|(go_at_call 52;refine(bI _ _).mono ?_;rintro e w' ⟨rfl,rfl⟩)|(go_at_call 53;refine(bA _ _).mono ?_;rintro e w' ⟨rfl,rfl⟩)|go_in);all_goals(go_ret2;exact⟨bJ (Wd.Po ha hb) (Wd.ek ha hb (by omega) (by omega)),0,rfl⟩)
theorem rM (a b:Int)(w:World)(ha:Wd.ok a=true)(hb:Wd.ok b=true):Calls Try.prog 35 #[.int .i64 2, .int .i64 a, .int .i64 b] w fun e w'=>e= .returned (.tuple #[.int .i64 (Wd.dv 2 a b), .int .i64 (Wd.dc 2 a b)])/\∃q,w'=w.drewN q:=by obtain⟨h3,h4⟩:=Wd.aL.1 ha;obtain⟨h5,h6⟩:=Wd.aL.1 hb;go_enter Try.func35,Try.ntmps35;go_wp2_with(first|(go_at_call 20;refine(aD _ _).mono ?_;rintro e w' ⟨rfl,rfl⟩)|(go_at_call 52;refine(bI _ _).mono ?_;rintro e w' ⟨rfl,rfl⟩)|(go_at_call 53;refine(bA _ _).mono ?_;rintro e w' ⟨rfl,rfl⟩)|go_in);all_goals(go_ret2;exact⟨bJ (Wd.PX ha hb) (Wd.ek ha hb (by omega) (by omega)),0,rfl⟩)
theorem si (a b:Int)(w:World)(ha:Wd.ok a=true)(hb:Wd.ok b=true):Calls Try.prog 35 #[.int .i64 3, .int .i64 a, .int .i64 b] w fun e w'=>e= .returned (.tuple #[.int .i64 (Wd.dv 3 a b), .int .i64 (Wd.dc 3 a b)])/\∃q,w'=w.drewN q:=by obtain⟨h3,h4⟩:=Wd.aL.1 ha;obtain⟨h5,h6⟩:=Wd.aL.1 hb;go_enter Try.func35,Try.ntmps35;go_wp2_with(first|(go_at_call 20;refine(aD _ _).mono ?_;rintro e w' ⟨rfl,rfl⟩)|(go_at_call 52;refine(bI _ _).mono ?_;rintro e w' ⟨rfl,rfl⟩)|(go_at_call 53;refine(bA _ _).mono ?_;rintro e w' ⟨rfl,rfl⟩)|go_in);all_goals(go_ret2;exact⟨bJ (Wd.TA ha hb) (Wd.ek ha hb (by omega) (by omega)),0,rfl⟩)
theorem tX (a b:Int)(w:World)(ha:Wd.ok a=true)(hb:Wd.ok b=true):Calls Try.prog 35 #[.int .i64 5, .int .i64 a, .int .i64 b] w fun e w'=>e= .returned (.tuple #[.int .i64 (Wd.dv 5 a b), .int .i64 (Wd.dc 5 a b)])/\∃q,w'=w.drewN q:=by obtain⟨h3,h4⟩:=Wd.aL.1 ha;obtain⟨h5,h6⟩:=Wd.aL.1 hb;go_enter Try.func35,Try.ntmps35;go_wp2_with(first|(go_at_call 20;refine(aD _ _).mono ?_;rintro e w' ⟨rfl,rfl⟩)|(go_at_call 52;refine(bI _ _).mono ?_;rintro e w' ⟨rfl,rfl⟩)|(go_at_call 53;refine(bA _ _).mono ?_;rintro e w' ⟨rfl,rfl⟩)|go_in);all_goals(go_ret2;exact⟨bJ (Wd.Pz ha hb) (Wd.ek ha hb (by omega) (by omega)),0,rfl⟩)
theorem tZ (a b:Int)(w:World)(ha:Wd.ok a=true)(hb:Wd.ok b=true):Calls Try.prog 35 #[.int .i64 6, .int .i64 a, .int .i64 b] w fun e w'=>e= .returned (.tuple #[.int .i64 (Wd.dv 6 a b), .int .i64 (Wd.dc 6 a b)])/\∃q,w'=w.drewN q:=by obtain⟨h3,h4⟩:=Wd.aL.1 ha;obtain⟨h5,h6⟩:=Wd.aL.1 hb;go_enter Try.func35,Try.ntmps35;go_wp2_with(first|(go_at_call 20;refine(aD _ _).mono ?_;rintro e w' ⟨rfl,rfl⟩)|(go_at_call 52;refine(bI _ _).mono ?_;rintro e w' ⟨rfl,rfl⟩)|(go_at_call 53;refine(bA _ _).mono ?_;rintro e w' ⟨rfl,rfl⟩)|go_in);all_goals(go_ret2;exact⟨bJ (Wd.P5 ha hb) (Wd.ek ha hb (by omega) (by omega)),0,rfl⟩)
theorem sZ (a b:Int)(w:World)(ha:Wd.ok a=true)(hb:Wd.ok b=true):Calls Try.prog 35 #[.int .i64 7, .int .i64 a, .int .i64 b] w fun e w'=>e= .returned (.tuple #[.int .i64 (Wd.dv 7 a b), .int .i64 (Wd.dc 7 a b)])/\∃q,w'=w.drewN q:=by obtain⟨h3,h4⟩:=Wd.aL.1 ha;obtain⟨h5,h6⟩:=Wd.aL.1 hb;go_enter Try.func35,Try.ntmps35;go_wp2_with(first|(go_at_call 20;refine(aD _ _).mono ?_;rintro e w' ⟨rfl,rfl⟩)|(go_at_call 52;refine(bI _ _).mono ?_;rintro e w' ⟨rfl,rfl⟩)|(go_at_call 53;refine(bA _ _).mono ?_;rintro e w' ⟨rfl,rfl⟩)|go_in);all_goals(go_ret2;exact⟨bJ (Wd.PY ha hb) (Wd.ek ha hb (by omega) (by omega)),0,rfl⟩)
theorem rP (a b:Int)(w:World)(ha:Wd.ok a=true)(hb:Wd.ok b=true):Calls Try.prog 35 #[.int .i64 8, .int .i64 a, .int .i64 b] w fun e w'=>e= .returned (.tuple #[.int .i64 (Wd.dv 8 a b), .int .i64 (Wd.dc 8 a b)])/\∃q,w'=w.drewN q:=by obtain⟨h3,h4⟩:=Wd.aL.1 ha;obtain⟨h5,h6⟩:=Wd.aL.1 hb;go_enter Try.func35,Try.ntmps35;go_wp2_with(first|(go_at_call 20;refine(aD _ _).mono ?_;rintro e w' ⟨rfl,rfl⟩)|(go_at_call 52;refine(bI _ _).mono ?_;rintro e w' ⟨rfl,rfl⟩)|(go_at_call 53;refine(bA _ _).mono ?_;rintro e w' ⟨rfl,rfl⟩)|go_in);all_goals(go_ret2;exact⟨bJ (Wd.TB ha hb) (Wd.ek ha hb (by omega) (by omega)),0,rfl⟩)
theorem rY (a b:Int)(w:World)(ha:Wd.ok a=true)(hb:Wd.ok b=true):Calls Try.prog 35 #[.int .i64 9, .int .i64 a, .int .i64 b] w fun e w'=>e= .returned (.tuple #[.int .i64 (Wd.dv 9 a b), .int .i64 (Wd.dc 9 a b)])/\∃q,w'=w.drewN q:=by obtain⟨h3,h4⟩:=Wd.aL.1 ha;obtain⟨h5,h6⟩:=Wd.aL.1 hb;go_enter Try.func35,Try.ntmps35;go_wp2_with(first|(go_at_call 20;refine(aD _ _).mono ?_;rintro e w' ⟨rfl,rfl⟩)|(go_at_call 52;refine(bI _ _).mono ?_;rintro e w' ⟨rfl,rfl⟩)|(go_at_call 53;refine(bA _ _).mono ?_;rintro e w' ⟨rfl,rfl⟩)|go_in);all_goals(go_ret2;exact⟨bJ (Wd.Py ha hb) (Wd.ek ha hb (by omega) (by omega)),0,rfl⟩)
theorem oL (a b:Int)(w:World)(ha:Wd.ok a=true)(hb:Wd.ok b=true)(h:Wd.sg b=0):Calls Try.prog 35 #[.int .i64 4, .int .i64 a, .int .i64 b] w fun e w'=>e= .returned (.tuple #[.int .i64 (Wd.dv 4 a b), .int .i64 (Wd.dc 4 a b)])/\∃q,w'=w.drewN q:=by obtain⟨h3,h4⟩:=Wd.aL.1 ha;obtain⟨h5,h6⟩:=Wd.aL.1 hb;have h0:(Wd.sg b==0)=true:=by{simp[h]};have H:RowKit.Hid (Wd.sg b=0):=h;clear h;go_enter Try.func35,Try.ntmps35;go_wp2_with(first|(go_at_call 20;refine(aD _ _).mono ?_;rintro e w' ⟨rfl,rfl⟩)|(go_at_call 52;refine(bI _ _).mono ?_;rintro e w' ⟨rfl,rfl⟩)|(go_at_call 53;refine(bA _ _).mono ?_;rintro e w' ⟨rfl,rfl⟩)|go_in);all_goals(go_ret2;exact⟨bJ (Wd.CB ha hb H.out) (Wd.EM ha hb H.out),0,rfl⟩)
theorem oI (a b:Int)(w:World)(ha:Wd.ok a=true)(hb:Wd.ok b=true)(h:Wd.sg a=-2147483648)(h':Wd.sg b=-1):Calls Try.prog 35 #[.int .i64 4, .int .i64 a, .int .i64 b] w fun e w'=>e= .returned (.tuple #[.int .i64 (Wd.dv 4 a b), .int .i64 (Wd.dc 4 a b)])/\∃q,w'=w.drewN q:=by obtain⟨h3,h4⟩:=Wd.aL.1 ha;obtain⟨h5,h6⟩:=Wd.aL.1 hb;go_enter Try.func35,Try.ntmps35;go_wp2_with(first|(go_at_call 20;refine(aD _ _).mono ?_;rintro e w' ⟨rfl,rfl⟩)|(go_at_call 52;refine(bI _ _).mono ?_;rintro e w' ⟨rfl,rfl⟩)|(go_at_call 53;refine(bA _ _).mono ?_;rintro e w' ⟨rfl,rfl⟩)|go_in);all_goals(go_ret2;exact⟨bJ (Wd.BS ha hb h h') (Wd.EW ha hb h h'),0,rfl⟩)
theorem qJ (a b:Int)(w:World)(ha:Wd.ok a=true)(hb:Wd.ok b=true)(h0:¬Wd.sg b=0)(h:¬(Wd.sg a=-2147483648/\Wd.sg b=-1)):Calls Try.prog 35 #[.int .i64 4, .int .i64 a, .int .i64 b] w fun e w'=>e= .returned (.tuple #[.int .i64 (Wd.dv 4 a b), .int .i64 (Wd.dc 4 a b)])/\∃q,w'=w.drewN q:=by obtain⟨h3,h4⟩:=Wd.aL.1 ha;obtain⟨h5,h6⟩:=Wd.aL.1 hb;have h1:(Wd.sg b==0)=false:=by{simp[h0]};have H:RowKit.Hid (¬(Wd.sg a=-2147483648/\Wd.sg b=-1)):=h;have h2:(Wd.sg a==-2147483648)=true->(Wd.sg b==-1)=false:=by{simpa using h};clear h;go_enter Try.func35,Try.ntmps35;go_wp2_with(first|(go_at_call 20;refine(aD _ _).mono ?_;rintro e w' ⟨rfl,rfl⟩)|(go_at_call 52;refine(bI _ _).mono ?_;rintro e w' ⟨rfl,rfl⟩)|(go_at_call 53;refine(bA _ _).mono ?_;rintro e w' ⟨rfl,rfl⟩)|go_in);all_goals(go_ret2;first|exact⟨bJ (Wd.BP ha hb h0 H.out) (Wd.Cy ha hb h0 H.out),0,rfl⟩|exact⟨bJ (Wd.Pj ha hb h0 H.out ‹_›) (Wd.Cy ha hb h0 H.out),0,rfl⟩)
theorem nL (a b:Int)(w:World)(ha:Wd.ok a=true)(hb:Wd.ok b=true)(h:(a==b)=true):Calls Try.prog 35 #[.int .i64 10, .int .i64 a, .int .i64 b] w fun e w'=>e= .returned (.tuple #[.int .i64 (Wd.dv 10 a b), .int .i64 (Wd.dc 10 a b)])/\∃q,w'=w.drewN q:=by obtain⟨h3,h4⟩:=Wd.aL.1 ha;obtain⟨h5,h6⟩:=Wd.aL.1 hb;go_enter Try.func35,Try.ntmps35;go_wp2_with(first|(go_at_call 20;refine(aD _ _).mono ?_;rintro e w' ⟨rfl,rfl⟩)|(go_at_call 52;refine(bI _ _).mono ?_;rintro e w' ⟨rfl,rfl⟩)|(go_at_call 53;refine(bA _ _).mono ?_;rintro e w' ⟨rfl,rfl⟩)|go_in);all_goals(go_ret2;exact⟨bJ (Wd.wW ha hb (by simpa using h)) (Wd.ek ha hb (by omega) (by omega)),0,rfl⟩)
theorem ni (a b:Int)(w:World)(ha:Wd.ok a=true)(hb:Wd.ok b=true)(h:(a==b)=false):Calls Try.prog 35 #[.int .i64 10, .int .i64 a, .int .i64 b] w fun e w'=>e= .returned (.tuple #[.int .i64 (Wd.dv 10 a b), .int .i64 (Wd.dc 10 a b)])/\∃q,w'=w.drewN q:=by obtain⟨h3,h4⟩:=Wd.aL.1 ha;obtain⟨h5,h6⟩:=Wd.aL.1 hb;go_enter Try.func35,Try.ntmps35;go_wp2_with(first|(go_at_call 20;refine(aD _ _).mono ?_;rintro e w' ⟨rfl,rfl⟩)|(go_at_call 52;refine(bI _ _).mono ?_;rintro e w' ⟨rfl,rfl⟩)|(go_at_call 53;refine(bA _ _).mono ?_;rintro e w' ⟨rfl,rfl⟩)|go_in);all_goals(go_ret2;exact⟨bJ (Wd.wG ha hb (by simpa using h)) (Wd.ek ha hb (by omega) (by omega)),0,rfl⟩)
theorem nE (a b:Int)(w:World)(ha:Wd.ok a=true)(hb:Wd.ok b=true)(h:Wd.sg a<Wd.sg b):Calls Try.prog 35 #[.int .i64 11, .int .i64 a, .int .i64 b] w fun e w'=>e= .returned (.tuple #[.int .i64 (Wd.dv 11 a b), .int .i64 (Wd.dc 11 a b)])/\∃q,w'=w.drewN q:=by obtain⟨h3,h4⟩:=Wd.aL.1 ha;obtain⟨h5,h6⟩:=Wd.aL.1 hb;go_enter Try.func35,Try.ntmps35;go_wp2_with(first|(go_at_call 20;refine(aD _ _).mono ?_;rintro e w' ⟨rfl,rfl⟩)|(go_at_call 52;refine(bI _ _).mono ?_;rintro e w' ⟨rfl,rfl⟩)|(go_at_call 53;refine(bA _ _).mono ?_;rintro e w' ⟨rfl,rfl⟩)|go_in);all_goals(go_ret2;exact⟨bJ (Wd.zG ha hb (by simpa using h)) (Wd.ek ha hb (by omega) (by omega)),0,rfl⟩)
theorem nW (a b:Int)(w:World)(ha:Wd.ok a=true)(hb:Wd.ok b=true)(h:¬Wd.sg a<Wd.sg b):Calls Try.prog 35 #[.int .i64 11, .int .i64 a, .int .i64 b] w fun e w'=>e= .returned (.tuple #[.int .i64 (Wd.dv 11 a b), .int .i64 (Wd.dc 11 a b)])/\∃q,w'=w.drewN q:=by obtain⟨h3,h4⟩:=Wd.aL.1 ha;obtain⟨h5,h6⟩:=Wd.aL.1 hb;go_enter Try.func35,Try.ntmps35;go_wp2_with(first|(go_at_call 20;refine(aD _ _).mono ?_;rintro e w' ⟨rfl,rfl⟩)|(go_at_call 52;refine(bI _ _).mono ?_;rintro e w' ⟨rfl,rfl⟩)|(go_at_call 53;refine(bA _ _).mono ?_;rintro e w' ⟨rfl,rfl⟩)|go_in);all_goals(go_ret2;exact⟨bJ (Wd.AP ha hb (by simpa using h)) (Wd.ek ha hb (by omega) (by omega)),0,rfl⟩)
theorem nO (a b:Int)(w:World)(ha:Wd.ok a=true)(hb:Wd.ok b=true)(h:a<b):Calls Try.prog 35 #[.int .i64 12, .int .i64 a, .int .i64 b] w fun e w'=>e= .returned (.tuple #[.int .i64 (Wd.dv 12 a b), .int .i64 (Wd.dc 12 a b)])/\∃q,w'=w.drewN q:=by obtain⟨h3,h4⟩:=Wd.aL.1 ha;obtain⟨h5,h6⟩:=Wd.aL.1 hb;go_enter Try.func35,Try.ntmps35;go_wp2_with(first|(go_at_call 20;refine(aD _ _).mono ?_;rintro e w' ⟨rfl,rfl⟩)|(go_at_call 52;refine(bI _ _).mono ?_;rintro e w' ⟨rfl,rfl⟩)|(go_at_call 53;refine(bA _ _).mono ?_;rintro e w' ⟨rfl,rfl⟩)|go_in);all_goals(go_ret2;exact⟨bJ (Wd.zI ha hb (by simpa using h)) (Wd.ek ha hb (by omega) (by omega)),0,rfl⟩)
theorem nT (a b:Int)(w:World)(ha:Wd.ok a=true)(hb:Wd.ok b=true)(h:¬a<b):Calls Try.prog 35 #[.int .i64 12, .int .i64 a, .int .i64 b] w fun e w'=>e= .returned (.tuple #[.int .i64 (Wd.dv 12 a b), .int .i64 (Wd.dc 12 a b)])/\∃q,w'=w.drewN q:=by obtain⟨h3,h4⟩:=Wd.aL.1 ha;obtain⟨h5,h6⟩:=Wd.aL.1 hb;go_enter Try.func35,Try.ntmps35;go_wp2_with(first|(go_at_call 20;refine(aD _ _).mono ?_;rintro e w' ⟨rfl,rfl⟩)|(go_at_call 52;refine(bI _ _).mono ?_;rintro e w' ⟨rfl,rfl⟩)|(go_at_call 53;refine(bA _ _).mono ?_;rintro e w' ⟨rfl,rfl⟩)|go_in);all_goals(go_ret2;exact⟨bJ (Wd.Am ha hb (by simpa using h)) (Wd.ek ha hb (by omega) (by omega)),0,rfl⟩)
section
theorem sU (k a b:Int)(w:World)(ha:Wd.ok a=true)(hb:Wd.ok b=true)(hk:k<1):Calls Try.prog 35 #[.int .i64 k, .int .i64 a, .int .i64 b] w fun e w'=>e= .returned (.tuple #[.int .i64 (Wd.dv k a b), .int .i64 (Wd.dc k a b)])/\∃q,w'=w.drewN q:=by go_enter Try.func35,Try.ntmps35;go_wp2_with(first|(go_at_call 20;refine(aD _ _).mono ?_;rintro e w' ⟨rfl,rfl⟩)|go_in);all_goals(go_ret2;exact⟨bJ (Wd.kQ (by omega)) (Wd.mi ha hb (by omega)),0,rfl⟩)
theorem tY (k a b:Int)(w:World)(ha:Wd.ok a=true)(hb:Wd.ok b=true)(hk:12<k):Calls Try.prog 35 #[.int .i64 k, .int .i64 a, .int .i64 b] w fun e w'=>e= .returned (.tuple #[.int .i64 (Wd.dv k a b), .int .i64 (Wd.dc k a b)])/\∃q,w'=w.drewN q:=by go_enter Try.func35,Try.ntmps35;go_wp2_with(first|(go_at_call 20;refine(aD _ _).mono ?_;rintro e w' ⟨rfl,rfl⟩)|go_in);all_goals(go_ret2;exact⟨bJ (Wd.kQ (by omega)) (Wd.mi ha hb (by omega)),0,rfl⟩)
theorem tF (k a b:Int)(w:World)(ha:Wd.ok a=false):Calls Try.prog 35 #[.int .i64 k, .int .i64 a, .int .i64 b] w fun e w'=>e= .returned (.tuple #[.int .i64 (Wd.dv k a b), .int .i64 (Wd.dc k a b)])/\∃q,w'=w.drewN q:=by go_enter Try.func35,Try.ntmps35;go_wp2_with(first|(go_at_call 20;refine(aD _ _).mono ?_;rintro e w' ⟨rfl,rfl⟩)|go_in);all_goals(go_ret2;exact⟨bJ (Wd.xh (.inl ha)) (Wd.AL (.inl ha)),0,rfl⟩)
theorem tq (k a b:Int)(w:World)(ha:Wd.ok a=true)(hb:Wd.ok b=false):Calls Try.prog 35 #[.int .i64 k, .int .i64 a, .int .i64 b] w fun e w'=>e= .returned (.tuple #[.int .i64 (Wd.dv k a b), .int .i64 (Wd.dc k a b)])/\∃q,w'=w.drewN q:=by go_enter Try.func35,Try.ntmps35;go_wp2_with(first|(go_at_call 20;refine(aD _ _).mono ?_;rintro e w' ⟨rfl,rfl⟩)|go_in);all_goals(go_ret2;exact⟨bJ (Wd.xh (.inr hb)) (Wd.AL (.inr hb)),0,rfl⟩)
theorem yz (k a b:Int)(w:World):Calls Try.prog 35 #[.int .i64 k, .int .i64 a, .int .i64 b] w fun e w'=>e= .returned (.tuple #[.int .i64 (Wd.dv k a b), .int .i64 (Wd.dc k a b)])/\∃q,w'=w.drewN q:=by rcases ha:Wd.ok a with _|_;{exact tF k a b w ha};rcases hb:Wd.ok b with _|_;{exact tq k a b w ha hb};by_cases h1:k<1;{exact sU k a b w ha hb h1};by_cases h2:12<k;{exact tY k a b w ha hb h2};have hk:k=1\/k=2\/k=3\/k=4\/k=5\/k=6\/k=7\/k=8\/k=9\/k=10\/k=11\/k=12:=by{omega};clear h1 h2;rcases hk with rfl|rfl|rfl|rfl|rfl|rfl|rfl|rfl|rfl|rfl|rfl|rfl;{exact sO a b w ha hb};{exact rM a b w ha hb};{exact si a b w ha hb};{by_cases h0:Wd.sg b=0;{exact oL a b w ha hb h0};by_cases h1:Wd.sg a=-2147483648/\Wd.sg b=-1;{exact oI a b w ha hb h1.1 h1.2};exact qJ a b w ha hb h0 h1};{exact tX a b w ha hb};{exact tZ a b w ha hb};{exact sZ a b w ha hb};{exact rP a b w ha hb};{exact rY a b w ha hb};{by_cases h:a=b;{exact nL a b w ha hb (by simpa using h)};exact ni a b w ha hb (by simpa using h)};{by_cases h:Wd.sg a<Wd.sg b;{exact nE a b w ha hb h};exact nW a b w ha hb h};by_cases h:a<b;{exact nO a b w ha hb h};exact nT a b w ha hb h
attribute [local go_sem] uW qP vw pO
end
theorem jy (z:Value)(m:Nat):(Builtin.zeroCells #[z] m).toList=List.replicate m z:=by apply List.ext_getElem;{simp[Builtin.zeroCells]};intro i h1 h2;simp[Builtin.zeroCells,Nat.mod_one]
theorem iY {P:Program}(w:World)(base:Nat)(t tn ty e:TypeId)(i:TypeInfo)(z:Value)(bytes:Nat)(kn:IntKind)(ht:P.underlying t=some (.slice e))(htn:P.underlying tn=some (.int kn))(hi:P.info? e=some i)(hz:i.zero=some z)(hsize:i.size=1)(hby:i.bytes=bytes)(hzc:z.cells=#[z])(hz1:z.oneCell'=true)(g n cap:Nat)(xs:List Value)(hown:w.ownsRow base e 1 (.slice (some ⟨g,0,none⟩) n cap) n xs)(kq:IntKind)(m:Nat)(h63:n+m<=maxLen)(hbytes:(n+m)*bytes<=140737488355328)(hbase:base<=w.heap.size):∃g' cap' w',(Builtin.append_ #[t,tn] ty #[.slice (some ⟨g,0,none⟩) n cap, .int kq m]).run P w= .ok (.slice (some ⟨g',0,none⟩) (n+m) cap') w'/\w'.ownsRow base e 1 (.slice (some ⟨g',0,none⟩) (n+m) cap') (n+m) (xs++List.replicate m z)/\w.grownBy w' (some g):=by
 subst hby
 have hx:=hown.1
 have hlen:(xs++List.replicate m z).length=(n+m)*1:=by simp at hx ⊢;omega
 rcases hown.2 with⟨h',-⟩|⟨g',cap',cur,h',hbg,hg,hnc,hcm,hcs,htake⟩
 · cases h'
 cases h'
 by_cases hroom:n+m<=cap
 · have hst:=run_storeCells_at P g (n*i.size) e (List.replicate m z) 0 cur w hg (by simp[hsize];omega) (fun u hu=>by rw[List.eq_of_mem_replicate hu];exact hz1);simp only[Nat.add_zero]at hst;have hw:IntKind.i64.wrap (m:Int)=m:=by{rw[IntKind.wrap_i64];simp only[maxLen]at h63;omega};have hneg:¬((m:Int)<0):=by{omega};have h48i:¬(281474976710656<(m:Int)*(i.bytes:Int)):=by{rw[←Int.natCast_mul];have:m*i.bytes<=(n+m)*i.bytes:=Nat.mul_le_mul_right _ (by omega);omega};refine⟨g,cap,w.setRow g (cur.toList.take (n*i.size)++List.replicate m z++cur.toList.drop (n*i.size+(List.replicate m z).length)).toArray,?_,⟨hlen, .inr ⟨g,cap,_,rfl,hbg,setRow_heap w g cur _ e _ hg,hroom,hcm,?_,?_⟩⟩,⟨rfl,rfl,rfl,by simp,fun k _ hk=>setRow_other w g k _ (fun e=>hk (by simp[e]))⟩⟩;{by_cases hm:m=0;{subst hm;simp only[List.replicate,List.append_nil,List.length_nil,Nat.add_zero,List.take_append_drop]at hst ⊢;have hw0:IntKind.i64.wrap 0=0:=by{rw[IntKind.wrap_i64];rfl};simp[Builtin.append_,run_underlying ht,run_underlying htn,sizeOf,typeInfo,zeroValue,hi,hz,asInt,asIntOf,hw0,Addr.add_lit,hnc,hst]};have hne:¬(m*i.size=0):=by{rw[hsize];omega};simp[Builtin.append_,run_underlying ht,run_underlying htn,sizeOf,typeInfo,zeroValue,hi,hz,asInt,asIntOf,hw,hroom,hneg,h48i,hne,Addr.add_lit,hzc,jy];rw[hst];simp};{simp[hsize];omega};rw[hsize,htake,←hlen];exact List.take_left
 · have holds:(Builtin.firstCells i.size n (.slice (some ⟨g,0,none⟩) n cap)).run P w.drew= .ok xs.toArray w.drew:=by rw[hsize];exact run_firstCells_some (P:=P) w.drew 1 n ⟨g,0,none⟩ n cap xs hx (fun j u hu=>by have:=hown.cells (g:=g) rfl j u hu;simpa using this)
   have hm:0<m:=by omega
   have hr:=Lib.run_append_grow_zeros (P:=P) w t tn ty e i z kq kn ht htn hi hz (some ⟨g,0,none⟩) n cap xs holds m hm (by omega) (by omega) (by simp only[maxLen]at h63;omega) (by
    have:m*i.bytes<=(n+m)*i.bytes:=Nat.mul_le_mul_right _ (by omega)
    omega) (growslice_fits (by omega) hbytes)
   refine⟨_,_,_,hr,⟨hlen, .inr ⟨w.heap.size,_,_,rfl,hbase,heap_alloc_new w.drew _,grownCap_ge w (n+m) cap e,grownCap_le_maxLen w (n+m) cap e h63,?_,?_⟩⟩,⟨rfl,rfl,rfl,by simp,fun k hk _=>by first|exact heap_alloc_old w.drew _ k hk|exact heap_alloc_old w.drew _ hk⟩⟩
   · have:=grownCap_ge w (n+m) cap e;simp[size_zeroCells,hzc]at hx ⊢;omega
   · rw[hzc];simp only[Array.toList_append,List.append_assoc,jy];rw[←List.append_assoc,←hlen];exact List.take_left
end Go.Proofs.Ythkjdjmjdlimnaa
