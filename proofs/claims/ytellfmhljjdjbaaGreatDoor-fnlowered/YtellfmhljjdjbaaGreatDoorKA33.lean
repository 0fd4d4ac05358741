/-
  Own texts for a law: Errs3
-/
import Derived.Test.YtellfmhljjdjbaaGreatDoorKA30
namespace Go.Proofs.YtellfmhljjdjbaaGreatDoor
open Go.RowKit Go.Shelf
set_option linter.all false
set_option maxRecDepth 100000
set_option maxHeartbeats 16000000
section
open Go.RowKit Go.Shelf Go.Extern.Stop Go.Stop Go.Extern
theorem vN (v:Value)(w:World):(ReflectliteType.typeOf #[.iface 256 v]).run Tryz.prog w= .ok (.iface 174 (.agg #[.pointer (some ⟨11,256,none⟩)])) w:=by kernel_rfl
theorem nL (w:World):((ReflectliteType.method fun t=>do Rtype.noPackHeld "Comparable" t;(fun a=>Value.bool a.comparable)<$>typeInfo t) #[.agg #[.pointer (some ⟨11,256,none⟩)]]).run Tryz.prog w= .ok (.bool true) w:=by kernel_rfl
theorem iR (v:Value)(w:World):(Go.method 390 174 v "Comparable").run Tryz.prog w= .ok (191,v) w:=by kernel_rfl
theorem CX:(Tryz.prog.info? 256).map (·.comparable)=some true:=by kernel_rfl
theorem Cs:(Tryz.prog.info? 278).map (·.size)=some 1:=by kernel_rfl
theorem CG (v:Value)(xT:TypeId)(w:World):(Instr.typeAssert (.iface 127 v) xT 176 true).run Tryz.prog w= .ok (.tuple #[.nilIface, .bool false]) w:=run_typeAssert_lacksB Tryz.underlying176 (by kernel_rfl) (by kernel_rfl) v xT w
theorem oZ (v:Value)(xT:TypeId)(w:World):(Instr.typeAssert (.iface 127 v) xT 179 true).run Tryz.prog w= .ok (.tuple #[.iface 127 v, .bool true]) w:=run_typeAssert_hasB Tryz.underlying179 (by kernel_rfl) v xT w
theorem lK (v:Value)(w:World):(Go.method 390 127 v "Unwrap").run Tryz.prog w= .ok (187,v) w:=by kernel_rfl
theorem JG (v:Value)(xT:TypeId)(w:World):(Instr.typeAssert (.iface 256 v) xT 176 true).run Tryz.prog w= .ok (.tuple #[.nilIface, .bool false]) w:=run_typeAssert_lacksB Tryz.underlying176 (by kernel_rfl) (by kernel_rfl) v xT w
theorem ze (v:Value)(xT:TypeId)(w:World):(Instr.typeAssert (.iface 256 v) xT 179 true).run Tryz.prog w= .ok (.tuple #[.nilIface, .bool false]) w:=run_typeAssert_lacksB Tryz.underlying179 (by kernel_rfl) (by kernel_rfl) v xT w
theorem wY (v:Value)(xT:TypeId)(w:World):(Instr.typeAssert (.iface 256 v) xT 181 true).run Tryz.prog w= .ok (.tuple #[.nilIface, .bool false]) w:=run_typeAssert_lacksB Tryz.underlying181 (by kernel_rfl) (by kernel_rfl) v xT w
theorem JH (at':Int)(ad:Addr)(w:World):Calls Tryz.prog 58 #[Da at' ad,cK ad] w fun e w'=>e= .returned (.bool true)/\Below w.heap.size w w':=by obtain⟨i,hi,hcmp⟩:=Option.map_eq_some_iff.1 CX;obtain⟨j,hj,hjs⟩:=Option.map_eq_some_iff.1 Cs;have hTO:=@run_callFunc_extern Tryz.prog 85 _ ReflectliteType.typeOf Tryz.func85 (by kernel_rfl) (by kernel_rfl) (by kernel_rfl) (by kernel_rfl);have hCm:=@run_callFunc_extern Tryz.prog 191 _ (ReflectliteType.method fun t=>do Rtype.noPackHeld "Comparable" t;pure (.bool (←typeInfo t).comparable)) Tryz.func191 (by kernel_rfl) (by kernel_rfl) (by kernel_rfl) (by kernel_rfl);have k1:=vN;have k2:=nL;have k3:=iR;have k4:=CG;have k5:=oZ;have k6:=lK;have heq:=fun w=>run_eql_iface_ptr_same (P:=Tryz.prog) w ad Tryz.underlying78 Tryz.underlying256 hi hcmp hj;have hty:=fun w=>run_eql_iface_types (P:=Tryz.prog) 127 256 (.agg #[.int .i64 at', .iface 256 (.pointer (some ad))]) (.pointer (some ad)) Tryz.underlying78 (by decide) w;have hB1:=aB w (.cells #[.int .i64 at', .iface 256 (.pointer (some ad))] 127);unfold Da cK;go_enter Tryz.func58,Tryz.ntmps58;go_wp2;refine wp_loop_rounds 2 ?_;rw[rounds_succ];go_wp2;rw[rounds_succ];go_wp2;go_ret;first|exact⟨rfl,hB1⟩|exact⟨rfl,Below.refl _ _⟩
theorem E8 (at':Int)(ad b:Addr)(w:World)(hne:ad≠b)(ha:∃c t,w.heap[ad.block]?=some (.cells c t (0,0)))(hb:∃c t,w.heap[b.block]?=some (.cells c t (0,0))):Calls Tryz.prog 58 #[Da at' ad,cK b] w fun e w'=>e= .returned (.bool false)/\Below w.heap.size w w':=by obtain⟨ca,ta,ha⟩:=ha;obtain⟨cb,tb,hb⟩:=hb;obtain⟨i,hi,hcmp⟩:=Option.map_eq_some_iff.1 CX;obtain⟨j,hj,hjs⟩:=Option.map_eq_some_iff.1 Cs;have hTO:=@run_callFunc_extern Tryz.prog 85 _ ReflectliteType.typeOf Tryz.func85 (by kernel_rfl) (by kernel_rfl) (by kernel_rfl) (by kernel_rfl);have hCm:=@run_callFunc_extern Tryz.prog 191 _ (ReflectliteType.method fun t=>do Rtype.noPackHeld "Comparable" t;pure (.bool (←typeInfo t).comparable)) Tryz.func191 (by kernel_rfl) (by kernel_rfl) (by kernel_rfl) (by kernel_rfl);have k1:=vN;have k2:=nL;have k3:=iR;have k4:=CG;have k5:=oZ;have k6:=lK;have k7:=JG;have k8:=ze;have k9:=wY;have hB1:=aB w (.cells #[.int .i64 at', .iface 256 (.pointer (some ad))] 127);have hla:ad.block<w.heap.size:=(Array.getElem?_eq_some_iff.1 ha).1;have hlb:b.block<w.heap.size:=(Array.getElem?_eq_some_iff.1 hb).1;have heq:=run_eql_iface_ptr_other (P:=Tryz.prog) (w.alloc (.cells #[.int .i64 at', .iface 256 (.pointer (some ad))] 127)) Tryz.underlying78 Tryz.underlying256 hi hcmp hj (by rw[hjs];decide) hne ((hB1.block ad.block hla).trans ha) ((hB1.block b.block hlb).trans hb);have hty:=fun w=>run_eql_iface_types (P:=Tryz.prog) 127 256 (.agg #[.int .i64 at', .iface 256 (.pointer (some ad))]) (.pointer (some b)) Tryz.underlying78 (by decide) w;unfold Da cK;go_enter Tryz.func58,Tryz.ntmps58;go_wp2;refine wp_loop_rounds 2 ?_;rw[rounds_succ];go_wp2;rw[rounds_succ];go_wp2;go_ret;exact⟨rfl,hB1⟩
end
end Go.Proofs.YtellfmhljjdjbaaGreatDoor
