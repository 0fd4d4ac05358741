/-
  NARROWER THAN 'FOR EVERY INPUT', by the rows' own cells (each row's printed sentence says how): FnMeant: ifaces, laid · FnExactMeant: ifaces, laid · FnExactBurnt: ifaces, laid.
  DERIVED. THE GIVEN ROWS OF THIS SEAT. 3 by the template 'for every input the law returns true; each argument reads behind the call as it read before'; 0 by the template 'total and deterministic' (their statements: YthpdpoocigpccaaGreatDoorTotals.lean).
  GIVEN WITH THE SEED: the statements are not yours to turn. If you find one false, say at which input.
  Laid BY PROGRAM, IN A SANDBOX (cutbox-rows.mjs): the forced cells as the released guide's own fill.sh prints them over the translation f5ea7bb6bdaca0fb… (all of the seat's roots in one cut). By AI agents, Wed Nov 11 2026. No macro, syntax, notation, axiom, sorry.
-/
import Derived.Test.YthpdpoocigpccaaGreatDoorChecked
import GoSem.Claim
import GoSem.ClaimJoined
import GoSem.ClaimMapViews
import Derived.JoinedTies
import Derived.KernelRfl
namespace Go.Proofs.YthpdpoocigpccaaGreatDoor
/- THE CELL 'sum', in the pinned program and in every row, IS THE sha256 OF THE DUMP (.gsa) THAT YthpdpoocigpccaaGreatDoorProg.lean LOADS. Nothing in Lean hashes anything: it is a label: what it is worth is what the hold of that sum in a sandbox is worth. -/
noncomputable def Tryz.pinned : Pinned := { name := "ythpdpoocigpccaagreatdoor", sum := "f5ea7bb6bdaca0fb871e65808dfe02e7de0d6692f491666fec28a80e56c7bc52", checked := Tryz.checked }
namespace Rows
def none {H : Type} : Left H := { results := [], args := [] }

/- WHAT THE LISTED PACKAGE-LEVEL VARIABLES READ AS WHEN THE CALL BEGINS. Each datum BY PROGRAM (the guide's laid-datum.mjs) off the statement by which the dump's own 'gosem.cut.vars' lays the variable. In a bare row this is a premise. The card (YthpdpoocigpccaaGreatDoorCards.lean) ties it to the program's text. -/
def laid_loop_example_g00363_impl_errNoModule {H : Type} : DataW H := .iface "*errors.errorString" (.ptr (.agg [.lit (.string [105, 116, 32, 105, 115, 32, 110, 111, 116, 32, 77, 111, 100, 117, 108, 101, 79, 107])]))
def laid_loop_example_g00363_impl_errNoFunc {H : Type} : DataW H := .iface "*errors.errorString" (.ptr (.agg [.lit (.string [116, 104, 101, 114, 101, 32, 105, 115, 32, 110, 111, 32, 115, 117, 99, 104, 32, 70, 117, 110, 99])]))
def laid_loop_example_g00363_impl_errNoBody {H : Type} : DataW H := .iface "*errors.errorString" (.ptr (.agg [.lit (.string [105, 116, 115, 32, 98, 111, 100, 121, 32, 105, 115, 32, 110, 111, 116, 32, 78, 101, 115, 116, 79, 107])]))
def laid_loop_example_g00363_impl_errNoLocal {H : Type} : DataW H := .iface "*errors.errorString" (.ptr (.agg [.lit (.string [116, 104, 101, 114, 101, 32, 105, 115, 32, 110, 111, 32, 115, 117, 99, 104, 32, 108, 111, 99, 97, 108])]))
def laid_loop_example_g00363_impl_errNoCallee {H : Type} : DataW H := .iface "*errors.errorString" (.ptr (.agg [.lit (.string [116, 104, 101, 114, 101, 32, 105, 115, 32, 110, 111, 32, 115, 117, 99, 104, 32, 70, 117, 110, 99, 32, 116, 111, 32, 98, 101, 32, 99, 97, 108, 108, 101, 100])]))
def laid_loop_example_g00363_impl_errNoLabel {H : Type} : DataW H := .iface "*errors.errorString" (.ptr (.agg [.lit (.string [116, 104, 101, 114, 101, 32, 105, 115, 32, 110, 111, 32, 108, 97, 98, 101, 108, 32, 115, 111, 32, 102, 97, 114, 32, 111, 117, 116])]))
def laid_loop_example_g00363_impl_errNoElse {H : Type} : DataW H := .iface "*errors.errorString" (.ptr (.agg [.lit (.string [97, 110, 32, 83, 112, 73, 102, 32, 119, 105, 116, 104, 111, 117, 116, 32, 83, 112, 69, 108, 115, 101, 32, 105, 115, 32, 119, 105, 100, 101])]))
def laid_loop_example_g00363_impl_errTooFew {H : Type} : DataW H := .iface "*errors.errorString" (.ptr (.agg [.lit (.string [116, 104, 101, 114, 101, 32, 97, 114, 101, 32, 116, 111, 111, 32, 102, 101, 119, 32, 111, 110, 32, 116, 104, 101, 32, 112, 105, 108, 101])]))
def laid_loop_example_g00363_impl_errUneven {H : Type} : DataW H := .iface "*errors.errorString" (.ptr (.agg [.lit (.string [116, 104, 101, 114, 101, 32, 97, 114, 101, 32, 110, 111, 116, 32, 106, 117, 115, 116, 32, 97, 115, 32, 109, 97, 110, 121, 32, 97, 115, 32, 116, 104, 101, 32, 119, 105, 100, 116, 104])]))
def laid_loop_example_g00363_impl_errTooHigh {H : Type} : DataW H := .iface "*errors.errorString" (.ptr (.agg [.lit (.string [116, 104, 101, 114, 101, 32, 97, 114, 101, 32, 109, 111, 114, 101, 32, 116, 104, 97, 110, 32, 77, 97, 120, 72, 101, 105, 103, 104, 116])]))

/-- 'laws.FnMeant': WHATEVER THE INPUT: true; the input reads as it did. -/
def fnMeantSpec : ChangeSpec := { name := "fnMeant", vars := ["loop.example/g00363/impl.errNoFunc", "loop.example/g00363/impl.errNoModule", "loop.example/g00363/impl.errNoBody", "loop.example/g00363/impl.errTooHigh", "loop.example/g00363/impl.errNoLocal", "loop.example/g00363/impl.errNoCallee", "loop.example/g00363/impl.errNoLabel", "loop.example/g00363/impl.errNoElse", "loop.example/g00363/impl.errTooFew", "loop.example/g00363/impl.errUneven"], fn := fun _ => fun
  | [d, g1, g2, g3, g4, g5, g6, g7, g8, g9, g10] => { results := [.lit (.bool true)], args := [d], vars := [g1, g2, g3, g4, g5, g6, g7, g8, g9, g10] }
  | _ => none }
def fnMeantRow : OpenClaim := { program := "ythpdpoocigpccaagreatdoor", sum := "f5ea7bb6bdaca0fb871e65808dfe02e7de0d6692f491666fec28a80e56c7bc52", func := "loop.example/g00363/laws.FnMeant", spec := "fnMeant", inPlace := ["internal/reflectlite.TypeOf"], unfollowed := true, recurses := true, named := ["loop.example/g00363/impl.errNoFunc", "loop.example/g00363/impl.errNoModule", "loop.example/g00363/impl.errNoBody", "loop.example/g00363/impl.errTooHigh", "loop.example/g00363/impl.errNoLocal", "loop.example/g00363/impl.errNoCallee", "loop.example/g00363/impl.errNoLabel", "loop.example/g00363/impl.errNoElse", "loop.example/g00363/impl.errTooFew", "loop.example/g00363/impl.errUneven"], ifaces := true, apart := false, laid := [("loop.example/g00363/impl.errNoModule", laid_loop_example_g00363_impl_errNoModule), ("loop.example/g00363/impl.errNoFunc", laid_loop_example_g00363_impl_errNoFunc), ("loop.example/g00363/impl.errNoBody", laid_loop_example_g00363_impl_errNoBody), ("loop.example/g00363/impl.errNoLocal", laid_loop_example_g00363_impl_errNoLocal), ("loop.example/g00363/impl.errNoCallee", laid_loop_example_g00363_impl_errNoCallee), ("loop.example/g00363/impl.errNoLabel", laid_loop_example_g00363_impl_errNoLabel), ("loop.example/g00363/impl.errNoElse", laid_loop_example_g00363_impl_errNoElse), ("loop.example/g00363/impl.errTooFew", laid_loop_example_g00363_impl_errTooFew), ("loop.example/g00363/impl.errUneven", laid_loop_example_g00363_impl_errUneven), ("loop.example/g00363/impl.errTooHigh", laid_loop_example_g00363_impl_errTooHigh)] }
def FnMeantSaid : Prop := fnMeantRow.holds Tryz.pinned (OpenSpec.ofChange fnMeantSpec)

/-- ITS FALSE NEIGHBOUR: 'it returns false'. Refute it at one input. -/
def fnMeantWrong : ChangeSpec := { name := "fnMeant", vars := ["loop.example/g00363/impl.errNoFunc", "loop.example/g00363/impl.errNoModule", "loop.example/g00363/impl.errNoBody", "loop.example/g00363/impl.errTooHigh", "loop.example/g00363/impl.errNoLocal", "loop.example/g00363/impl.errNoCallee", "loop.example/g00363/impl.errNoLabel", "loop.example/g00363/impl.errNoElse", "loop.example/g00363/impl.errTooFew", "loop.example/g00363/impl.errUneven"], fn := fun _ => fun
  | [d, g1, g2, g3, g4, g5, g6, g7, g8, g9, g10] => { results := [.lit (.bool false)], args := [d], vars := [g1, g2, g3, g4, g5, g6, g7, g8, g9, g10] }
  | _ => none }
def FnMeantWrongFalsely : Prop := fnMeantRow.holds Tryz.pinned (OpenSpec.ofChange fnMeantWrong)

/-- 'laws.FnExactMeant': WHATEVER THE INPUT: true; the input reads as it did. -/
def fnExactMeantSpec : ChangeSpec := { name := "fnExactMeant", vars := ["loop.example/g00363/impl.errNoFunc", "loop.example/g00363/impl.errNoModule", "loop.example/g00363/impl.errNoBody", "loop.example/g00363/impl.errTooHigh", "loop.example/g00363/impl.errNoLocal", "loop.example/g00363/impl.errNoCallee", "loop.example/g00363/impl.errNoLabel", "loop.example/g00363/impl.errNoElse", "loop.example/g00363/impl.errTooFew", "loop.example/g00363/impl.errUneven"], fn := fun _ => fun
  | [d1, d2, d3, d4, g1, g2, g3, g4, g5, g6, g7, g8, g9, g10] => { results := [.lit (.bool true)], args := [d1, d2, d3, d4], vars := [g1, g2, g3, g4, g5, g6, g7, g8, g9, g10] }
  | _ => none }
def fnExactMeantRow : OpenClaim := { program := "ythpdpoocigpccaagreatdoor", sum := "f5ea7bb6bdaca0fb871e65808dfe02e7de0d6692f491666fec28a80e56c7bc52", func := "loop.example/g00363/laws.FnExactMeant", spec := "fnExactMeant", inPlace := ["internal/reflectlite.TypeOf"], unfollowed := true, recurses := true, named := ["loop.example/g00363/impl.errNoFunc", "loop.example/g00363/impl.errNoModule", "loop.example/g00363/impl.errNoBody", "loop.example/g00363/impl.errTooHigh", "loop.example/g00363/impl.errNoLocal", "loop.example/g00363/impl.errNoCallee", "loop.example/g00363/impl.errNoLabel", "loop.example/g00363/impl.errNoElse", "loop.example/g00363/impl.errTooFew", "loop.example/g00363/impl.errUneven"], ifaces := true, apart := false, laid := [("loop.example/g00363/impl.errNoModule", laid_loop_example_g00363_impl_errNoModule), ("loop.example/g00363/impl.errNoFunc", laid_loop_example_g00363_impl_errNoFunc), ("loop.example/g00363/impl.errNoBody", laid_loop_example_g00363_impl_errNoBody), ("loop.example/g00363/impl.errNoLocal", laid_loop_example_g00363_impl_errNoLocal), ("loop.example/g00363/impl.errNoCallee", laid_loop_example_g00363_impl_errNoCallee), ("loop.example/g00363/impl.errNoLabel", laid_loop_example_g00363_impl_errNoLabel), ("loop.example/g00363/impl.errNoElse", laid_loop_example_g00363_impl_errNoElse), ("loop.example/g00363/impl.errTooFew", laid_loop_example_g00363_impl_errTooFew), ("loop.example/g00363/impl.errUneven", laid_loop_example_g00363_impl_errUneven), ("loop.example/g00363/impl.errTooHigh", laid_loop_example_g00363_impl_errTooHigh)] }
def FnExactMeantSaid : Prop := fnExactMeantRow.holds Tryz.pinned (OpenSpec.ofChange fnExactMeantSpec)

/-- ITS FALSE NEIGHBOUR: 'it returns false'. Refute it at one input. -/
def fnExactMeantWrong : ChangeSpec := { name := "fnExactMeant", vars := ["loop.example/g00363/impl.errNoFunc", "loop.example/g00363/impl.errNoModule", "loop.example/g00363/impl.errNoBody", "loop.example/g00363/impl.errTooHigh", "loop.example/g00363/impl.errNoLocal", "loop.example/g00363/impl.errNoCallee", "loop.example/g00363/impl.errNoLabel", "loop.example/g00363/impl.errNoElse", "loop.example/g00363/impl.errTooFew", "loop.example/g00363/impl.errUneven"], fn := fun _ => fun
  | [d1, d2, d3, d4, g1, g2, g3, g4, g5, g6, g7, g8, g9, g10] => { results := [.lit (.bool false)], args := [d1, d2, d3, d4], vars := [g1, g2, g3, g4, g5, g6, g7, g8, g9, g10] }
  | _ => none }
def FnExactMeantWrongFalsely : Prop := fnExactMeantRow.holds Tryz.pinned (OpenSpec.ofChange fnExactMeantWrong)

/-- 'laws.FnExactBurnt': WHATEVER THE INPUT: true; the input reads as it did. -/
def fnExactBurntSpec : ChangeSpec := { name := "fnExactBurnt", vars := ["loop.example/g00363/impl.errNoFunc", "loop.example/g00363/impl.errNoModule", "loop.example/g00363/impl.errNoBody", "loop.example/g00363/impl.errTooHigh", "loop.example/g00363/impl.errNoLocal", "loop.example/g00363/impl.errNoCallee", "loop.example/g00363/impl.errNoLabel", "loop.example/g00363/impl.errNoElse", "loop.example/g00363/impl.errTooFew", "loop.example/g00363/impl.errUneven"], fn := fun _ => fun
  | [d1, d2, d3, d4, g1, g2, g3, g4, g5, g6, g7, g8, g9, g10] => { results := [.lit (.bool true)], args := [d1, d2, d3, d4], vars := [g1, g2, g3, g4, g5, g6, g7, g8, g9, g10] }
  | _ => none }
def fnExactBurntRow : OpenClaim := { program := "ythpdpoocigpccaagreatdoor", sum := "f5ea7bb6bdaca0fb871e65808dfe02e7de0d6692f491666fec28a80e56c7bc52", func := "loop.example/g00363/laws.FnExactBurnt", spec := "fnExactBurnt", inPlace := ["internal/reflectlite.TypeOf"], unfollowed := true, recurses := true, named := ["loop.example/g00363/impl.errNoFunc", "loop.example/g00363/impl.errNoModule", "loop.example/g00363/impl.errNoBody", "loop.example/g00363/impl.errTooHigh", "loop.example/g00363/impl.errNoLocal", "loop.example/g00363/impl.errNoCallee", "loop.example/g00363/impl.errNoLabel", "loop.example/g00363/impl.errNoElse", "loop.example/g00363/impl.errTooFew", "loop.example/g00363/impl.errUneven"], ifaces := true, apart := false, laid := [("loop.example/g00363/impl.errNoModule", laid_loop_example_g00363_impl_errNoModule), ("loop.example/g00363/impl.errNoFunc", laid_loop_example_g00363_impl_errNoFunc), ("loop.example/g00363/impl.errNoBody", laid_loop_example_g00363_impl_errNoBody), ("loop.example/g00363/impl.errNoLocal", laid_loop_example_g00363_impl_errNoLocal), ("loop.example/g00363/impl.errNoCallee", laid_loop_example_g00363_impl_errNoCallee), ("loop.example/g00363/impl.errNoLabel", laid_loop_example_g00363_impl_errNoLabel), ("loop.example/g00363/impl.errNoElse", laid_loop_example_g00363_impl_errNoElse), ("loop.example/g00363/impl.errTooFew", laid_loop_example_g00363_impl_errTooFew), ("loop.example/g00363/impl.errUneven", laid_loop_example_g00363_impl_errUneven), ("loop.example/g00363/impl.errTooHigh", laid_loop_example_g00363_impl_errTooHigh)] }
def FnExactBurntSaid : Prop := fnExactBurntRow.holds Tryz.pinned (OpenSpec.ofChange fnExactBurntSpec)

/-- ITS FALSE NEIGHBOUR: 'it returns false'. Refute it at one input. -/
def fnExactBurntWrong : ChangeSpec := { name := "fnExactBurnt", vars := ["loop.example/g00363/impl.errNoFunc", "loop.example/g00363/impl.errNoModule", "loop.example/g00363/impl.errNoBody", "loop.example/g00363/impl.errTooHigh", "loop.example/g00363/impl.errNoLocal", "loop.example/g00363/impl.errNoCallee", "loop.example/g00363/impl.errNoLabel", "loop.example/g00363/impl.errNoElse", "loop.example/g00363/impl.errTooFew", "loop.example/g00363/impl.errUneven"], fn := fun _ => fun
  | [d1, d2, d3, d4, g1, g2, g3, g4, g5, g6, g7, g8, g9, g10] => { results := [.lit (.bool false)], args := [d1, d2, d3, d4], vars := [g1, g2, g3, g4, g5, g6, g7, g8, g9, g10] }
  | _ => none }
def FnExactBurntWrongFalsely : Prop := fnExactBurntRow.holds Tryz.pinned (OpenSpec.ofChange fnExactBurntWrong)

/- THE SECOND FORM. 'bulk': how many values and letters a reading holds, each counted each time it is reached (what is shared counts as often as it is met; a slice's spare places count too). A statement '..UptoSaid' is the law's where the arguments, and the package variables that the reading takes, are together of bulk at most 1048576: NARROWER than '..Said'. Prove '..Said' where nothing that the law and all that it calls make is longer than what came in: it says more and counts as full. Else prove '..UptoSaid'. A law counts once. -/
mutual
def uptoBulk {H : Type} : DataW H → Nat
  | .lit (.string bytes) => bytes.length + 1
  | .lit _ => 1
  | .nil => 1
  | .ptr d => uptoBulk d + 1
  | .slice elems spare => uptoBulkAll elems + uptoBulkAll spare + 1
  | .agg parts => uptoBulkAll parts + 1
  | .iface _ d => uptoBulk d + 1
  | .map entries => uptoBulkEntries entries + 1
  | .held _ => 1
def uptoBulkAll {H : Type} : List (DataW H) → Nat
  | [] => 0
  | d :: r => uptoBulk d + uptoBulkAll r
def uptoBulkEntries {H : Type} : List (Lit × DataW H) → Nat
  | [] => 0
  | x :: r => uptoBulkEntry x + uptoBulkEntries r
def uptoBulkEntry {H : Type} : Lit × DataW H → Nat
  | (.string bytes, d) => bytes.length + uptoBulk d + 1
  | (_, d) => uptoBulk d + 1
 end
def uptoSmall : (H : Type) → List (DataW H) → Bool := fun _ ds => decide (uptoBulkAll ds ≤ 1048576)
def OpenSpec.upto (s : _root_.Go.ChangeSpec) : _root_.Go.OpenSpec := { _root_.Go.OpenSpec.ofChange s with cond := some uptoSmall }

/-- 'laws.FnMeant', WHERE WHAT IT READS IS OF BULK AT MOST 1048576: true; the input reads as it did. -/
def fnMeantUptoRow : OpenClaim := { program := "ythpdpoocigpccaagreatdoor", sum := "f5ea7bb6bdaca0fb871e65808dfe02e7de0d6692f491666fec28a80e56c7bc52", func := "loop.example/g00363/laws.FnMeant", spec := "fnMeant", inPlace := ["internal/reflectlite.TypeOf"], unfollowed := true, recurses := true, named := ["loop.example/g00363/impl.errNoFunc", "loop.example/g00363/impl.errNoModule", "loop.example/g00363/impl.errNoBody", "loop.example/g00363/impl.errTooHigh", "loop.example/g00363/impl.errNoLocal", "loop.example/g00363/impl.errNoCallee", "loop.example/g00363/impl.errNoLabel", "loop.example/g00363/impl.errNoElse", "loop.example/g00363/impl.errTooFew", "loop.example/g00363/impl.errUneven"], ifaces := true, apart := false, laid := [("loop.example/g00363/impl.errNoModule", laid_loop_example_g00363_impl_errNoModule), ("loop.example/g00363/impl.errNoFunc", laid_loop_example_g00363_impl_errNoFunc), ("loop.example/g00363/impl.errNoBody", laid_loop_example_g00363_impl_errNoBody), ("loop.example/g00363/impl.errNoLocal", laid_loop_example_g00363_impl_errNoLocal), ("loop.example/g00363/impl.errNoCallee", laid_loop_example_g00363_impl_errNoCallee), ("loop.example/g00363/impl.errNoLabel", laid_loop_example_g00363_impl_errNoLabel), ("loop.example/g00363/impl.errNoElse", laid_loop_example_g00363_impl_errNoElse), ("loop.example/g00363/impl.errTooFew", laid_loop_example_g00363_impl_errTooFew), ("loop.example/g00363/impl.errUneven", laid_loop_example_g00363_impl_errUneven), ("loop.example/g00363/impl.errTooHigh", laid_loop_example_g00363_impl_errTooHigh)], narrowed := true }
def FnMeantUptoSaid : Prop := fnMeantUptoRow.holds Tryz.pinned (OpenSpec.upto fnMeantSpec)

/-- 'laws.FnExactMeant', WHERE WHAT IT READS IS OF BULK AT MOST 1048576: true; the input reads as it did. -/
def fnExactMeantUptoRow : OpenClaim := { program := "ythpdpoocigpccaagreatdoor", sum := "f5ea7bb6bdaca0fb871e65808dfe02e7de0d6692f491666fec28a80e56c7bc52", func := "loop.example/g00363/laws.FnExactMeant", spec := "fnExactMeant", inPlace := ["internal/reflectlite.TypeOf"], unfollowed := true, recurses := true, named := ["loop.example/g00363/impl.errNoFunc", "loop.example/g00363/impl.errNoModule", "loop.example/g00363/impl.errNoBody", "loop.example/g00363/impl.errTooHigh", "loop.example/g00363/impl.errNoLocal", "loop.example/g00363/impl.errNoCallee", "loop.example/g00363/impl.errNoLabel", "loop.example/g00363/impl.errNoElse", "loop.example/g00363/impl.errTooFew", "loop.example/g00363/impl.errUneven"], ifaces := true, apart := false, laid := [("loop.example/g00363/impl.errNoModule", laid_loop_example_g00363_impl_errNoModule), ("loop.example/g00363/impl.errNoFunc", laid_loop_example_g00363_impl_errNoFunc), ("loop.example/g00363/impl.errNoBody", laid_loop_example_g00363_impl_errNoBody), ("loop.example/g00363/impl.errNoLocal", laid_loop_example_g00363_impl_errNoLocal), ("loop.example/g00363/impl.errNoCallee", laid_loop_example_g00363_impl_errNoCallee), ("loop.example/g00363/impl.errNoLabel", laid_loop_example_g00363_impl_errNoLabel), ("loop.example/g00363/impl.errNoElse", laid_loop_example_g00363_impl_errNoElse), ("loop.example/g00363/impl.errTooFew", laid_loop_example_g00363_impl_errTooFew), ("loop.example/g00363/impl.errUneven", laid_loop_example_g00363_impl_errUneven), ("loop.example/g00363/impl.errTooHigh", laid_loop_example_g00363_impl_errTooHigh)], narrowed := true }
def FnExactMeantUptoSaid : Prop := fnExactMeantUptoRow.holds Tryz.pinned (OpenSpec.upto fnExactMeantSpec)

/-- 'laws.FnExactBurnt', WHERE WHAT IT READS IS OF BULK AT MOST 1048576: true; the input reads as it did. -/
def fnExactBurntUptoRow : OpenClaim := { program := "ythpdpoocigpccaagreatdoor", sum := "f5ea7bb6bdaca0fb871e65808dfe02e7de0d6692f491666fec28a80e56c7bc52", func := "loop.example/g00363/laws.FnExactBurnt", spec := "fnExactBurnt", inPlace := ["internal/reflectlite.TypeOf"], unfollowed := true, recurses := true, named := ["loop.example/g00363/impl.errNoFunc", "loop.example/g00363/impl.errNoModule", "loop.example/g00363/impl.errNoBody", "loop.example/g00363/impl.errTooHigh", "loop.example/g00363/impl.errNoLocal", "loop.example/g00363/impl.errNoCallee", "loop.example/g00363/impl.errNoLabel", "loop.example/g00363/impl.errNoElse", "loop.example/g00363/impl.errTooFew", "loop.example/g00363/impl.errUneven"], ifaces := true, apart := false, laid := [("loop.example/g00363/impl.errNoModule", laid_loop_example_g00363_impl_errNoModule), ("loop.example/g00363/impl.errNoFunc", laid_loop_example_g00363_impl_errNoFunc), ("loop.example/g00363/impl.errNoBody", laid_loop_example_g00363_impl_errNoBody), ("loop.example/g00363/impl.errNoLocal", laid_loop_example_g00363_impl_errNoLocal), ("loop.example/g00363/impl.errNoCallee", laid_loop_example_g00363_impl_errNoCallee), ("loop.example/g00363/impl.errNoLabel", laid_loop_example_g00363_impl_errNoLabel), ("loop.example/g00363/impl.errNoElse", laid_loop_example_g00363_impl_errNoElse), ("loop.example/g00363/impl.errTooFew", laid_loop_example_g00363_impl_errTooFew), ("loop.example/g00363/impl.errUneven", laid_loop_example_g00363_impl_errUneven), ("loop.example/g00363/impl.errTooHigh", laid_loop_example_g00363_impl_errTooHigh)], narrowed := true }
def FnExactBurntUptoSaid : Prop := fnExactBurntUptoRow.holds Tryz.pinned (OpenSpec.upto fnExactBurntSpec)

end Rows
end Go.Proofs.YthpdpoocigpccaaGreatDoor
