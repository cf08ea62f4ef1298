/-
  NARROWER THAN 'FOR EVERY INPUT', by the rows' own cells (each row's printed sentence says how): FnExactCallFits: laid · FnExactCalled: laid · FnExactOpName: laid · FnExactArgsOf: laid.
  DERIVED. THE GIVEN ROWS OF THIS SEAT. 4 by the template 'for every input the law returns true; each argument reads behind the call as it read before'; 0 by the template 'total and deterministic' (their statements: YtooljeddnfkphaaDoorTotals.lean).
  GIVEN WITH THE SEED: the statements are not yours to turn. If you find one false, say at which input.
  Laid BY PROGRAM, IN A SANDBOX (cutbox-rows.mjs): the forced cells as the released guide's own fill.sh prints them over the translation 7e4002487cc0e3ff… (all of the seat's roots in one cut). By AI agents, Wed Nov 11 2026. No macro, syntax, notation, axiom, sorry.
-/
import Derived.Test.YtooljeddnfkphaaDoorChecked
import GoSem.Claim
import GoSem.ClaimJoined
import GoSem.ClaimMapViews
import Derived.JoinedTies
import Derived.KernelRfl
namespace Go.Proofs.YtooljeddnfkphaaDoor
/- THE CELL 'sum', in the pinned program and in every row, IS THE sha256 OF THE DUMP (.gsa) THAT YtooljeddnfkphaaDoorProg.lean LOADS. Nothing in Lean hashes anything: it is a label: what it is worth is what the hold of that sum in a sandbox is worth. -/
noncomputable def Tryd.pinned : Pinned := { name := "ytooljeddnfkphaadoor", sum := "7e4002487cc0e3ff9ba8ed8fe84365518dbc6ffd4b48d6f6447bb00c26e3ab27", checked := Tryd.checked }
namespace Rows
def none {H : Type} : Left H := { results := [], args := [] }

/- WHAT THE LISTED PACKAGE-LEVEL VARIABLES READ AS WHEN THE CALL BEGINS. Each datum BY PROGRAM (the guide's laid-datum.mjs) off the statement by which the dump's own 'gosem.cut.vars' lays the variable. In a bare row this is a premise. The card (YtooljeddnfkphaaDoorCards.lean) ties it to the program's text. -/
def laid_loop_example_g00650_impl_callRows {H : Type} : DataW H := .agg [.agg [.lit (.string []), .agg [.lit (.int .i64 0), .lit (.int .i64 0), .lit (.int .i64 0)]], .agg [.lit (.string [115, 116, 97, 114, 116]), .agg [.lit (.int .i64 0), .lit (.int .i64 0), .lit (.int .i64 0)]], .agg [.lit (.string [97, 108, 108, 111, 99]), .agg [.lit (.int .i64 1), .lit (.int .i64 0), .lit (.int .i64 0)]], .agg [.lit (.string [102, 114, 101, 101]), .agg [.lit (.int .i64 2), .lit (.int .i64 0), .lit (.int .i64 0)]], .agg [.lit (.string [119, 114, 105, 116, 101]), .agg [.lit (.int .i64 2), .lit (.int .i64 3), .lit (.int .i64 4)]], .agg [.lit (.string [108, 111, 97, 100]), .agg [.lit (.int .i64 2), .lit (.int .i64 3), .lit (.int .i64 0)]], .agg [.lit (.string [112, 117, 115, 104]), .agg [.lit (.int .i64 0), .lit (.int .i64 4), .lit (.int .i64 0)]], .agg [.lit (.string [112, 111, 112]), .agg [.lit (.int .i64 0), .lit (.int .i64 0), .lit (.int .i64 0)]], .agg [.lit (.string [101, 110, 113]), .agg [.lit (.int .i64 0), .lit (.int .i64 4), .lit (.int .i64 0)]], .agg [.lit (.string [100, 101, 113]), .agg [.lit (.int .i64 0), .lit (.int .i64 0), .lit (.int .i64 0)]], .agg [.lit (.string [99, 97, 115]), .agg [.lit (.int .i64 5), .lit (.int .i64 4), .lit (.int .i64 4)]], .agg [.lit (.string [115, 101, 101]), .agg [.lit (.int .i64 5), .lit (.int .i64 0), .lit (.int .i64 0)]], .agg [.lit (.string [115, 99, 97, 110]), .agg [.lit (.int .i64 0), .lit (.int .i64 0), .lit (.int .i64 0)]], .agg [.lit (.string [97, 100, 111, 112, 116]), .agg [.lit (.int .i64 7), .lit (.int .i64 0), .lit (.int .i64 0)]], .agg [.lit (.string [97, 115, 107]), .agg [.lit (.int .i64 6), .lit (.int .i64 8), .lit (.int .i64 0)]]]

/-- 'laws.FnExactCallFits': WHATEVER THE INPUT: true; the input reads as it did. -/
def fnExactCallFitsSpec : ChangeSpec := { name := "fnExactCallFits", vars := ["loop.example/g00650/impl.callRows"], fn := fun _ => fun
  | [d1, d2, d3, d4, d5, d6, g1] => { results := [.lit (.bool true)], args := [d1, d2, d3, d4, d5, d6], vars := [g1] }
  | _ => none }
def fnExactCallFitsRow : OpenClaim := { program := "ytooljeddnfkphaadoor", sum := "7e4002487cc0e3ff9ba8ed8fe84365518dbc6ffd4b48d6f6447bb00c26e3ab27", func := "loop.example/g00650/laws.FnExactCallFits", spec := "fnExactCallFits", named := ["loop.example/g00650/impl.callRows"], apart := false, laid := [("loop.example/g00650/impl.callRows", laid_loop_example_g00650_impl_callRows)] }
def FnExactCallFitsSaid : Prop := fnExactCallFitsRow.holds Tryd.pinned (OpenSpec.ofChange fnExactCallFitsSpec)

/-- ITS FALSE NEIGHBOUR: 'it returns false'. Refute it at one input. -/
def fnExactCallFitsWrong : ChangeSpec := { name := "fnExactCallFits", vars := ["loop.example/g00650/impl.callRows"], fn := fun _ => fun
  | [d1, d2, d3, d4, d5, d6, g1] => { results := [.lit (.bool false)], args := [d1, d2, d3, d4, d5, d6], vars := [g1] }
  | _ => none }
def FnExactCallFitsWrongFalsely : Prop := fnExactCallFitsRow.holds Tryd.pinned (OpenSpec.ofChange fnExactCallFitsWrong)

/-- 'laws.FnExactCalled': WHATEVER THE INPUT: true; the input reads as it did. -/
def fnExactCalledSpec : ChangeSpec := { name := "fnExactCalled", vars := ["loop.example/g00650/impl.callRows"], fn := fun _ => fun
  | [d1, d2, d3, d4, d5, d6, d7, g1] => { results := [.lit (.bool true)], args := [d1, d2, d3, d4, d5, d6, d7], vars := [g1] }
  | _ => none }
def fnExactCalledRow : OpenClaim := { program := "ytooljeddnfkphaadoor", sum := "7e4002487cc0e3ff9ba8ed8fe84365518dbc6ffd4b48d6f6447bb00c26e3ab27", func := "loop.example/g00650/laws.FnExactCalled", spec := "fnExactCalled", named := ["loop.example/g00650/impl.callRows"], apart := false, laid := [("loop.example/g00650/impl.callRows", laid_loop_example_g00650_impl_callRows)] }
def FnExactCalledSaid : Prop := fnExactCalledRow.holds Tryd.pinned (OpenSpec.ofChange fnExactCalledSpec)

/-- ITS FALSE NEIGHBOUR: 'it returns false'. Refute it at one input. -/
def fnExactCalledWrong : ChangeSpec := { name := "fnExactCalled", vars := ["loop.example/g00650/impl.callRows"], fn := fun _ => fun
  | [d1, d2, d3, d4, d5, d6, d7, g1] => { results := [.lit (.bool false)], args := [d1, d2, d3, d4, d5, d6, d7], vars := [g1] }
  | _ => none }
def FnExactCalledWrongFalsely : Prop := fnExactCalledRow.holds Tryd.pinned (OpenSpec.ofChange fnExactCalledWrong)

/-- 'laws.FnExactOpName': WHATEVER THE INPUT: true; the input reads as it did. -/
def fnExactOpNameSpec : ChangeSpec := { name := "fnExactOpName", vars := ["loop.example/g00650/impl.callRows"], fn := fun _ => fun
  | [d, g1] => { results := [.lit (.bool true)], args := [d], vars := [g1] }
  | _ => none }
def fnExactOpNameRow : OpenClaim := { program := "ytooljeddnfkphaadoor", sum := "7e4002487cc0e3ff9ba8ed8fe84365518dbc6ffd4b48d6f6447bb00c26e3ab27", func := "loop.example/g00650/laws.FnExactOpName", spec := "fnExactOpName", named := ["loop.example/g00650/impl.callRows"], apart := false, laid := [("loop.example/g00650/impl.callRows", laid_loop_example_g00650_impl_callRows)] }
def FnExactOpNameSaid : Prop := fnExactOpNameRow.holds Tryd.pinned (OpenSpec.ofChange fnExactOpNameSpec)

/-- ITS FALSE NEIGHBOUR: 'it returns false'. Refute it at one input. -/
def fnExactOpNameWrong : ChangeSpec := { name := "fnExactOpName", vars := ["loop.example/g00650/impl.callRows"], fn := fun _ => fun
  | [d, g1] => { results := [.lit (.bool false)], args := [d], vars := [g1] }
  | _ => none }
def FnExactOpNameWrongFalsely : Prop := fnExactOpNameRow.holds Tryd.pinned (OpenSpec.ofChange fnExactOpNameWrong)

/-- 'laws.FnExactArgsOf': WHATEVER THE INPUT: true; the input reads as it did. -/
def fnExactArgsOfSpec : ChangeSpec := { name := "fnExactArgsOf", vars := ["loop.example/g00650/impl.callRows"], fn := fun _ => fun
  | [d, g1] => { results := [.lit (.bool true)], args := [d], vars := [g1] }
  | _ => none }
def fnExactArgsOfRow : OpenClaim := { program := "ytooljeddnfkphaadoor", sum := "7e4002487cc0e3ff9ba8ed8fe84365518dbc6ffd4b48d6f6447bb00c26e3ab27", func := "loop.example/g00650/laws.FnExactArgsOf", spec := "fnExactArgsOf", named := ["loop.example/g00650/impl.callRows"], apart := false, laid := [("loop.example/g00650/impl.callRows", laid_loop_example_g00650_impl_callRows)] }
def FnExactArgsOfSaid : Prop := fnExactArgsOfRow.holds Tryd.pinned (OpenSpec.ofChange fnExactArgsOfSpec)

/-- ITS FALSE NEIGHBOUR: 'it returns false'. Refute it at one input. -/
def fnExactArgsOfWrong : ChangeSpec := { name := "fnExactArgsOf", vars := ["loop.example/g00650/impl.callRows"], fn := fun _ => fun
  | [d, g1] => { results := [.lit (.bool false)], args := [d], vars := [g1] }
  | _ => none }
def FnExactArgsOfWrongFalsely : Prop := fnExactArgsOfRow.holds Tryd.pinned (OpenSpec.ofChange fnExactArgsOfWrong)

/- THE SECOND FORM. 'bulk': how many values and letters a reading holds, each counted each time it is reached (what is shared counts as often as it is met; a slice's spare places count too). A statement '..UptoSaid' is the law's where the arguments, and the package variables that the reading takes, are together of bulk at most 1048576: NARROWER than '..Said'. Prove '..Said' where nothing that the law and all that it calls make is longer than what came in: it says more and counts as full. Else prove '..UptoSaid'. A law counts once. -/
mutual
def uptoBulk {H : Type} : DataW H → Nat
  | .lit (.string bytes) => bytes.length + 1
  | .lit _ => 1
  | .nil => 1
  | .ptr d => uptoBulk d + 1
  | .slice elems spare => uptoBulkAll elems + uptoBulkAll spare + 1
  | .agg parts => uptoBulkAll parts + 1
  | .iface _ d => uptoBulk d + 1
  | .map entries => uptoBulkEntries entries + 1
  | .held _ => 1
def uptoBulkAll {H : Type} : List (DataW H) → Nat
  | [] => 0
  | d :: r => uptoBulk d + uptoBulkAll r
def uptoBulkEntries {H : Type} : List (Lit × DataW H) → Nat
  | [] => 0
  | x :: r => uptoBulkEntry x + uptoBulkEntries r
def uptoBulkEntry {H : Type} : Lit × DataW H → Nat
  | (.string bytes, d) => bytes.length + uptoBulk d + 1
  | (_, d) => uptoBulk d + 1
 end
def uptoSmall : (H : Type) → List (DataW H) → Bool := fun _ ds => decide (uptoBulkAll ds ≤ 1048576)
def OpenSpec.upto (s : _root_.Go.ChangeSpec) : _root_.Go.OpenSpec := { _root_.Go.OpenSpec.ofChange s with cond := some uptoSmall }

/-- 'laws.FnExactCallFits', WHERE WHAT IT READS IS OF BULK AT MOST 1048576: true; the input reads as it did. -/
def fnExactCallFitsUptoRow : OpenClaim := { program := "ytooljeddnfkphaadoor", sum := "7e4002487cc0e3ff9ba8ed8fe84365518dbc6ffd4b48d6f6447bb00c26e3ab27", func := "loop.example/g00650/laws.FnExactCallFits", spec := "fnExactCallFits", named := ["loop.example/g00650/impl.callRows"], apart := false, laid := [("loop.example/g00650/impl.callRows", laid_loop_example_g00650_impl_callRows)], narrowed := true }
def FnExactCallFitsUptoSaid : Prop := fnExactCallFitsUptoRow.holds Tryd.pinned (OpenSpec.upto fnExactCallFitsSpec)

/-- 'laws.FnExactCalled', WHERE WHAT IT READS IS OF BULK AT MOST 1048576: true; the input reads as it did. -/
def fnExactCalledUptoRow : OpenClaim := { program := "ytooljeddnfkphaadoor", sum := "7e4002487cc0e3ff9ba8ed8fe84365518dbc6ffd4b48d6f6447bb00c26e3ab27", func := "loop.example/g00650/laws.FnExactCalled", spec := "fnExactCalled", named := ["loop.example/g00650/impl.callRows"], apart := false, laid := [("loop.example/g00650/impl.callRows", laid_loop_example_g00650_impl_callRows)], narrowed := true }
def FnExactCalledUptoSaid : Prop := fnExactCalledUptoRow.holds Tryd.pinned (OpenSpec.upto fnExactCalledSpec)

/-- 'laws.FnExactOpName', WHERE WHAT IT READS IS OF BULK AT MOST 1048576: true; the input reads as it did. -/
def fnExactOpNameUptoRow : OpenClaim := { program := "ytooljeddnfkphaadoor", sum := "7e4002487cc0e3ff9ba8ed8fe84365518dbc6ffd4b48d6f6447bb00c26e3ab27", func := "loop.example/g00650/laws.FnExactOpName", spec := "fnExactOpName", named := ["loop.example/g00650/impl.callRows"], apart := false, laid := [("loop.example/g00650/impl.callRows", laid_loop_example_g00650_impl_callRows)], narrowed := true }
def FnExactOpNameUptoSaid : Prop := fnExactOpNameUptoRow.holds Tryd.pinned (OpenSpec.upto fnExactOpNameSpec)

/-- 'laws.FnExactArgsOf', WHERE WHAT IT READS IS OF BULK AT MOST 1048576: true; the input reads as it did. -/
def fnExactArgsOfUptoRow : OpenClaim := { program := "ytooljeddnfkphaadoor", sum := "7e4002487cc0e3ff9ba8ed8fe84365518dbc6ffd4b48d6f6447bb00c26e3ab27", func := "loop.example/g00650/laws.FnExactArgsOf", spec := "fnExactArgsOf", named := ["loop.example/g00650/impl.callRows"], apart := false, laid := [("loop.example/g00650/impl.callRows", laid_loop_example_g00650_impl_callRows)], narrowed := true }
def FnExactArgsOfUptoSaid : Prop := fnExactArgsOfUptoRow.holds Tryd.pinned (OpenSpec.upto fnExactArgsOfSpec)

end Rows
end Go.Proofs.YtooljeddnfkphaaDoor
