/-
  No cell of these rows narrows 'for every input' (looked for: loops, veiled, ifaces, maps, wideKeys, modest, calm, conditions, laid).
  DERIVED. THE GIVEN ROWS OF THIS SEAT. 7 by the template 'for every input the law returns true; each argument reads behind the call as it read before'; 0 by the template 'total and deterministic' (their statements: YtmldeigbaafclaaTotals.lean).
  GIVEN WITH THE SEED: the statements are not yours to turn. If you find one false, say at which input.
  Laid BY PROGRAM, IN A SANDBOX (cutbox-rows.mjs): the forced cells as the released guide's own fill.sh prints them over the translation 2bd3e696a7e9278c… (all of the seat's roots in one cut). By AI agents, Wed Nov 11 2026. No macro, syntax, notation, axiom, sorry.
-/
import Derived.Test.YtmldeigbaafclaaChecked
import GoSem.Claim
import GoSem.ClaimJoined
import GoSem.ClaimMapViews
import Derived.JoinedTies
import Derived.KernelRfl
namespace Go.Proofs.Ytmldeigbaafclaa
/- THE CELL 'sum', in the pinned program and in every row, IS THE sha256 OF THE DUMP (.gsa) THAT YtmldeigbaafclaaProg.lean LOADS. Nothing in Lean hashes anything: it is a label: what it is worth is what the hold of that sum in a sandbox is worth. -/
noncomputable def Try.pinned : Pinned := { name := "ytmldeigbaafclaa", sum := "2bd3e696a7e9278cc6930a0394b86ef3c1b0d1430f72e367cdfff0dda338c267", checked := Try.checked }
namespace Rows
def none {H : Type} : Left H := { results := [], args := [] }

/-- 'laws.FnBlank': WHATEVER THE INPUT: true; the input reads as it did. -/
def fnBlankSpec : ChangeSpec := { name := "fnBlank", fn := fun _ => fun
  | [d] => { results := [.lit (.bool true)], args := [d] }
  | _ => none }
def fnBlankRow : OpenClaim := { program := "ytmldeigbaafclaa", sum := "2bd3e696a7e9278cc6930a0394b86ef3c1b0d1430f72e367cdfff0dda338c267", func := "loop.example/g00650/laws.FnBlank", spec := "fnBlank", unfollowed := true, recurses := true, apart := false }
def FnBlankSaid : Prop := fnBlankRow.holds Try.pinned (OpenSpec.ofChange fnBlankSpec)

/-- ITS FALSE NEIGHBOUR: 'it returns false'. Refute it at one input. -/
def fnBlankWrong : ChangeSpec := { name := "fnBlank", fn := fun _ => fun
  | [d] => { results := [.lit (.bool false)], args := [d] }
  | _ => none }
def FnBlankWrongFalsely : Prop := fnBlankRow.holds Try.pinned (OpenSpec.ofChange fnBlankWrong)

/-- 'laws.FnExactFreeIn': WHATEVER THE INPUT: true; the input reads as it did. -/
def fnExactFreeInSpec : ChangeSpec := { name := "fnExactFreeIn", fn := fun _ => fun
  | [d1, d2, d3] => { results := [.lit (.bool true)], args := [d1, d2, d3] }
  | _ => none }
def fnExactFreeInRow : OpenClaim := { program := "ytmldeigbaafclaa", sum := "2bd3e696a7e9278cc6930a0394b86ef3c1b0d1430f72e367cdfff0dda338c267", func := "loop.example/g00650/laws.FnExactFreeIn", spec := "fnExactFreeIn", unfollowed := true, recurses := true, apart := false }
def FnExactFreeInSaid : Prop := fnExactFreeInRow.holds Try.pinned (OpenSpec.ofChange fnExactFreeInSpec)

/-- ITS FALSE NEIGHBOUR: 'it returns false'. Refute it at one input. -/
def fnExactFreeInWrong : ChangeSpec := { name := "fnExactFreeIn", fn := fun _ => fun
  | [d1, d2, d3] => { results := [.lit (.bool false)], args := [d1, d2, d3] }
  | _ => none }
def FnExactFreeInWrongFalsely : Prop := fnExactFreeInRow.holds Try.pinned (OpenSpec.ofChange fnExactFreeInWrong)

/-- 'laws.FnExactStackNodes': WHATEVER THE INPUT: true; the input reads as it did. -/
def fnExactStackNodesSpec : ChangeSpec := { name := "fnExactStackNodes", fn := fun _ => fun
  | [d1, d2] => { results := [.lit (.bool true)], args := [d1, d2] }
  | _ => none }
def fnExactStackNodesRow : OpenClaim := { program := "ytmldeigbaafclaa", sum := "2bd3e696a7e9278cc6930a0394b86ef3c1b0d1430f72e367cdfff0dda338c267", func := "loop.example/g00650/laws.FnExactStackNodes", spec := "fnExactStackNodes", unfollowed := true, recurses := true, apart := false }
def FnExactStackNodesSaid : Prop := fnExactStackNodesRow.holds Try.pinned (OpenSpec.ofChange fnExactStackNodesSpec)

/-- ITS FALSE NEIGHBOUR: 'it returns false'. Refute it at one input. -/
def fnExactStackNodesWrong : ChangeSpec := { name := "fnExactStackNodes", fn := fun _ => fun
  | [d1, d2] => { results := [.lit (.bool false)], args := [d1, d2] }
  | _ => none }
def FnExactStackNodesWrongFalsely : Prop := fnExactStackNodesRow.holds Try.pinned (OpenSpec.ofChange fnExactStackNodesWrong)

/-- 'laws.FnExactLineNodes': WHATEVER THE INPUT: true; the input reads as it did. -/
def fnExactLineNodesSpec : ChangeSpec := { name := "fnExactLineNodes", fn := fun _ => fun
  | [d1, d2] => { results := [.lit (.bool true)], args := [d1, d2] }
  | _ => none }
def fnExactLineNodesRow : OpenClaim := { program := "ytmldeigbaafclaa", sum := "2bd3e696a7e9278cc6930a0394b86ef3c1b0d1430f72e367cdfff0dda338c267", func := "loop.example/g00650/laws.FnExactLineNodes", spec := "fnExactLineNodes", unfollowed := true, recurses := true, apart := false }
def FnExactLineNodesSaid : Prop := fnExactLineNodesRow.holds Try.pinned (OpenSpec.ofChange fnExactLineNodesSpec)

/-- ITS FALSE NEIGHBOUR: 'it returns false'. Refute it at one input. -/
def fnExactLineNodesWrong : ChangeSpec := { name := "fnExactLineNodes", fn := fun _ => fun
  | [d1, d2] => { results := [.lit (.bool false)], args := [d1, d2] }
  | _ => none }
def FnExactLineNodesWrongFalsely : Prop := fnExactLineNodesRow.holds Try.pinned (OpenSpec.ofChange fnExactLineNodesWrong)

/-- 'laws.FnExactStackOf': WHATEVER THE INPUT: true; the input reads as it did. -/
def fnExactStackOfSpec : ChangeSpec := { name := "fnExactStackOf", fn := fun _ => fun
  | [d1, d2] => { results := [.lit (.bool true)], args := [d1, d2] }
  | _ => none }
def fnExactStackOfRow : OpenClaim := { program := "ytmldeigbaafclaa", sum := "2bd3e696a7e9278cc6930a0394b86ef3c1b0d1430f72e367cdfff0dda338c267", func := "loop.example/g00650/laws.FnExactStackOf", spec := "fnExactStackOf", unfollowed := true, recurses := true, apart := false }
def FnExactStackOfSaid : Prop := fnExactStackOfRow.holds Try.pinned (OpenSpec.ofChange fnExactStackOfSpec)

/-- ITS FALSE NEIGHBOUR: 'it returns false'. Refute it at one input. -/
def fnExactStackOfWrong : ChangeSpec := { name := "fnExactStackOf", fn := fun _ => fun
  | [d1, d2] => { results := [.lit (.bool false)], args := [d1, d2] }
  | _ => none }
def FnExactStackOfWrongFalsely : Prop := fnExactStackOfRow.holds Try.pinned (OpenSpec.ofChange fnExactStackOfWrong)

/-- 'laws.FnExactLineOf': WHATEVER THE INPUT: true; the input reads as it did. -/
def fnExactLineOfSpec : ChangeSpec := { name := "fnExactLineOf", fn := fun _ => fun
  | [d1, d2] => { results := [.lit (.bool true)], args := [d1, d2] }
  | _ => none }
def fnExactLineOfRow : OpenClaim := { program := "ytmldeigbaafclaa", sum := "2bd3e696a7e9278cc6930a0394b86ef3c1b0d1430f72e367cdfff0dda338c267", func := "loop.example/g00650/laws.FnExactLineOf", spec := "fnExactLineOf", unfollowed := true, recurses := true, apart := false }
def FnExactLineOfSaid : Prop := fnExactLineOfRow.holds Try.pinned (OpenSpec.ofChange fnExactLineOfSpec)

/-- ITS FALSE NEIGHBOUR: 'it returns false'. Refute it at one input. -/
def fnExactLineOfWrong : ChangeSpec := { name := "fnExactLineOf", fn := fun _ => fun
  | [d1, d2] => { results := [.lit (.bool false)], args := [d1, d2] }
  | _ => none }
def FnExactLineOfWrongFalsely : Prop := fnExactLineOfRow.holds Try.pinned (OpenSpec.ofChange fnExactLineOfWrong)

/-- 'laws.FnExactCellsOf': WHATEVER THE INPUT: true; the input reads as it did. -/
def fnExactCellsOfSpec : ChangeSpec := { name := "fnExactCellsOf", fn := fun _ => fun
  | [d1, d2] => { results := [.lit (.bool true)], args := [d1, d2] }
  | _ => none }
def fnExactCellsOfRow : OpenClaim := { program := "ytmldeigbaafclaa", sum := "2bd3e696a7e9278cc6930a0394b86ef3c1b0d1430f72e367cdfff0dda338c267", func := "loop.example/g00650/laws.FnExactCellsOf", spec := "fnExactCellsOf", apart := false }
def FnExactCellsOfSaid : Prop := fnExactCellsOfRow.holds Try.pinned (OpenSpec.ofChange fnExactCellsOfSpec)

/-- ITS FALSE NEIGHBOUR: 'it returns false'. Refute it at one input. -/
def fnExactCellsOfWrong : ChangeSpec := { name := "fnExactCellsOf", fn := fun _ => fun
  | [d1, d2] => { results := [.lit (.bool false)], args := [d1, d2] }
  | _ => none }
def FnExactCellsOfWrongFalsely : Prop := fnExactCellsOfRow.holds Try.pinned (OpenSpec.ofChange fnExactCellsOfWrong)

/- THE SECOND FORM. 'bulk': how many values and letters a reading holds, each counted each time it is reached (what is shared counts as often as it is met; a slice's spare places count too). A statement '..UptoSaid' is the law's where the arguments, and the package variables that the reading takes, are together of bulk at most 1048576: NARROWER than '..Said'. Prove '..Said' where nothing that the law and all that it calls make is longer than what came in: it says more and counts as full. Else prove '..UptoSaid'. A law counts once. -/
mutual
def uptoBulk {H : Type} : DataW H → Nat
  | .lit (.string bytes) => bytes.length + 1
  | .lit _ => 1
  | .nil => 1
  | .ptr d => uptoBulk d + 1
  | .slice elems spare => uptoBulkAll elems + uptoBulkAll spare + 1
  | .agg parts => uptoBulkAll parts + 1
  | .iface _ d => uptoBulk d + 1
  | .map entries => uptoBulkEntries entries + 1
  | .held _ => 1
def uptoBulkAll {H : Type} : List (DataW H) → Nat
  | [] => 0
  | d :: r => uptoBulk d + uptoBulkAll r
def uptoBulkEntries {H : Type} : List (Lit × DataW H) → Nat
  | [] => 0
  | x :: r => uptoBulkEntry x + uptoBulkEntries r
def uptoBulkEntry {H : Type} : Lit × DataW H → Nat
  | (.string bytes, d) => bytes.length + uptoBulk d + 1
  | (_, d) => uptoBulk d + 1
 end
def uptoSmall : (H : Type) → List (DataW H) → Bool := fun _ ds => decide (uptoBulkAll ds ≤ 1048576)
def OpenSpec.upto (s : _root_.Go.ChangeSpec) : _root_.Go.OpenSpec := { _root_.Go.OpenSpec.ofChange s with cond := some uptoSmall }

/-- 'laws.FnBlank', WHERE WHAT IT READS IS OF BULK AT MOST 1048576: true; the input reads as it did. -/
def fnBlankUptoRow : OpenClaim := { program := "ytmldeigbaafclaa", sum := "2bd3e696a7e9278cc6930a0394b86ef3c1b0d1430f72e367cdfff0dda338c267", func := "loop.example/g00650/laws.FnBlank", spec := "fnBlank", unfollowed := true, recurses := true, apart := false, narrowed := true }
def FnBlankUptoSaid : Prop := fnBlankUptoRow.holds Try.pinned (OpenSpec.upto fnBlankSpec)

/-- 'laws.FnExactFreeIn', WHERE WHAT IT READS IS OF BULK AT MOST 1048576: true; the input reads as it did. -/
def fnExactFreeInUptoRow : OpenClaim := { program := "ytmldeigbaafclaa", sum := "2bd3e696a7e9278cc6930a0394b86ef3c1b0d1430f72e367cdfff0dda338c267", func := "loop.example/g00650/laws.FnExactFreeIn", spec := "fnExactFreeIn", unfollowed := true, recurses := true, apart := false, narrowed := true }
def FnExactFreeInUptoSaid : Prop := fnExactFreeInUptoRow.holds Try.pinned (OpenSpec.upto fnExactFreeInSpec)

/-- 'laws.FnExactStackNodes', WHERE WHAT IT READS IS OF BULK AT MOST 1048576: true; the input reads as it did. -/
def fnExactStackNodesUptoRow : OpenClaim := { program := "ytmldeigbaafclaa", sum := "2bd3e696a7e9278cc6930a0394b86ef3c1b0d1430f72e367cdfff0dda338c267", func := "loop.example/g00650/laws.FnExactStackNodes", spec := "fnExactStackNodes", unfollowed := true, recurses := true, apart := false, narrowed := true }
def FnExactStackNodesUptoSaid : Prop := fnExactStackNodesUptoRow.holds Try.pinned (OpenSpec.upto fnExactStackNodesSpec)

/-- 'laws.FnExactLineNodes', WHERE WHAT IT READS IS OF BULK AT MOST 1048576: true; the input reads as it did. -/
def fnExactLineNodesUptoRow : OpenClaim := { program := "ytmldeigbaafclaa", sum := "2bd3e696a7e9278cc6930a0394b86ef3c1b0d1430f72e367cdfff0dda338c267", func := "loop.example/g00650/laws.FnExactLineNodes", spec := "fnExactLineNodes", unfollowed := true, recurses := true, apart := false, narrowed := true }
def FnExactLineNodesUptoSaid : Prop := fnExactLineNodesUptoRow.holds Try.pinned (OpenSpec.upto fnExactLineNodesSpec)

/-- 'laws.FnExactStackOf', WHERE WHAT IT READS IS OF BULK AT MOST 1048576: true; the input reads as it did. -/
def fnExactStackOfUptoRow : OpenClaim := { program := "ytmldeigbaafclaa", sum := "2bd3e696a7e9278cc6930a0394b86ef3c1b0d1430f72e367cdfff0dda338c267", func := "loop.example/g00650/laws.FnExactStackOf", spec := "fnExactStackOf", unfollowed := true, recurses := true, apart := false, narrowed := true }
def FnExactStackOfUptoSaid : Prop := fnExactStackOfUptoRow.holds Try.pinned (OpenSpec.upto fnExactStackOfSpec)

/-- 'laws.FnExactLineOf', WHERE WHAT IT READS IS OF BULK AT MOST 1048576: true; the input reads as it did. -/
def fnExactLineOfUptoRow : OpenClaim := { program := "ytmldeigbaafclaa", sum := "2bd3e696a7e9278cc6930a0394b86ef3c1b0d1430f72e367cdfff0dda338c267", func := "loop.example/g00650/laws.FnExactLineOf", spec := "fnExactLineOf", unfollowed := true, recurses := true, apart := false, narrowed := true }
def FnExactLineOfUptoSaid : Prop := fnExactLineOfUptoRow.holds Try.pinned (OpenSpec.upto fnExactLineOfSpec)

/-- 'laws.FnExactCellsOf', WHERE WHAT IT READS IS OF BULK AT MOST 1048576: true; the input reads as it did. -/
def fnExactCellsOfUptoRow : OpenClaim := { program := "ytmldeigbaafclaa", sum := "2bd3e696a7e9278cc6930a0394b86ef3c1b0d1430f72e367cdfff0dda338c267", func := "loop.example/g00650/laws.FnExactCellsOf", spec := "fnExactCellsOf", apart := false, narrowed := true }
def FnExactCellsOfUptoSaid : Prop := fnExactCellsOfUptoRow.holds Try.pinned (OpenSpec.upto fnExactCellsOfSpec)

end Rows
end Go.Proofs.Ytmldeigbaafclaa
