/-
  DERIVED. GIVEN WITH THE SEED: THE CARDS: each row of YtooljeddnfkphaaDoorRows.lean that lists a variable, with what it lists TIED to the program's text (the seventh form; the later family's looks); each row that meets fmt, with fmt's text TOLD by the authors' own Lean function (tested against real Go, not proved from fmt's source: count such statements apart). THE CARD IS WHAT COUNTS. Prove the row's statement (the work); the ties are given (YtooljeddnfkphaaDoorTie.lean); close each card by the builder's one call (the guide's Derived/Test/ToyasCard.lean, 'card_holds'). Laid BY PROGRAM, IN A SANDBOX (cutbox-door.mjs). By AI agents, Wed Nov 11 2026. No macro, syntax, notation, axiom, sorry.
-/
import Derived.Test.YtooljeddnfkphaaDoorRows
import GoSem.ClaimSeven
namespace Go.Proofs.YtooljeddnfkphaaDoor
namespace Rows

/-- THE TIED CARD OF 'laws.FnExactCallFits'. -/
def fnExactCallFitsCard : Claim7 := { stood := { row := fnExactCallFitsRow, standIns := [], harness := (true, "3ddbba69d75453e8ebdcc82602b6e950f2dd2c885e3312f33a2f525e7fb05687"), looks := false }, kinds := [], alts := [], laidByText := true, laidKinds := [.data], laidTests := true, laidLooks := .later }
def FnExactCallFitsCardSaid : Prop := Claim7.holds Tryd.pinned (.plain (OpenSpec.ofChange fnExactCallFitsSpec)) fnExactCallFitsCard

/-- THE TIED CARD OF 'laws.FnExactCalled'. -/
def fnExactCalledCard : Claim7 := { stood := { row := fnExactCalledRow, standIns := [], harness := (true, "3ddbba69d75453e8ebdcc82602b6e950f2dd2c885e3312f33a2f525e7fb05687"), looks := false }, kinds := [], alts := [], laidByText := true, laidKinds := [.data], laidTests := true, laidLooks := .later }
def FnExactCalledCardSaid : Prop := Claim7.holds Tryd.pinned (.plain (OpenSpec.ofChange fnExactCalledSpec)) fnExactCalledCard

/-- THE TIED CARD OF 'laws.FnExactOpName'. -/
def fnExactOpNameCard : Claim7 := { stood := { row := fnExactOpNameRow, standIns := [], harness := (true, "3ddbba69d75453e8ebdcc82602b6e950f2dd2c885e3312f33a2f525e7fb05687"), looks := false }, kinds := [], alts := [], laidByText := true, laidKinds := [.data], laidTests := true, laidLooks := .later }
def FnExactOpNameCardSaid : Prop := Claim7.holds Tryd.pinned (.plain (OpenSpec.ofChange fnExactOpNameSpec)) fnExactOpNameCard

/-- THE TIED CARD OF 'laws.FnExactArgsOf'. -/
def fnExactArgsOfCard : Claim7 := { stood := { row := fnExactArgsOfRow, standIns := [], harness := (true, "3ddbba69d75453e8ebdcc82602b6e950f2dd2c885e3312f33a2f525e7fb05687"), looks := false }, kinds := [], alts := [], laidByText := true, laidKinds := [.data], laidTests := true, laidLooks := .later }
def FnExactArgsOfCardSaid : Prop := Claim7.holds Tryd.pinned (.plain (OpenSpec.ofChange fnExactArgsOfSpec)) fnExactArgsOfCard

/-- THE SECOND FORM's CARD OF 'laws.FnExactCallFits'. -/
def fnExactCallFitsUptoCard : Claim7 := { stood := { row := fnExactCallFitsUptoRow, standIns := [], harness := (true, "3ddbba69d75453e8ebdcc82602b6e950f2dd2c885e3312f33a2f525e7fb05687"), looks := false }, kinds := [], alts := [], laidByText := true, laidKinds := [.data], laidTests := true, laidLooks := .later }
def FnExactCallFitsUptoCardSaid : Prop := Claim7.holds Tryd.pinned (.plain (OpenSpec.upto fnExactCallFitsSpec)) fnExactCallFitsUptoCard

/-- THE SECOND FORM's CARD OF 'laws.FnExactCalled'. -/
def fnExactCalledUptoCard : Claim7 := { stood := { row := fnExactCalledUptoRow, standIns := [], harness := (true, "3ddbba69d75453e8ebdcc82602b6e950f2dd2c885e3312f33a2f525e7fb05687"), looks := false }, kinds := [], alts := [], laidByText := true, laidKinds := [.data], laidTests := true, laidLooks := .later }
def FnExactCalledUptoCardSaid : Prop := Claim7.holds Tryd.pinned (.plain (OpenSpec.upto fnExactCalledSpec)) fnExactCalledUptoCard

/-- THE SECOND FORM's CARD OF 'laws.FnExactOpName'. -/
def fnExactOpNameUptoCard : Claim7 := { stood := { row := fnExactOpNameUptoRow, standIns := [], harness := (true, "3ddbba69d75453e8ebdcc82602b6e950f2dd2c885e3312f33a2f525e7fb05687"), looks := false }, kinds := [], alts := [], laidByText := true, laidKinds := [.data], laidTests := true, laidLooks := .later }
def FnExactOpNameUptoCardSaid : Prop := Claim7.holds Tryd.pinned (.plain (OpenSpec.upto fnExactOpNameSpec)) fnExactOpNameUptoCard

/-- THE SECOND FORM's CARD OF 'laws.FnExactArgsOf'. -/
def fnExactArgsOfUptoCard : Claim7 := { stood := { row := fnExactArgsOfUptoRow, standIns := [], harness := (true, "3ddbba69d75453e8ebdcc82602b6e950f2dd2c885e3312f33a2f525e7fb05687"), looks := false }, kinds := [], alts := [], laidByText := true, laidKinds := [.data], laidTests := true, laidLooks := .later }
def FnExactArgsOfUptoCardSaid : Prop := Claim7.holds Tryd.pinned (.plain (OpenSpec.upto fnExactArgsOfSpec)) fnExactArgsOfUptoCard
end Rows
end Go.Proofs.YtooljeddnfkphaaDoor
