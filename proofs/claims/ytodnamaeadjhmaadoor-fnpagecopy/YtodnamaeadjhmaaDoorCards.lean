/-
  DERIVED. GIVEN WITH THE SEED: THE CARDS: each row of YtodnamaeadjhmaaDoorRows.lean that lists a variable, with what it lists TIED to the program's text (the seventh form; the later family's looks); each row that meets fmt, with fmt's text TOLD by the authors' own Lean function (tested against real Go, not proved from fmt's source: count such statements apart). THE CARD IS WHAT COUNTS. Prove the row's statement (the work); the ties are given (YtodnamaeadjhmaaDoorTie.lean); close each card by the builder's one call (the guide's Derived/Test/ToyasCard.lean, 'card_holds'). Laid BY PROGRAM, IN A SANDBOX (cutbox-door.mjs). By AI agents, Wed Nov 11 2026. No macro, syntax, notation, axiom, sorry.
-/
import Derived.Test.YtodnamaeadjhmaaDoorRows
import GoSem.ClaimSeven
namespace Go.Proofs.YtodnamaeadjhmaaDoor
namespace Rows

/-- THE TIED CARD OF 'laws.FnPageText'. -/
def fnPageTextCard : Claim7 := { stood := { row := fnPageTextRow, standIns := [], harness := (true, "b1b68bcb6d7236dad0a2b42775a633d627122c0caf47788daf63c8eca05c89d3"), looks := false }, kinds := [], alts := [], laidByText := true, laidKinds := [.data, .data, .data], laidTests := true, laidLooks := .later }
def FnPageTextCardSaid : Prop := Claim7.holds Tryd.pinned (.plain (OpenSpec.ofChange fnPageTextSpec)) fnPageTextCard

/-- THE TIED CARD OF 'laws.FnPageCopy'. -/
def fnPageCopyCard : Claim7 := { stood := { row := fnPageCopyRow, standIns := [], harness := (true, "b1b68bcb6d7236dad0a2b42775a633d627122c0caf47788daf63c8eca05c89d3"), looks := false }, kinds := [], alts := [], laidByText := true, laidKinds := [.data, .data, .data], laidTests := true, laidLooks := .later }
def FnPageCopyCardSaid : Prop := Claim7.holds Tryd.pinned (.plain (OpenSpec.ofChange fnPageCopySpec)) fnPageCopyCard

/-- THE TIED CARD OF 'laws.FnExactPageText'. -/
def fnExactPageTextCard : Claim7 := { stood := { row := fnExactPageTextRow, standIns := [], harness := (true, "b1b68bcb6d7236dad0a2b42775a633d627122c0caf47788daf63c8eca05c89d3"), looks := false }, kinds := [], alts := [], laidByText := true, laidKinds := [.data, .data, .data], laidTests := true, laidLooks := .later }
def FnExactPageTextCardSaid : Prop := Claim7.holds Tryd.pinned (.plain (OpenSpec.ofChange fnExactPageTextSpec)) fnExactPageTextCard

/-- THE SECOND FORM's CARD OF 'laws.FnPageText'. -/
def fnPageTextUptoCard : Claim7 := { stood := { row := fnPageTextUptoRow, standIns := [], harness := (true, "b1b68bcb6d7236dad0a2b42775a633d627122c0caf47788daf63c8eca05c89d3"), looks := false }, kinds := [], alts := [], laidByText := true, laidKinds := [.data, .data, .data], laidTests := true, laidLooks := .later }
def FnPageTextUptoCardSaid : Prop := Claim7.holds Tryd.pinned (.plain (OpenSpec.upto fnPageTextSpec)) fnPageTextUptoCard

/-- THE SECOND FORM's CARD OF 'laws.FnPageCopy'. -/
def fnPageCopyUptoCard : Claim7 := { stood := { row := fnPageCopyUptoRow, standIns := [], harness := (true, "b1b68bcb6d7236dad0a2b42775a633d627122c0caf47788daf63c8eca05c89d3"), looks := false }, kinds := [], alts := [], laidByText := true, laidKinds := [.data, .data, .data], laidTests := true, laidLooks := .later }
def FnPageCopyUptoCardSaid : Prop := Claim7.holds Tryd.pinned (.plain (OpenSpec.upto fnPageCopySpec)) fnPageCopyUptoCard

/-- THE SECOND FORM's CARD OF 'laws.FnExactPageText'. -/
def fnExactPageTextUptoCard : Claim7 := { stood := { row := fnExactPageTextUptoRow, standIns := [], harness := (true, "b1b68bcb6d7236dad0a2b42775a633d627122c0caf47788daf63c8eca05c89d3"), looks := false }, kinds := [], alts := [], laidByText := true, laidKinds := [.data, .data, .data], laidTests := true, laidLooks := .later }
def FnExactPageTextUptoCardSaid : Prop := Claim7.holds Tryd.pinned (.plain (OpenSpec.upto fnExactPageTextSpec)) fnExactPageTextUptoCard
end Rows
end Go.Proofs.YtodnamaeadjhmaaDoor
