/-
  DERIVED. GIVEN WITH THE SEED: THE CARDS: each row of YtcahmiklcjlkmaaDoorRows.lean that lists a variable, with what it lists TIED to the program's text (the seventh form; the later family's looks); each row that meets fmt, with fmt's text TOLD by the authors' own Lean function (tested against real Go, not proved from fmt's source: count such statements apart). THE CARD IS WHAT COUNTS. Prove the row's statement (the work); the ties are given (YtcahmiklcjlkmaaDoorTie.lean); close each card by the builder's one call (the guide's Derived/Test/ToyasCard.lean, 'card_holds'). Laid BY PROGRAM, IN A SANDBOX (cutbox-door.mjs). By AI agents, Wed Nov 11 2026. No macro, syntax, notation, axiom, sorry.
-/
import Derived.Test.YtcahmiklcjlkmaaDoorRows
import GoSem.ClaimSeven
namespace Go.Proofs.YtcahmiklcjlkmaaDoor
namespace Rows

/-- THE TIED CARD OF 'laws.FnRecSame'. -/
def fnRecSameCard : Claim7 := { stood := { row := fnRecSameRow, standIns := [], harness := (true, "75ca3515d573face4cbbb4073bedcf161535611b9b541590c50719d33dcac0c0"), looks := false }, kinds := [], alts := [], laidByText := true, laidKinds := [.data, .data, .data, .data], laidTests := true, laidLooks := .later }
def FnRecSameCardSaid : Prop := Claim7.holds Tryd.pinned (.plain (OpenSpec.ofChange fnRecSameSpec)) fnRecSameCard

/-- THE TIED CARD OF 'laws.FnExactRecText'. -/
def fnExactRecTextCard : Claim7 := { stood := { row := fnExactRecTextRow, standIns := [], harness := (true, "75ca3515d573face4cbbb4073bedcf161535611b9b541590c50719d33dcac0c0"), looks := false }, kinds := [], alts := [], laidByText := true, laidKinds := [.data, .data, .data, .data], laidTests := true, laidLooks := .later }
def FnExactRecTextCardSaid : Prop := Claim7.holds Tryd.pinned (.plain (OpenSpec.ofChange fnExactRecTextSpec)) fnExactRecTextCard

/-- THE SECOND FORM's CARD OF 'laws.FnRecSame'. -/
def fnRecSameUptoCard : Claim7 := { stood := { row := fnRecSameUptoRow, standIns := [], harness := (true, "75ca3515d573face4cbbb4073bedcf161535611b9b541590c50719d33dcac0c0"), looks := false }, kinds := [], alts := [], laidByText := true, laidKinds := [.data, .data, .data, .data], laidTests := true, laidLooks := .later }
def FnRecSameUptoCardSaid : Prop := Claim7.holds Tryd.pinned (.plain (OpenSpec.upto fnRecSameSpec)) fnRecSameUptoCard

/-- THE SECOND FORM's CARD OF 'laws.FnExactRecText'. -/
def fnExactRecTextUptoCard : Claim7 := { stood := { row := fnExactRecTextUptoRow, standIns := [], harness := (true, "75ca3515d573face4cbbb4073bedcf161535611b9b541590c50719d33dcac0c0"), looks := false }, kinds := [], alts := [], laidByText := true, laidKinds := [.data, .data, .data, .data], laidTests := true, laidLooks := .later }
def FnExactRecTextUptoCardSaid : Prop := Claim7.holds Tryd.pinned (.plain (OpenSpec.upto fnExactRecTextSpec)) fnExactRecTextUptoCard
end Rows
end Go.Proofs.YtcahmiklcjlkmaaDoor
