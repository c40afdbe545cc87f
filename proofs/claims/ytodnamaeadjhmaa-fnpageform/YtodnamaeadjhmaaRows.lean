/-
  No cell of these rows narrows 'for every input' (looked for: loops, veiled, ifaces, maps, wideKeys, modest, calm, conditions, laid).
  DERIVED. THE GIVEN ROWS OF THIS SEAT. 5 by the template 'for every input the law returns true; each argument reads behind the call as it read before'; 0 by the template 'total and deterministic' (their statements: YtodnamaeadjhmaaTotals.lean).
  GIVEN WITH THE SEED: the statements are not yours to turn. If you find one false, say at which input.
  Laid BY PROGRAM, IN A SANDBOX (cutbox-rows.mjs): the forced cells as the released guide's own fill.sh prints them over the translation b7d206f4daef4d59… (all of the seat's roots in one cut). By AI agents, Wed Nov 11 2026. No macro, syntax, notation, axiom, sorry.
-/
import Derived.Test.YtodnamaeadjhmaaChecked
import GoSem.Claim
import GoSem.ClaimJoined
import GoSem.ClaimMapViews
import Derived.JoinedTies
import Derived.KernelRfl
namespace Go.Proofs.Ytodnamaeadjhmaa
/- THE CELL 'sum', in the pinned program and in every row, IS THE sha256 OF THE DUMP (.gsa) THAT YtodnamaeadjhmaaProg.lean LOADS. Nothing in Lean hashes anything: it is a label: what it is worth is what the hold of that sum in a sandbox is worth. -/
noncomputable def Try.pinned : Pinned := { name := "ytodnamaeadjhmaa", sum := "b7d206f4daef4d59301141f4f4c8beaac11a405db82b36406e53eec709d926aa", checked := Try.checked }
namespace Rows
def none {H : Type} : Left H := { results := [], args := [] }

/-- 'laws.FnPageForm': WHATEVER THE INPUT: true; the input reads as it did. -/
def fnPageFormSpec : ChangeSpec := { name := "fnPageForm", fn := fun _ => fun
  | [d1, d2] => { results := [.lit (.bool true)], args := [d1, d2] }
  | _ => none }
def fnPageFormRow : OpenClaim := { program := "ytodnamaeadjhmaa", sum := "b7d206f4daef4d59301141f4f4c8beaac11a405db82b36406e53eec709d926aa", func := "loop.example/tabularium/laws.FnPageForm", spec := "fnPageForm", apart := false }
def FnPageFormSaid : Prop := fnPageFormRow.holds Try.pinned (OpenSpec.ofChange fnPageFormSpec)

/-- ITS FALSE NEIGHBOUR: 'it returns false'. Refute it at one input. -/
def fnPageFormWrong : ChangeSpec := { name := "fnPageForm", fn := fun _ => fun
  | [d1, d2] => { results := [.lit (.bool false)], args := [d1, d2] }
  | _ => none }
def FnPageFormWrongFalsely : Prop := fnPageFormRow.holds Try.pinned (OpenSpec.ofChange fnPageFormWrong)

/-- 'laws.FnPageEmpty': WHATEVER THE INPUT: true; the input reads as it did. -/
def fnPageEmptySpec : ChangeSpec := { name := "fnPageEmpty", fn := fun _ => fun
  | [d] => { results := [.lit (.bool true)], args := [d] }
  | _ => none }
def fnPageEmptyRow : OpenClaim := { program := "ytodnamaeadjhmaa", sum := "b7d206f4daef4d59301141f4f4c8beaac11a405db82b36406e53eec709d926aa", func := "loop.example/tabularium/laws.FnPageEmpty", spec := "fnPageEmpty", apart := false }
def FnPageEmptySaid : Prop := fnPageEmptyRow.holds Try.pinned (OpenSpec.ofChange fnPageEmptySpec)

/-- ITS FALSE NEIGHBOUR: 'it returns false'. Refute it at one input. -/
def fnPageEmptyWrong : ChangeSpec := { name := "fnPageEmpty", fn := fun _ => fun
  | [d] => { results := [.lit (.bool false)], args := [d] }
  | _ => none }
def FnPageEmptyWrongFalsely : Prop := fnPageEmptyRow.holds Try.pinned (OpenSpec.ofChange fnPageEmptyWrong)

/-- 'laws.FnExactPageNew': WHATEVER THE INPUT: true; the input reads as it did. -/
def fnExactPageNewSpec : ChangeSpec := { name := "fnExactPageNew", fn := fun _ => fun
  | [] => { results := [.lit (.bool true)], args := [] }
  | _ => none }
def fnExactPageNewRow : OpenClaim := { program := "ytodnamaeadjhmaa", sum := "b7d206f4daef4d59301141f4f4c8beaac11a405db82b36406e53eec709d926aa", func := "loop.example/tabularium/laws.FnExactPageNew", spec := "fnExactPageNew", apart := false }
def FnExactPageNewSaid : Prop := fnExactPageNewRow.holds Try.pinned (OpenSpec.ofChange fnExactPageNewSpec)

/-- ITS FALSE NEIGHBOUR: 'it returns false'. Refute it at one input. -/
def fnExactPageNewWrong : ChangeSpec := { name := "fnExactPageNew", fn := fun _ => fun
  | [] => { results := [.lit (.bool false)], args := [] }
  | _ => none }
def FnExactPageNewWrongFalsely : Prop := fnExactPageNewRow.holds Try.pinned (OpenSpec.ofChange fnExactPageNewWrong)

/-- 'laws.FnExactPageOk': WHATEVER THE INPUT: true; the input reads as it did. -/
def fnExactPageOkSpec : ChangeSpec := { name := "fnExactPageOk", fn := fun _ => fun
  | [d] => { results := [.lit (.bool true)], args := [d] }
  | _ => none }
def fnExactPageOkRow : OpenClaim := { program := "ytodnamaeadjhmaa", sum := "b7d206f4daef4d59301141f4f4c8beaac11a405db82b36406e53eec709d926aa", func := "loop.example/tabularium/laws.FnExactPageOk", spec := "fnExactPageOk", apart := false }
def FnExactPageOkSaid : Prop := fnExactPageOkRow.holds Try.pinned (OpenSpec.ofChange fnExactPageOkSpec)

/-- ITS FALSE NEIGHBOUR: 'it returns false'. Refute it at one input. -/
def fnExactPageOkWrong : ChangeSpec := { name := "fnExactPageOk", fn := fun _ => fun
  | [d] => { results := [.lit (.bool false)], args := [d] }
  | _ => none }
def FnExactPageOkWrongFalsely : Prop := fnExactPageOkRow.holds Try.pinned (OpenSpec.ofChange fnExactPageOkWrong)

/-- 'laws.FnExactPageEmpty': WHATEVER THE INPUT: true; the input reads as it did. -/
def fnExactPageEmptySpec : ChangeSpec := { name := "fnExactPageEmpty", fn := fun _ => fun
  | [d] => { results := [.lit (.bool true)], args := [d] }
  | _ => none }
def fnExactPageEmptyRow : OpenClaim := { program := "ytodnamaeadjhmaa", sum := "b7d206f4daef4d59301141f4f4c8beaac11a405db82b36406e53eec709d926aa", func := "loop.example/tabularium/laws.FnExactPageEmpty", spec := "fnExactPageEmpty", apart := false }
def FnExactPageEmptySaid : Prop := fnExactPageEmptyRow.holds Try.pinned (OpenSpec.ofChange fnExactPageEmptySpec)

/-- ITS FALSE NEIGHBOUR: 'it returns false'. Refute it at one input. -/
def fnExactPageEmptyWrong : ChangeSpec := { name := "fnExactPageEmpty", fn := fun _ => fun
  | [d] => { results := [.lit (.bool false)], args := [d] }
  | _ => none }
def FnExactPageEmptyWrongFalsely : Prop := fnExactPageEmptyRow.holds Try.pinned (OpenSpec.ofChange fnExactPageEmptyWrong)

/- THE SECOND FORM. 'bulk': how many values and letters a reading holds, each counted each time it is reached (what is shared counts as often as it is met; a slice's spare places count too). A statement '..UptoSaid' is the law's where the arguments, and the package variables that the reading takes, are together of bulk at most 1048576: NARROWER than '..Said'. Prove '..Said' where nothing that the law and all that it calls make is longer than what came in: it says more and counts as full. Else prove '..UptoSaid'. A law counts once. -/
mutual
def uptoBulk {H : Type} : DataW H → Nat
  | .lit (.string bytes) => bytes.length + 1
  | .lit _ => 1
  | .nil => 1
  | .ptr d => uptoBulk d + 1
  | .slice elems spare => uptoBulkAll elems + uptoBulkAll spare + 1
  | .agg parts => uptoBulkAll parts + 1
  | .iface _ d => uptoBulk d + 1
  | .map entries => uptoBulkEntries entries + 1
  | .held _ => 1
def uptoBulkAll {H : Type} : List (DataW H) → Nat
  | [] => 0
  | d :: r => uptoBulk d + uptoBulkAll r
def uptoBulkEntries {H : Type} : List (Lit × DataW H) → Nat
  | [] => 0
  | x :: r => uptoBulkEntry x + uptoBulkEntries r
def uptoBulkEntry {H : Type} : Lit × DataW H → Nat
  | (.string bytes, d) => bytes.length + uptoBulk d + 1
  | (_, d) => uptoBulk d + 1
 end
def uptoSmall : (H : Type) → List (DataW H) → Bool := fun _ ds => decide (uptoBulkAll ds ≤ 1048576)
def OpenSpec.upto (s : _root_.Go.ChangeSpec) : _root_.Go.OpenSpec := { _root_.Go.OpenSpec.ofChange s with cond := some uptoSmall }

/-- 'laws.FnPageForm', WHERE WHAT IT READS IS OF BULK AT MOST 1048576: true; the input reads as it did. -/
def fnPageFormUptoRow : OpenClaim := { program := "ytodnamaeadjhmaa", sum := "b7d206f4daef4d59301141f4f4c8beaac11a405db82b36406e53eec709d926aa", func := "loop.example/tabularium/laws.FnPageForm", spec := "fnPageForm", apart := false, narrowed := true }
def FnPageFormUptoSaid : Prop := fnPageFormUptoRow.holds Try.pinned (OpenSpec.upto fnPageFormSpec)

/-- 'laws.FnPageEmpty', WHERE WHAT IT READS IS OF BULK AT MOST 1048576: true; the input reads as it did. -/
def fnPageEmptyUptoRow : OpenClaim := { program := "ytodnamaeadjhmaa", sum := "b7d206f4daef4d59301141f4f4c8beaac11a405db82b36406e53eec709d926aa", func := "loop.example/tabularium/laws.FnPageEmpty", spec := "fnPageEmpty", apart := false, narrowed := true }
def FnPageEmptyUptoSaid : Prop := fnPageEmptyUptoRow.holds Try.pinned (OpenSpec.upto fnPageEmptySpec)

/-- 'laws.FnExactPageNew', WHERE WHAT IT READS IS OF BULK AT MOST 1048576: true; the input reads as it did. -/
def fnExactPageNewUptoRow : OpenClaim := { program := "ytodnamaeadjhmaa", sum := "b7d206f4daef4d59301141f4f4c8beaac11a405db82b36406e53eec709d926aa", func := "loop.example/tabularium/laws.FnExactPageNew", spec := "fnExactPageNew", apart := false, narrowed := true }
def FnExactPageNewUptoSaid : Prop := fnExactPageNewUptoRow.holds Try.pinned (OpenSpec.upto fnExactPageNewSpec)

/-- 'laws.FnExactPageOk', WHERE WHAT IT READS IS OF BULK AT MOST 1048576: true; the input reads as it did. -/
def fnExactPageOkUptoRow : OpenClaim := { program := "ytodnamaeadjhmaa", sum := "b7d206f4daef4d59301141f4f4c8beaac11a405db82b36406e53eec709d926aa", func := "loop.example/tabularium/laws.FnExactPageOk", spec := "fnExactPageOk", apart := false, narrowed := true }
def FnExactPageOkUptoSaid : Prop := fnExactPageOkUptoRow.holds Try.pinned (OpenSpec.upto fnExactPageOkSpec)

/-- 'laws.FnExactPageEmpty', WHERE WHAT IT READS IS OF BULK AT MOST 1048576: true; the input reads as it did. -/
def fnExactPageEmptyUptoRow : OpenClaim := { program := "ytodnamaeadjhmaa", sum := "b7d206f4daef4d59301141f4f4c8beaac11a405db82b36406e53eec709d926aa", func := "loop.example/tabularium/laws.FnExactPageEmpty", spec := "fnExactPageEmpty", apart := false, narrowed := true }
def FnExactPageEmptyUptoSaid : Prop := fnExactPageEmptyUptoRow.holds Try.pinned (OpenSpec.upto fnExactPageEmptySpec)

end Rows
end Go.Proofs.Ytodnamaeadjhmaa
