/-
  No cell of these rows narrows 'for every input' (looked for: loops, veiled, ifaces, maps, wideKeys, modest, calm, conditions, laid).
  DERIVED. THE GIVEN ROWS OF THIS SEAT. 8 by the template 'for every input the law returns true; each argument reads behind the call as it read before'; 0 by the template 'total and deterministic' (their statements: YtloglnekjhgfgaaTotals.lean).
  GIVEN WITH THE SEED: the statements are not yours to turn. If you find one false, say at which input.
  Laid BY PROGRAM, IN A SANDBOX (cutbox-rows.mjs): the forced cells as the released guide's own fill.sh prints them over the translation 2502fd2e783cc75a… (all of the seat's roots in one cut). By AI agents, Wed Nov 11 2026. No macro, syntax, notation, axiom, sorry.
-/
import Derived.Test.YtloglnekjhgfgaaChecked
import GoSem.Claim
import GoSem.ClaimJoined
import GoSem.ClaimMapViews
import Derived.JoinedTies
import Derived.KernelRfl
namespace Go.Proofs.Ytloglnekjhgfgaa
/- THE CELL 'sum', in the pinned program and in every row, IS THE sha256 OF THE DUMP (.gsa) THAT YtloglnekjhgfgaaProg.lean LOADS. Nothing in Lean hashes anything: it is a label: what it is worth is what the hold of that sum in a sandbox is worth. -/
noncomputable def Try.pinned : Pinned := { name := "ytloglnekjhgfgaa", sum := "2502fd2e783cc75a174fece4d22948e598fc8811e6aa9d337a5b000ad0635bdb", checked := Try.checked }
namespace Rows
def none {H : Type} : Left H := { results := [], args := [] }

/-- 'laws.FnRecForm': WHATEVER THE INPUT: true; the input reads as it did. -/
def fnRecFormSpec : ChangeSpec := { name := "fnRecForm", fn := fun _ => fun
  | [d] => { results := [.lit (.bool true)], args := [d] }
  | _ => none }
def fnRecFormRow : OpenClaim := { program := "ytloglnekjhgfgaa", sum := "2502fd2e783cc75a174fece4d22948e598fc8811e6aa9d337a5b000ad0635bdb", func := "loop.example/tabularium/laws.FnRecForm", spec := "fnRecForm", unfollowed := true, recurses := true, apart := false }
def FnRecFormSaid : Prop := fnRecFormRow.holds Try.pinned (OpenSpec.ofChange fnRecFormSpec)

/-- ITS FALSE NEIGHBOUR: 'it returns false'. Refute it at one input. -/
def fnRecFormWrong : ChangeSpec := { name := "fnRecForm", fn := fun _ => fun
  | [d] => { results := [.lit (.bool false)], args := [d] }
  | _ => none }
def FnRecFormWrongFalsely : Prop := fnRecFormRow.holds Try.pinned (OpenSpec.ofChange fnRecFormWrong)

/-- 'laws.FnRecDo': WHATEVER THE INPUT: true; the input reads as it did. -/
def fnRecDoSpec : ChangeSpec := { name := "fnRecDo", fn := fun _ => fun
  | [d] => { results := [.lit (.bool true)], args := [d] }
  | _ => none }
def fnRecDoRow : OpenClaim := { program := "ytloglnekjhgfgaa", sum := "2502fd2e783cc75a174fece4d22948e598fc8811e6aa9d337a5b000ad0635bdb", func := "loop.example/tabularium/laws.FnRecDo", spec := "fnRecDo", unfollowed := true, recurses := true, apart := false }
def FnRecDoSaid : Prop := fnRecDoRow.holds Try.pinned (OpenSpec.ofChange fnRecDoSpec)

/-- ITS FALSE NEIGHBOUR: 'it returns false'. Refute it at one input. -/
def fnRecDoWrong : ChangeSpec := { name := "fnRecDo", fn := fun _ => fun
  | [d] => { results := [.lit (.bool false)], args := [d] }
  | _ => none }
def FnRecDoWrongFalsely : Prop := fnRecDoRow.holds Try.pinned (OpenSpec.ofChange fnRecDoWrong)

/-- 'laws.FnRecOnce': WHATEVER THE INPUT: true; the input reads as it did. -/
def fnRecOnceSpec : ChangeSpec := { name := "fnRecOnce", fn := fun _ => fun
  | [d1, d2] => { results := [.lit (.bool true)], args := [d1, d2] }
  | _ => none }
def fnRecOnceRow : OpenClaim := { program := "ytloglnekjhgfgaa", sum := "2502fd2e783cc75a174fece4d22948e598fc8811e6aa9d337a5b000ad0635bdb", func := "loop.example/tabularium/laws.FnRecOnce", spec := "fnRecOnce", unfollowed := true, recurses := true, apart := false }
def FnRecOnceSaid : Prop := fnRecOnceRow.holds Try.pinned (OpenSpec.ofChange fnRecOnceSpec)

/-- ITS FALSE NEIGHBOUR: 'it returns false'. Refute it at one input. -/
def fnRecOnceWrong : ChangeSpec := { name := "fnRecOnce", fn := fun _ => fun
  | [d1, d2] => { results := [.lit (.bool false)], args := [d1, d2] }
  | _ => none }
def FnRecOnceWrongFalsely : Prop := fnRecOnceRow.holds Try.pinned (OpenSpec.ofChange fnRecOnceWrong)

/-- 'laws.FnRecUndo': WHATEVER THE INPUT: true; the input reads as it did. -/
def fnRecUndoSpec : ChangeSpec := { name := "fnRecUndo", fn := fun _ => fun
  | [d] => { results := [.lit (.bool true)], args := [d] }
  | _ => none }
def fnRecUndoRow : OpenClaim := { program := "ytloglnekjhgfgaa", sum := "2502fd2e783cc75a174fece4d22948e598fc8811e6aa9d337a5b000ad0635bdb", func := "loop.example/tabularium/laws.FnRecUndo", spec := "fnRecUndo", unfollowed := true, recurses := true, apart := false }
def FnRecUndoSaid : Prop := fnRecUndoRow.holds Try.pinned (OpenSpec.ofChange fnRecUndoSpec)

/-- ITS FALSE NEIGHBOUR: 'it returns false'. Refute it at one input. -/
def fnRecUndoWrong : ChangeSpec := { name := "fnRecUndo", fn := fun _ => fun
  | [d] => { results := [.lit (.bool false)], args := [d] }
  | _ => none }
def FnRecUndoWrongFalsely : Prop := fnRecUndoRow.holds Try.pinned (OpenSpec.ofChange fnRecUndoWrong)

/-- 'laws.FnRecNot': WHATEVER THE INPUT: true; the input reads as it did. -/
def fnRecNotSpec : ChangeSpec := { name := "fnRecNot", fn := fun _ => fun
  | [d] => { results := [.lit (.bool true)], args := [d] }
  | _ => none }
def fnRecNotRow : OpenClaim := { program := "ytloglnekjhgfgaa", sum := "2502fd2e783cc75a174fece4d22948e598fc8811e6aa9d337a5b000ad0635bdb", func := "loop.example/tabularium/laws.FnRecNot", spec := "fnRecNot", unfollowed := true, recurses := true, apart := false }
def FnRecNotSaid : Prop := fnRecNotRow.holds Try.pinned (OpenSpec.ofChange fnRecNotSpec)

/-- ITS FALSE NEIGHBOUR: 'it returns false'. Refute it at one input. -/
def fnRecNotWrong : ChangeSpec := { name := "fnRecNot", fn := fun _ => fun
  | [d] => { results := [.lit (.bool false)], args := [d] }
  | _ => none }
def FnRecNotWrongFalsely : Prop := fnRecNotRow.holds Try.pinned (OpenSpec.ofChange fnRecNotWrong)

/-- 'laws.FnRecTwo': WHATEVER THE INPUT: true; the input reads as it did. -/
def fnRecTwoSpec : ChangeSpec := { name := "fnRecTwo", fn := fun _ => fun
  | [d1, d2] => { results := [.lit (.bool true)], args := [d1, d2] }
  | _ => none }
def fnRecTwoRow : OpenClaim := { program := "ytloglnekjhgfgaa", sum := "2502fd2e783cc75a174fece4d22948e598fc8811e6aa9d337a5b000ad0635bdb", func := "loop.example/tabularium/laws.FnRecTwo", spec := "fnRecTwo", unfollowed := true, recurses := true, apart := false }
def FnRecTwoSaid : Prop := fnRecTwoRow.holds Try.pinned (OpenSpec.ofChange fnRecTwoSpec)

/-- ITS FALSE NEIGHBOUR: 'it returns false'. Refute it at one input. -/
def fnRecTwoWrong : ChangeSpec := { name := "fnRecTwo", fn := fun _ => fun
  | [d1, d2] => { results := [.lit (.bool false)], args := [d1, d2] }
  | _ => none }
def FnRecTwoWrongFalsely : Prop := fnRecTwoRow.holds Try.pinned (OpenSpec.ofChange fnRecTwoWrong)

/-- 'laws.FnRecKinds': WHATEVER THE INPUT: true; the input reads as it did. -/
def fnRecKindsSpec : ChangeSpec := { name := "fnRecKinds", fn := fun _ => fun
  | [d1, d2] => { results := [.lit (.bool true)], args := [d1, d2] }
  | _ => none }
def fnRecKindsRow : OpenClaim := { program := "ytloglnekjhgfgaa", sum := "2502fd2e783cc75a174fece4d22948e598fc8811e6aa9d337a5b000ad0635bdb", func := "loop.example/tabularium/laws.FnRecKinds", spec := "fnRecKinds", unfollowed := true, recurses := true, apart := false }
def FnRecKindsSaid : Prop := fnRecKindsRow.holds Try.pinned (OpenSpec.ofChange fnRecKindsSpec)

/-- ITS FALSE NEIGHBOUR: 'it returns false'. Refute it at one input. -/
def fnRecKindsWrong : ChangeSpec := { name := "fnRecKinds", fn := fun _ => fun
  | [d1, d2] => { results := [.lit (.bool false)], args := [d1, d2] }
  | _ => none }
def FnRecKindsWrongFalsely : Prop := fnRecKindsRow.holds Try.pinned (OpenSpec.ofChange fnRecKindsWrong)

/-- 'laws.FnExactRecOk': WHATEVER THE INPUT: true; the input reads as it did. -/
def fnExactRecOkSpec : ChangeSpec := { name := "fnExactRecOk", fn := fun _ => fun
  | [d] => { results := [.lit (.bool true)], args := [d] }
  | _ => none }
def fnExactRecOkRow : OpenClaim := { program := "ytloglnekjhgfgaa", sum := "2502fd2e783cc75a174fece4d22948e598fc8811e6aa9d337a5b000ad0635bdb", func := "loop.example/tabularium/laws.FnExactRecOk", spec := "fnExactRecOk", unfollowed := true, recurses := true, apart := false }
def FnExactRecOkSaid : Prop := fnExactRecOkRow.holds Try.pinned (OpenSpec.ofChange fnExactRecOkSpec)

/-- ITS FALSE NEIGHBOUR: 'it returns false'. Refute it at one input. -/
def fnExactRecOkWrong : ChangeSpec := { name := "fnExactRecOk", fn := fun _ => fun
  | [d] => { results := [.lit (.bool false)], args := [d] }
  | _ => none }
def FnExactRecOkWrongFalsely : Prop := fnExactRecOkRow.holds Try.pinned (OpenSpec.ofChange fnExactRecOkWrong)

/- THE SECOND FORM. 'bulk': how many values and letters a reading holds, each counted each time it is reached (what is shared counts as often as it is met; a slice's spare places count too). A statement '..UptoSaid' is the law's where the arguments, and the package variables that the reading takes, are together of bulk at most 1048576: NARROWER than '..Said'. Prove '..Said' where nothing that the law and all that it calls make is longer than what came in: it says more and counts as full. Else prove '..UptoSaid'. A law counts once. -/
mutual
def uptoBulk {H : Type} : DataW H → Nat
  | .lit (.string bytes) => bytes.length + 1
  | .lit _ => 1
  | .nil => 1
  | .ptr d => uptoBulk d + 1
  | .slice elems spare => uptoBulkAll elems + uptoBulkAll spare + 1
  | .agg parts => uptoBulkAll parts + 1
  | .iface _ d => uptoBulk d + 1
  | .map entries => uptoBulkEntries entries + 1
  | .held _ => 1
def uptoBulkAll {H : Type} : List (DataW H) → Nat
  | [] => 0
  | d :: r => uptoBulk d + uptoBulkAll r
def uptoBulkEntries {H : Type} : List (Lit × DataW H) → Nat
  | [] => 0
  | x :: r => uptoBulkEntry x + uptoBulkEntries r
def uptoBulkEntry {H : Type} : Lit × DataW H → Nat
  | (.string bytes, d) => bytes.length + uptoBulk d + 1
  | (_, d) => uptoBulk d + 1
 end
def uptoSmall : (H : Type) → List (DataW H) → Bool := fun _ ds => decide (uptoBulkAll ds ≤ 1048576)
def OpenSpec.upto (s : _root_.Go.ChangeSpec) : _root_.Go.OpenSpec := { _root_.Go.OpenSpec.ofChange s with cond := some uptoSmall }

/-- 'laws.FnRecForm', WHERE WHAT IT READS IS OF BULK AT MOST 1048576: true; the input reads as it did. -/
def fnRecFormUptoRow : OpenClaim := { program := "ytloglnekjhgfgaa", sum := "2502fd2e783cc75a174fece4d22948e598fc8811e6aa9d337a5b000ad0635bdb", func := "loop.example/tabularium/laws.FnRecForm", spec := "fnRecForm", unfollowed := true, recurses := true, apart := false, narrowed := true }
def FnRecFormUptoSaid : Prop := fnRecFormUptoRow.holds Try.pinned (OpenSpec.upto fnRecFormSpec)

/-- 'laws.FnRecDo', WHERE WHAT IT READS IS OF BULK AT MOST 1048576: true; the input reads as it did. -/
def fnRecDoUptoRow : OpenClaim := { program := "ytloglnekjhgfgaa", sum := "2502fd2e783cc75a174fece4d22948e598fc8811e6aa9d337a5b000ad0635bdb", func := "loop.example/tabularium/laws.FnRecDo", spec := "fnRecDo", unfollowed := true, recurses := true, apart := false, narrowed := true }
def FnRecDoUptoSaid : Prop := fnRecDoUptoRow.holds Try.pinned (OpenSpec.upto fnRecDoSpec)

/-- 'laws.FnRecOnce', WHERE WHAT IT READS IS OF BULK AT MOST 1048576: true; the input reads as it did. -/
def fnRecOnceUptoRow : OpenClaim := { program := "ytloglnekjhgfgaa", sum := "2502fd2e783cc75a174fece4d22948e598fc8811e6aa9d337a5b000ad0635bdb", func := "loop.example/tabularium/laws.FnRecOnce", spec := "fnRecOnce", unfollowed := true, recurses := true, apart := false, narrowed := true }
def FnRecOnceUptoSaid : Prop := fnRecOnceUptoRow.holds Try.pinned (OpenSpec.upto fnRecOnceSpec)

/-- 'laws.FnRecUndo', WHERE WHAT IT READS IS OF BULK AT MOST 1048576: true; the input reads as it did. -/
def fnRecUndoUptoRow : OpenClaim := { program := "ytloglnekjhgfgaa", sum := "2502fd2e783cc75a174fece4d22948e598fc8811e6aa9d337a5b000ad0635bdb", func := "loop.example/tabularium/laws.FnRecUndo", spec := "fnRecUndo", unfollowed := true, recurses := true, apart := false, narrowed := true }
def FnRecUndoUptoSaid : Prop := fnRecUndoUptoRow.holds Try.pinned (OpenSpec.upto fnRecUndoSpec)

/-- 'laws.FnRecNot', WHERE WHAT IT READS IS OF BULK AT MOST 1048576: true; the input reads as it did. -/
def fnRecNotUptoRow : OpenClaim := { program := "ytloglnekjhgfgaa", sum := "2502fd2e783cc75a174fece4d22948e598fc8811e6aa9d337a5b000ad0635bdb", func := "loop.example/tabularium/laws.FnRecNot", spec := "fnRecNot", unfollowed := true, recurses := true, apart := false, narrowed := true }
def FnRecNotUptoSaid : Prop := fnRecNotUptoRow.holds Try.pinned (OpenSpec.upto fnRecNotSpec)

/-- 'laws.FnRecTwo', WHERE WHAT IT READS IS OF BULK AT MOST 1048576: true; the input reads as it did. -/
def fnRecTwoUptoRow : OpenClaim := { program := "ytloglnekjhgfgaa", sum := "2502fd2e783cc75a174fece4d22948e598fc8811e6aa9d337a5b000ad0635bdb", func := "loop.example/tabularium/laws.FnRecTwo", spec := "fnRecTwo", unfollowed := true, recurses := true, apart := false, narrowed := true }
def FnRecTwoUptoSaid : Prop := fnRecTwoUptoRow.holds Try.pinned (OpenSpec.upto fnRecTwoSpec)

/-- 'laws.FnRecKinds', WHERE WHAT IT READS IS OF BULK AT MOST 1048576: true; the input reads as it did. -/
def fnRecKindsUptoRow : OpenClaim := { program := "ytloglnekjhgfgaa", sum := "2502fd2e783cc75a174fece4d22948e598fc8811e6aa9d337a5b000ad0635bdb", func := "loop.example/tabularium/laws.FnRecKinds", spec := "fnRecKinds", unfollowed := true, recurses := true, apart := false, narrowed := true }
def FnRecKindsUptoSaid : Prop := fnRecKindsUptoRow.holds Try.pinned (OpenSpec.upto fnRecKindsSpec)

/-- 'laws.FnExactRecOk', WHERE WHAT IT READS IS OF BULK AT MOST 1048576: true; the input reads as it did. -/
def fnExactRecOkUptoRow : OpenClaim := { program := "ytloglnekjhgfgaa", sum := "2502fd2e783cc75a174fece4d22948e598fc8811e6aa9d337a5b000ad0635bdb", func := "loop.example/tabularium/laws.FnExactRecOk", spec := "fnExactRecOk", unfollowed := true, recurses := true, apart := false, narrowed := true }
def FnExactRecOkUptoSaid : Prop := fnExactRecOkUptoRow.holds Try.pinned (OpenSpec.upto fnExactRecOkSpec)

end Rows
end Go.Proofs.Ytloglnekjhgfgaa
