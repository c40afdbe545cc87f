/-
  No cell of these rows narrows 'for every input' (looked for: loops, veiled, ifaces, maps, wideKeys, modest, calm, conditions, laid).
  DERIVED. THE GIVEN ROWS OF THIS SEAT. 6 by the template 'for every input the law returns true; each argument reads behind the call as it read before'; 0 by the template 'total and deterministic' (their statements: YtjiclphpeoffdaaTotals.lean).
  GIVEN WITH THE SEED: the statements are not yours to turn. If you find one false, say at which input.
  Laid BY PROGRAM, IN A SANDBOX (cutbox-rows.mjs): the forced cells as the released guide's own fill.sh prints them over the translation 5901dabdab01f3ff… (all of the seat's roots in one cut). By AI agents, Wed Nov 11 2026. No macro, syntax, notation, axiom, sorry.
-/
import Derived.Test.YtjiclphpeoffdaaChecked
import GoSem.Claim
import GoSem.ClaimJoined
import GoSem.ClaimMapViews
import Derived.JoinedTies
import Derived.KernelRfl
namespace Go.Proofs.Ytjiclphpeoffdaa
/- THE CELL 'sum', in the pinned program and in every row, IS THE sha256 OF THE DUMP (.gsa) THAT YtjiclphpeoffdaaProg.lean LOADS. Nothing in Lean hashes anything: it is a label: what it is worth is what the hold of that sum in a sandbox is worth. -/
noncomputable def Try.pinned : Pinned := { name := "ytjiclphpeoffdaa", sum := "5901dabdab01f3ff6f58ab0ddbbd2e39f83a6b22a9d3fa4b78b2c16bda82c680", checked := Try.checked }
namespace Rows
def none {H : Type} : Left H := { results := [], args := [] }

/-- 'laws.FnExactLogOk': WHATEVER THE INPUT: true; the input reads as it did. -/
def fnExactLogOkSpec : ChangeSpec := { name := "fnExactLogOk", fn := fun _ => fun
  | [d] => { results := [.lit (.bool true)], args := [d] }
  | _ => none }
def fnExactLogOkRow : OpenClaim := { program := "ytjiclphpeoffdaa", sum := "5901dabdab01f3ff6f58ab0ddbbd2e39f83a6b22a9d3fa4b78b2c16bda82c680", func := "loop.example/tabularium/laws.FnExactLogOk", spec := "fnExactLogOk", unfollowed := true, recurses := true, apart := false }
def FnExactLogOkSaid : Prop := fnExactLogOkRow.holds Try.pinned (OpenSpec.ofChange fnExactLogOkSpec)

/-- ITS FALSE NEIGHBOUR: 'it returns false'. Refute it at one input. -/
def fnExactLogOkWrong : ChangeSpec := { name := "fnExactLogOk", fn := fun _ => fun
  | [d] => { results := [.lit (.bool false)], args := [d] }
  | _ => none }
def FnExactLogOkWrongFalsely : Prop := fnExactLogOkRow.holds Try.pinned (OpenSpec.ofChange fnExactLogOkWrong)

/-- 'laws.FnExactLogLast': WHATEVER THE INPUT: true; the input reads as it did. -/
def fnExactLogLastSpec : ChangeSpec := { name := "fnExactLogLast", fn := fun _ => fun
  | [d1, d2] => { results := [.lit (.bool true)], args := [d1, d2] }
  | _ => none }
def fnExactLogLastRow : OpenClaim := { program := "ytjiclphpeoffdaa", sum := "5901dabdab01f3ff6f58ab0ddbbd2e39f83a6b22a9d3fa4b78b2c16bda82c680", func := "loop.example/tabularium/laws.FnExactLogLast", spec := "fnExactLogLast", unfollowed := true, recurses := true, apart := false }
def FnExactLogLastSaid : Prop := fnExactLogLastRow.holds Try.pinned (OpenSpec.ofChange fnExactLogLastSpec)

/-- ITS FALSE NEIGHBOUR: 'it returns false'. Refute it at one input. -/
def fnExactLogLastWrong : ChangeSpec := { name := "fnExactLogLast", fn := fun _ => fun
  | [d1, d2] => { results := [.lit (.bool false)], args := [d1, d2] }
  | _ => none }
def FnExactLogLastWrongFalsely : Prop := fnExactLogLastRow.holds Try.pinned (OpenSpec.ofChange fnExactLogLastWrong)

/-- 'laws.FnExactLogOpen': WHATEVER THE INPUT: true; the input reads as it did. -/
def fnExactLogOpenSpec : ChangeSpec := { name := "fnExactLogOpen", fn := fun _ => fun
  | [d] => { results := [.lit (.bool true)], args := [d] }
  | _ => none }
def fnExactLogOpenRow : OpenClaim := { program := "ytjiclphpeoffdaa", sum := "5901dabdab01f3ff6f58ab0ddbbd2e39f83a6b22a9d3fa4b78b2c16bda82c680", func := "loop.example/tabularium/laws.FnExactLogOpen", spec := "fnExactLogOpen", unfollowed := true, recurses := true, apart := false }
def FnExactLogOpenSaid : Prop := fnExactLogOpenRow.holds Try.pinned (OpenSpec.ofChange fnExactLogOpenSpec)

/-- ITS FALSE NEIGHBOUR: 'it returns false'. Refute it at one input. -/
def fnExactLogOpenWrong : ChangeSpec := { name := "fnExactLogOpen", fn := fun _ => fun
  | [d] => { results := [.lit (.bool false)], args := [d] }
  | _ => none }
def FnExactLogOpenWrongFalsely : Prop := fnExactLogOpenRow.holds Try.pinned (OpenSpec.ofChange fnExactLogOpenWrong)

/-- 'laws.FnExactLogChain': WHATEVER THE INPUT: true; the input reads as it did. -/
def fnExactLogChainSpec : ChangeSpec := { name := "fnExactLogChain", fn := fun _ => fun
  | [d1, d2] => { results := [.lit (.bool true)], args := [d1, d2] }
  | _ => none }
def fnExactLogChainRow : OpenClaim := { program := "ytjiclphpeoffdaa", sum := "5901dabdab01f3ff6f58ab0ddbbd2e39f83a6b22a9d3fa4b78b2c16bda82c680", func := "loop.example/tabularium/laws.FnExactLogChain", spec := "fnExactLogChain", unfollowed := true, recurses := true, apart := false }
def FnExactLogChainSaid : Prop := fnExactLogChainRow.holds Try.pinned (OpenSpec.ofChange fnExactLogChainSpec)

/-- ITS FALSE NEIGHBOUR: 'it returns false'. Refute it at one input. -/
def fnExactLogChainWrong : ChangeSpec := { name := "fnExactLogChain", fn := fun _ => fun
  | [d1, d2] => { results := [.lit (.bool false)], args := [d1, d2] }
  | _ => none }
def FnExactLogChainWrongFalsely : Prop := fnExactLogChainRow.holds Try.pinned (OpenSpec.ofChange fnExactLogChainWrong)

/-- 'laws.FnExactLogPages': WHATEVER THE INPUT: true; the input reads as it did. -/
def fnExactLogPagesSpec : ChangeSpec := { name := "fnExactLogPages", fn := fun _ => fun
  | [d1, d2] => { results := [.lit (.bool true)], args := [d1, d2] }
  | _ => none }
def fnExactLogPagesRow : OpenClaim := { program := "ytjiclphpeoffdaa", sum := "5901dabdab01f3ff6f58ab0ddbbd2e39f83a6b22a9d3fa4b78b2c16bda82c680", func := "loop.example/tabularium/laws.FnExactLogPages", spec := "fnExactLogPages", unfollowed := true, recurses := true, apart := false }
def FnExactLogPagesSaid : Prop := fnExactLogPagesRow.holds Try.pinned (OpenSpec.ofChange fnExactLogPagesSpec)

/-- ITS FALSE NEIGHBOUR: 'it returns false'. Refute it at one input. -/
def fnExactLogPagesWrong : ChangeSpec := { name := "fnExactLogPages", fn := fun _ => fun
  | [d1, d2] => { results := [.lit (.bool false)], args := [d1, d2] }
  | _ => none }
def FnExactLogPagesWrongFalsely : Prop := fnExactLogPagesRow.holds Try.pinned (OpenSpec.ofChange fnExactLogPagesWrong)

/-- 'laws.FnExactEngineNew': WHATEVER THE INPUT: true; the input reads as it did. -/
def fnExactEngineNewSpec : ChangeSpec := { name := "fnExactEngineNew", fn := fun _ => fun
  | [] => { results := [.lit (.bool true)], args := [] }
  | _ => none }
def fnExactEngineNewRow : OpenClaim := { program := "ytjiclphpeoffdaa", sum := "5901dabdab01f3ff6f58ab0ddbbd2e39f83a6b22a9d3fa4b78b2c16bda82c680", func := "loop.example/tabularium/laws.FnExactEngineNew", spec := "fnExactEngineNew", apart := false }
def FnExactEngineNewSaid : Prop := fnExactEngineNewRow.holds Try.pinned (OpenSpec.ofChange fnExactEngineNewSpec)

/-- ITS FALSE NEIGHBOUR: 'it returns false'. Refute it at one input. -/
def fnExactEngineNewWrong : ChangeSpec := { name := "fnExactEngineNew", fn := fun _ => fun
  | [] => { results := [.lit (.bool false)], args := [] }
  | _ => none }
def FnExactEngineNewWrongFalsely : Prop := fnExactEngineNewRow.holds Try.pinned (OpenSpec.ofChange fnExactEngineNewWrong)

/- THE SECOND FORM. 'bulk': how many values and letters a reading holds, each counted each time it is reached (what is shared counts as often as it is met; a slice's spare places count too). A statement '..UptoSaid' is the law's where the arguments, and the package variables that the reading takes, are together of bulk at most 1048576: NARROWER than '..Said'. Prove '..Said' where nothing that the law and all that it calls make is longer than what came in: it says more and counts as full. Else prove '..UptoSaid'. A law counts once. -/
mutual
def uptoBulk {H : Type} : DataW H → Nat
  | .lit (.string bytes) => bytes.length + 1
  | .lit _ => 1
  | .nil => 1
  | .ptr d => uptoBulk d + 1
  | .slice elems spare => uptoBulkAll elems + uptoBulkAll spare + 1
  | .agg parts => uptoBulkAll parts + 1
  | .iface _ d => uptoBulk d + 1
  | .map entries => uptoBulkEntries entries + 1
  | .held _ => 1
def uptoBulkAll {H : Type} : List (DataW H) → Nat
  | [] => 0
  | d :: r => uptoBulk d + uptoBulkAll r
def uptoBulkEntries {H : Type} : List (Lit × DataW H) → Nat
  | [] => 0
  | x :: r => uptoBulkEntry x + uptoBulkEntries r
def uptoBulkEntry {H : Type} : Lit × DataW H → Nat
  | (.string bytes, d) => bytes.length + uptoBulk d + 1
  | (_, d) => uptoBulk d + 1
 end
def uptoSmall : (H : Type) → List (DataW H) → Bool := fun _ ds => decide (uptoBulkAll ds ≤ 1048576)
def OpenSpec.upto (s : _root_.Go.ChangeSpec) : _root_.Go.OpenSpec := { _root_.Go.OpenSpec.ofChange s with cond := some uptoSmall }

/-- 'laws.FnExactLogOk', WHERE WHAT IT READS IS OF BULK AT MOST 1048576: true; the input reads as it did. -/
def fnExactLogOkUptoRow : OpenClaim := { program := "ytjiclphpeoffdaa", sum := "5901dabdab01f3ff6f58ab0ddbbd2e39f83a6b22a9d3fa4b78b2c16bda82c680", func := "loop.example/tabularium/laws.FnExactLogOk", spec := "fnExactLogOk", unfollowed := true, recurses := true, apart := false, narrowed := true }
def FnExactLogOkUptoSaid : Prop := fnExactLogOkUptoRow.holds Try.pinned (OpenSpec.upto fnExactLogOkSpec)

/-- 'laws.FnExactLogLast', WHERE WHAT IT READS IS OF BULK AT MOST 1048576: true; the input reads as it did. -/
def fnExactLogLastUptoRow : OpenClaim := { program := "ytjiclphpeoffdaa", sum := "5901dabdab01f3ff6f58ab0ddbbd2e39f83a6b22a9d3fa4b78b2c16bda82c680", func := "loop.example/tabularium/laws.FnExactLogLast", spec := "fnExactLogLast", unfollowed := true, recurses := true, apart := false, narrowed := true }
def FnExactLogLastUptoSaid : Prop := fnExactLogLastUptoRow.holds Try.pinned (OpenSpec.upto fnExactLogLastSpec)

/-- 'laws.FnExactLogOpen', WHERE WHAT IT READS IS OF BULK AT MOST 1048576: true; the input reads as it did. -/
def fnExactLogOpenUptoRow : OpenClaim := { program := "ytjiclphpeoffdaa", sum := "5901dabdab01f3ff6f58ab0ddbbd2e39f83a6b22a9d3fa4b78b2c16bda82c680", func := "loop.example/tabularium/laws.FnExactLogOpen", spec := "fnExactLogOpen", unfollowed := true, recurses := true, apart := false, narrowed := true }
def FnExactLogOpenUptoSaid : Prop := fnExactLogOpenUptoRow.holds Try.pinned (OpenSpec.upto fnExactLogOpenSpec)

/-- 'laws.FnExactLogChain', WHERE WHAT IT READS IS OF BULK AT MOST 1048576: true; the input reads as it did. -/
def fnExactLogChainUptoRow : OpenClaim := { program := "ytjiclphpeoffdaa", sum := "5901dabdab01f3ff6f58ab0ddbbd2e39f83a6b22a9d3fa4b78b2c16bda82c680", func := "loop.example/tabularium/laws.FnExactLogChain", spec := "fnExactLogChain", unfollowed := true, recurses := true, apart := false, narrowed := true }
def FnExactLogChainUptoSaid : Prop := fnExactLogChainUptoRow.holds Try.pinned (OpenSpec.upto fnExactLogChainSpec)

/-- 'laws.FnExactLogPages', WHERE WHAT IT READS IS OF BULK AT MOST 1048576: true; the input reads as it did. -/
def fnExactLogPagesUptoRow : OpenClaim := { program := "ytjiclphpeoffdaa", sum := "5901dabdab01f3ff6f58ab0ddbbd2e39f83a6b22a9d3fa4b78b2c16bda82c680", func := "loop.example/tabularium/laws.FnExactLogPages", spec := "fnExactLogPages", unfollowed := true, recurses := true, apart := false, narrowed := true }
def FnExactLogPagesUptoSaid : Prop := fnExactLogPagesUptoRow.holds Try.pinned (OpenSpec.upto fnExactLogPagesSpec)

/-- 'laws.FnExactEngineNew', WHERE WHAT IT READS IS OF BULK AT MOST 1048576: true; the input reads as it did. -/
def fnExactEngineNewUptoRow : OpenClaim := { program := "ytjiclphpeoffdaa", sum := "5901dabdab01f3ff6f58ab0ddbbd2e39f83a6b22a9d3fa4b78b2c16bda82c680", func := "loop.example/tabularium/laws.FnExactEngineNew", spec := "fnExactEngineNew", apart := false, narrowed := true }
def FnExactEngineNewUptoSaid : Prop := fnExactEngineNewUptoRow.holds Try.pinned (OpenSpec.upto fnExactEngineNewSpec)

end Rows
end Go.Proofs.Ytjiclphpeoffdaa
