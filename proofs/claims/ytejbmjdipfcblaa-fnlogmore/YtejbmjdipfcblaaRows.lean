/-
  No cell of these rows narrows 'for every input' (looked for: loops, veiled, ifaces, maps, wideKeys, modest, calm, conditions, laid).
  DERIVED. THE GIVEN ROWS OF THIS SEAT. 7 by the template 'for every input the law returns true; each argument reads behind the call as it read before'; 0 by the template 'total and deterministic' (their statements: YtejbmjdipfcblaaTotals.lean).
  GIVEN WITH THE SEED: the statements are not yours to turn. If you find one false, say at which input.
  Laid BY PROGRAM, IN A SANDBOX (cutbox-rows.mjs): the forced cells as the released guide's own fill.sh prints them over the translation 3f1f7202b3a78e47… (all of the seat's roots in one cut). By AI agents, Wed Nov 11 2026. No macro, syntax, notation, axiom, sorry.
-/
import Derived.Test.YtejbmjdipfcblaaChecked
import GoSem.Claim
import GoSem.ClaimJoined
import GoSem.ClaimMapViews
import Derived.JoinedTies
import Derived.KernelRfl
namespace Go.Proofs.Ytejbmjdipfcblaa
/- THE CELL 'sum', in the pinned program and in every row, IS THE sha256 OF THE DUMP (.gsa) THAT YtejbmjdipfcblaaProg.lean LOADS. Nothing in Lean hashes anything: it is a label: what it is worth is what the hold of that sum in a sandbox is worth. -/
noncomputable def Try.pinned : Pinned := { name := "ytejbmjdipfcblaa", sum := "3f1f7202b3a78e47b3edd3643a3b7b42abf3997b8e719cd0afca0dfd501f5901", checked := Try.checked }
namespace Rows
def none {H : Type} : Left H := { results := [], args := [] }

/-- 'laws.FnLogCut': WHATEVER THE INPUT: true; the input reads as it did. -/
def fnLogCutSpec : ChangeSpec := { name := "fnLogCut", fn := fun _ => fun
  | [d1, d2] => { results := [.lit (.bool true)], args := [d1, d2] }
  | _ => none }
def fnLogCutRow : OpenClaim := { program := "ytejbmjdipfcblaa", sum := "3f1f7202b3a78e47b3edd3643a3b7b42abf3997b8e719cd0afca0dfd501f5901", func := "loop.example/tabularium/laws.FnLogCut", spec := "fnLogCut", unfollowed := true, recurses := true, apart := false }
def FnLogCutSaid : Prop := fnLogCutRow.holds Try.pinned (OpenSpec.ofChange fnLogCutSpec)

/-- ITS FALSE NEIGHBOUR: 'it returns false'. Refute it at one input. -/
def fnLogCutWrong : ChangeSpec := { name := "fnLogCut", fn := fun _ => fun
  | [d1, d2] => { results := [.lit (.bool false)], args := [d1, d2] }
  | _ => none }
def FnLogCutWrongFalsely : Prop := fnLogCutRow.holds Try.pinned (OpenSpec.ofChange fnLogCutWrong)

/-- 'laws.FnLogChain': WHATEVER THE INPUT: true; the input reads as it did. -/
def fnLogChainSpec : ChangeSpec := { name := "fnLogChain", fn := fun _ => fun
  | [d] => { results := [.lit (.bool true)], args := [d] }
  | _ => none }
def fnLogChainRow : OpenClaim := { program := "ytejbmjdipfcblaa", sum := "3f1f7202b3a78e47b3edd3643a3b7b42abf3997b8e719cd0afca0dfd501f5901", func := "loop.example/tabularium/laws.FnLogChain", spec := "fnLogChain", unfollowed := true, recurses := true, apart := false }
def FnLogChainSaid : Prop := fnLogChainRow.holds Try.pinned (OpenSpec.ofChange fnLogChainSpec)

/-- ITS FALSE NEIGHBOUR: 'it returns false'. Refute it at one input. -/
def fnLogChainWrong : ChangeSpec := { name := "fnLogChain", fn := fun _ => fun
  | [d] => { results := [.lit (.bool false)], args := [d] }
  | _ => none }
def FnLogChainWrongFalsely : Prop := fnLogChainRow.holds Try.pinned (OpenSpec.ofChange fnLogChainWrong)

/-- 'laws.FnLogLast': WHATEVER THE INPUT: true; the input reads as it did. -/
def fnLogLastSpec : ChangeSpec := { name := "fnLogLast", fn := fun _ => fun
  | [d] => { results := [.lit (.bool true)], args := [d] }
  | _ => none }
def fnLogLastRow : OpenClaim := { program := "ytejbmjdipfcblaa", sum := "3f1f7202b3a78e47b3edd3643a3b7b42abf3997b8e719cd0afca0dfd501f5901", func := "loop.example/tabularium/laws.FnLogLast", spec := "fnLogLast", unfollowed := true, recurses := true, apart := false }
def FnLogLastSaid : Prop := fnLogLastRow.holds Try.pinned (OpenSpec.ofChange fnLogLastSpec)

/-- ITS FALSE NEIGHBOUR: 'it returns false'. Refute it at one input. -/
def fnLogLastWrong : ChangeSpec := { name := "fnLogLast", fn := fun _ => fun
  | [d] => { results := [.lit (.bool false)], args := [d] }
  | _ => none }
def FnLogLastWrongFalsely : Prop := fnLogLastRow.holds Try.pinned (OpenSpec.ofChange fnLogLastWrong)

/-- 'laws.FnLogPages': WHATEVER THE INPUT: true; the input reads as it did. -/
def fnLogPagesSpec : ChangeSpec := { name := "fnLogPages", fn := fun _ => fun
  | [d] => { results := [.lit (.bool true)], args := [d] }
  | _ => none }
def fnLogPagesRow : OpenClaim := { program := "ytejbmjdipfcblaa", sum := "3f1f7202b3a78e47b3edd3643a3b7b42abf3997b8e719cd0afca0dfd501f5901", func := "loop.example/tabularium/laws.FnLogPages", spec := "fnLogPages", unfollowed := true, recurses := true, apart := false }
def FnLogPagesSaid : Prop := fnLogPagesRow.holds Try.pinned (OpenSpec.ofChange fnLogPagesSpec)

/-- ITS FALSE NEIGHBOUR: 'it returns false'. Refute it at one input. -/
def fnLogPagesWrong : ChangeSpec := { name := "fnLogPages", fn := fun _ => fun
  | [d] => { results := [.lit (.bool false)], args := [d] }
  | _ => none }
def FnLogPagesWrongFalsely : Prop := fnLogPagesRow.holds Try.pinned (OpenSpec.ofChange fnLogPagesWrong)

/-- 'laws.FnLogOpen': WHATEVER THE INPUT: true; the input reads as it did. -/
def fnLogOpenSpec : ChangeSpec := { name := "fnLogOpen", fn := fun _ => fun
  | [d1, d2] => { results := [.lit (.bool true)], args := [d1, d2] }
  | _ => none }
def fnLogOpenRow : OpenClaim := { program := "ytejbmjdipfcblaa", sum := "3f1f7202b3a78e47b3edd3643a3b7b42abf3997b8e719cd0afca0dfd501f5901", func := "loop.example/tabularium/laws.FnLogOpen", spec := "fnLogOpen", unfollowed := true, recurses := true, apart := false }
def FnLogOpenSaid : Prop := fnLogOpenRow.holds Try.pinned (OpenSpec.ofChange fnLogOpenSpec)

/-- ITS FALSE NEIGHBOUR: 'it returns false'. Refute it at one input. -/
def fnLogOpenWrong : ChangeSpec := { name := "fnLogOpen", fn := fun _ => fun
  | [d1, d2] => { results := [.lit (.bool false)], args := [d1, d2] }
  | _ => none }
def FnLogOpenWrongFalsely : Prop := fnLogOpenRow.holds Try.pinned (OpenSpec.ofChange fnLogOpenWrong)

/-- 'laws.FnLogOther': WHATEVER THE INPUT: true; the input reads as it did. -/
def fnLogOtherSpec : ChangeSpec := { name := "fnLogOther", fn := fun _ => fun
  | [d1, d2] => { results := [.lit (.bool true)], args := [d1, d2] }
  | _ => none }
def fnLogOtherRow : OpenClaim := { program := "ytejbmjdipfcblaa", sum := "3f1f7202b3a78e47b3edd3643a3b7b42abf3997b8e719cd0afca0dfd501f5901", func := "loop.example/tabularium/laws.FnLogOther", spec := "fnLogOther", unfollowed := true, recurses := true, apart := false }
def FnLogOtherSaid : Prop := fnLogOtherRow.holds Try.pinned (OpenSpec.ofChange fnLogOtherSpec)

/-- ITS FALSE NEIGHBOUR: 'it returns false'. Refute it at one input. -/
def fnLogOtherWrong : ChangeSpec := { name := "fnLogOther", fn := fun _ => fun
  | [d1, d2] => { results := [.lit (.bool false)], args := [d1, d2] }
  | _ => none }
def FnLogOtherWrongFalsely : Prop := fnLogOtherRow.holds Try.pinned (OpenSpec.ofChange fnLogOtherWrong)

/-- 'laws.FnLogMore': WHATEVER THE INPUT: true; the input reads as it did. -/
def fnLogMoreSpec : ChangeSpec := { name := "fnLogMore", fn := fun _ => fun
  | [d1, d2] => { results := [.lit (.bool true)], args := [d1, d2] }
  | _ => none }
def fnLogMoreRow : OpenClaim := { program := "ytejbmjdipfcblaa", sum := "3f1f7202b3a78e47b3edd3643a3b7b42abf3997b8e719cd0afca0dfd501f5901", func := "loop.example/tabularium/laws.FnLogMore", spec := "fnLogMore", unfollowed := true, recurses := true, apart := false }
def FnLogMoreSaid : Prop := fnLogMoreRow.holds Try.pinned (OpenSpec.ofChange fnLogMoreSpec)

/-- ITS FALSE NEIGHBOUR: 'it returns false'. Refute it at one input. -/
def fnLogMoreWrong : ChangeSpec := { name := "fnLogMore", fn := fun _ => fun
  | [d1, d2] => { results := [.lit (.bool false)], args := [d1, d2] }
  | _ => none }
def FnLogMoreWrongFalsely : Prop := fnLogMoreRow.holds Try.pinned (OpenSpec.ofChange fnLogMoreWrong)

/- THE SECOND FORM. 'bulk': how many values and letters a reading holds, each counted each time it is reached (what is shared counts as often as it is met; a slice's spare places count too). A statement '..UptoSaid' is the law's where the arguments, and the package variables that the reading takes, are together of bulk at most 1048576: NARROWER than '..Said'. Prove '..Said' where nothing that the law and all that it calls make is longer than what came in: it says more and counts as full. Else prove '..UptoSaid'. A law counts once. -/
mutual
def uptoBulk {H : Type} : DataW H → Nat
  | .lit (.string bytes) => bytes.length + 1
  | .lit _ => 1
  | .nil => 1
  | .ptr d => uptoBulk d + 1
  | .slice elems spare => uptoBulkAll elems + uptoBulkAll spare + 1
  | .agg parts => uptoBulkAll parts + 1
  | .iface _ d => uptoBulk d + 1
  | .map entries => uptoBulkEntries entries + 1
  | .held _ => 1
def uptoBulkAll {H : Type} : List (DataW H) → Nat
  | [] => 0
  | d :: r => uptoBulk d + uptoBulkAll r
def uptoBulkEntries {H : Type} : List (Lit × DataW H) → Nat
  | [] => 0
  | x :: r => uptoBulkEntry x + uptoBulkEntries r
def uptoBulkEntry {H : Type} : Lit × DataW H → Nat
  | (.string bytes, d) => bytes.length + uptoBulk d + 1
  | (_, d) => uptoBulk d + 1
 end
def uptoSmall : (H : Type) → List (DataW H) → Bool := fun _ ds => decide (uptoBulkAll ds ≤ 1048576)
def OpenSpec.upto (s : _root_.Go.ChangeSpec) : _root_.Go.OpenSpec := { _root_.Go.OpenSpec.ofChange s with cond := some uptoSmall }

/-- 'laws.FnLogCut', WHERE WHAT IT READS IS OF BULK AT MOST 1048576: true; the input reads as it did. -/
def fnLogCutUptoRow : OpenClaim := { program := "ytejbmjdipfcblaa", sum := "3f1f7202b3a78e47b3edd3643a3b7b42abf3997b8e719cd0afca0dfd501f5901", func := "loop.example/tabularium/laws.FnLogCut", spec := "fnLogCut", unfollowed := true, recurses := true, apart := false, narrowed := true }
def FnLogCutUptoSaid : Prop := fnLogCutUptoRow.holds Try.pinned (OpenSpec.upto fnLogCutSpec)

/-- 'laws.FnLogChain', WHERE WHAT IT READS IS OF BULK AT MOST 1048576: true; the input reads as it did. -/
def fnLogChainUptoRow : OpenClaim := { program := "ytejbmjdipfcblaa", sum := "3f1f7202b3a78e47b3edd3643a3b7b42abf3997b8e719cd0afca0dfd501f5901", func := "loop.example/tabularium/laws.FnLogChain", spec := "fnLogChain", unfollowed := true, recurses := true, apart := false, narrowed := true }
def FnLogChainUptoSaid : Prop := fnLogChainUptoRow.holds Try.pinned (OpenSpec.upto fnLogChainSpec)

/-- 'laws.FnLogLast', WHERE WHAT IT READS IS OF BULK AT MOST 1048576: true; the input reads as it did. -/
def fnLogLastUptoRow : OpenClaim := { program := "ytejbmjdipfcblaa", sum := "3f1f7202b3a78e47b3edd3643a3b7b42abf3997b8e719cd0afca0dfd501f5901", func := "loop.example/tabularium/laws.FnLogLast", spec := "fnLogLast", unfollowed := true, recurses := true, apart := false, narrowed := true }
def FnLogLastUptoSaid : Prop := fnLogLastUptoRow.holds Try.pinned (OpenSpec.upto fnLogLastSpec)

/-- 'laws.FnLogPages', WHERE WHAT IT READS IS OF BULK AT MOST 1048576: true; the input reads as it did. -/
def fnLogPagesUptoRow : OpenClaim := { program := "ytejbmjdipfcblaa", sum := "3f1f7202b3a78e47b3edd3643a3b7b42abf3997b8e719cd0afca0dfd501f5901", func := "loop.example/tabularium/laws.FnLogPages", spec := "fnLogPages", unfollowed := true, recurses := true, apart := false, narrowed := true }
def FnLogPagesUptoSaid : Prop := fnLogPagesUptoRow.holds Try.pinned (OpenSpec.upto fnLogPagesSpec)

/-- 'laws.FnLogOpen', WHERE WHAT IT READS IS OF BULK AT MOST 1048576: true; the input reads as it did. -/
def fnLogOpenUptoRow : OpenClaim := { program := "ytejbmjdipfcblaa", sum := "3f1f7202b3a78e47b3edd3643a3b7b42abf3997b8e719cd0afca0dfd501f5901", func := "loop.example/tabularium/laws.FnLogOpen", spec := "fnLogOpen", unfollowed := true, recurses := true, apart := false, narrowed := true }
def FnLogOpenUptoSaid : Prop := fnLogOpenUptoRow.holds Try.pinned (OpenSpec.upto fnLogOpenSpec)

/-- 'laws.FnLogOther', WHERE WHAT IT READS IS OF BULK AT MOST 1048576: true; the input reads as it did. -/
def fnLogOtherUptoRow : OpenClaim := { program := "ytejbmjdipfcblaa", sum := "3f1f7202b3a78e47b3edd3643a3b7b42abf3997b8e719cd0afca0dfd501f5901", func := "loop.example/tabularium/laws.FnLogOther", spec := "fnLogOther", unfollowed := true, recurses := true, apart := false, narrowed := true }
def FnLogOtherUptoSaid : Prop := fnLogOtherUptoRow.holds Try.pinned (OpenSpec.upto fnLogOtherSpec)

/-- 'laws.FnLogMore', WHERE WHAT IT READS IS OF BULK AT MOST 1048576: true; the input reads as it did. -/
def fnLogMoreUptoRow : OpenClaim := { program := "ytejbmjdipfcblaa", sum := "3f1f7202b3a78e47b3edd3643a3b7b42abf3997b8e719cd0afca0dfd501f5901", func := "loop.example/tabularium/laws.FnLogMore", spec := "fnLogMore", unfollowed := true, recurses := true, apart := false, narrowed := true }
def FnLogMoreUptoSaid : Prop := fnLogMoreUptoRow.holds Try.pinned (OpenSpec.upto fnLogMoreSpec)

end Rows
end Go.Proofs.Ytejbmjdipfcblaa
