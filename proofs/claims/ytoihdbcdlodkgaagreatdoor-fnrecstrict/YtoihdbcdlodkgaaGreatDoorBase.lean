/-
  Contracts of the small functions of pages: within, l6In, frame.empty, frame.page, PageNew (of the program and of the model). No conditions.
-/
import Derived.Test.YtoihdbcdlodkgaaGreatDoorRows
import Derived.Test.YtoihdbcdlodkgaaGreatDoorWords
import Derived.WalkKit
import Derived.ProofKit
import Derived.Below
import Derived.RegionTactic
import Derived.ChangeAlike
import Derived.ChangeKeysEq
import Derived.Deep.QuietTactic
import Derived.BigQuiet
import Derived.StillTailTactics
import Derived.Lib.Hide
namespace Go.Proofs.YtoihdbcdlodkgaaGreatDoor.Base
open Go.RowKit

/-- a number from low to high, as a Bool -/
def inB (n low high : Int) : Bool := decide (low ≤ n) && decide (n ≤ high)

set_option maxHeartbeats 400000 in
theorem within_any (n k : Int) (w : World) :
    Calls Tryz.prog 113 #[.int .i64 n, .int .i64 k] w fun e w' => e = .returned (.bool (inB n 0 k)) ∧ w = w' := by
  by_cases h1 : 0 ≤ n
  · go_enter Tryz.func113, Tryz.ntmps113
    go_wp2
    go_ret
    exact ⟨by simp [inB, h1], rfl⟩
  · go_enter Tryz.func113, Tryz.ntmps113
    go_wp2
    go_ret
    exact ⟨by simp [inB]; omega, rfl⟩

set_option maxHeartbeats 400000 in
theorem l6In_any (n l k : Int) (w : World) :
    Calls Tryz.prog 29 #[.int .i64 n, .int .i64 l, .int .i64 k] w fun e w' => e = .returned (.bool (inB n l k)) ∧ w = w' := by
  by_cases h1 : l ≤ n
  · go_enter Tryz.func29, Tryz.ntmps29
    go_wp2
    go_ret
    exact ⟨by simp [inB, h1], rfl⟩
  · go_enter Tryz.func29, Tryz.ntmps29
    go_wp2
    go_ret
    exact ⟨by simp [inB]; omega, rfl⟩

theorem infoInt : (Tryz.prog.info? 3).map (fun i => (i.zero, i.size, i.bytes)) = some (some (.int .i64 0), 1, 8) := by kernel_rfl

/-- a frame, as a value -/
abbrev frameV (l o a b c : Int) : Value := .agg #[.int .i64 l, .int .i64 o, .int .i64 a, .int .i64 b, .int .i64 c]
/-- a page, as a value: its slots lie at the address 's', 'n' of them -/
abbrev pageV (l o : Int) (s : Option Addr) (n cap : Nat) : Value := .agg #[.int .i64 l, .int .i64 o, .slice s n cap]

/-- what PageNew leaves: a free page, its slots three zeros in a new block -/
def NewPage (w : World) (e : Ending) (w' : World) : Prop :=
  ∃ (g o : Nat), e = .returned (pageV 0 0 (some ⟨g, o, none⟩) 3 3) ∧ Below w.heap.size w w' ∧ w.heap.size ≤ g ∧ Rd .i64 w' g o [0, 0, 0] ∧ Wr w' g o 3

end Go.Proofs.YtoihdbcdlodkgaaGreatDoor.Base
