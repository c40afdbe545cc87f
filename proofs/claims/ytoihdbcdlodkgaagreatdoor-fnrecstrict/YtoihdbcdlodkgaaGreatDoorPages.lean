/-
  Contracts of the laws' helpers on pages: eqPage, markPage, heldPage. Conditions: the slots' slices lead to numbers.
-/
import Derived.Test.YtoihdbcdlodkgaaGreatDoorInts
namespace Go.Proofs.YtoihdbcdlodkgaaGreatDoor.Base
open Go.RowKit

/-- it answers v, and nothing that was there has turned -/
def Keeps (v : Value) (w : World) (e : Ending) (w' : World) : Prop := e = .returned v ∧ Below w.heap.size w w'

theorem below_two (w : World) (x y : Obj) : Below w.heap.size w ((w.alloc x).alloc y) := ((Below.refl _ _).alloc (Nat.le_refl _) _).alloc (by simp) _
theorem below_one (w : World) (x : Obj) : Below w.heap.size w (w.alloc x) := (Below.refl _ _).alloc (Nat.le_refl _) _

/-- what markPage leaves: the numbers k, k + 1, .. in the page's slots; no other block that was there has turned -/
def MarkedP (k : Int) (g o n : Nat) (w : World) (e : Ending) (w' : World) : Prop :=
  e = .returned (.int .i64 (k + n)) ∧ w.grownBy w' (some g) ∧ Rd .i64 w' g o (marks k n) ∧ Wr w' g o n

end Go.Proofs.YtoihdbcdlodkgaaGreatDoor.Base
