/-
  Contract of the laws' comparison eqRec, of a record with itself. No conditions.
-/
import Derived.Test.YtoihdbcdlodkgaaGreatDoorRecs
namespace Go.Proofs.YtoihdbcdlodkgaaGreatDoor.Base
open Go.RowKit

set_option maxHeartbeats 1000000 in
theorem eqRec_same (q : R) (w : World) : Calls Tryz.prog 9 #[recV q, recV q] w (Keeps (.bool true) w) := by
  have b0 : (q.k != q.k) = false := by simp
  have b1 : (q.t != q.t) = false := by simp
  have b2 : (q.p != q.p) = false := by simp
  have b3 : (q.s != q.s) = false := by simp
  have b4 : (q.o != q.o) = false := by simp
  have b5 : (q.n != q.n) = false := by simp
  have b6 : (q.v != q.v) = false := by simp
  have b7 : (q.x != q.x) = false := by simp
  go_enter Tryz.func9, Tryz.ntmps9
  go_wp2
  go_ret
  exact ⟨rfl, below_two _ _ _⟩
end Go.Proofs.YtoihdbcdlodkgaaGreatDoor.Base
