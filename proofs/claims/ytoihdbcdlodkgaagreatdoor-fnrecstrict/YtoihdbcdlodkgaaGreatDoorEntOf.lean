/-
  Contracts of entryOfKind, kind by kind. No conditions.
-/
import Derived.Test.YtoihdbcdlodkgaaGreatDoorEntry
namespace Go.Proofs.YtoihdbcdlodkgaaGreatDoor.Base
open Go.RowKit
set_option linter.unusedVariables false

/-- the entry of a record of the kind 1 -/
abbrev ent1 (t p s o n v x : Int) : Value := .iface 91 (.agg #[.int .i64 t, .int .i64 v, .int .i64 p, .int .i64 s, .int .i64 o, .int .i64 n])
set_option maxHeartbeats 400000 in
theorem entryOfKind_1 (t p s o n v x : Int) (w : World) : Calls Tryz.prog 40 #[recV ⟨1, t, p, s, o, n, v, x⟩] w (Keeps (.tuple #[ent1 t p s o n v x, .bool true]) w) := by
  go_enter Tryz.func40, Tryz.ntmps40
  go_wp2
  go_ret2
  exact ⟨rfl, below_two _ _ _⟩

/-- the entry of a record of the kind 2 -/
abbrev ent2 (t p s o n v x : Int) : Value := .iface 93 (.agg #[.int .i64 t, .int .i64 v, .int .i64 p, .int .i64 o, .int .i64 n])
set_option maxHeartbeats 400000 in
theorem entryOfKind_2 (t p s o n v x : Int) (w : World) : Calls Tryz.prog 40 #[recV ⟨2, t, p, s, o, n, v, x⟩] w (Keeps (.tuple #[ent2 t p s o n v x, .bool true]) w) := by
  go_enter Tryz.func40, Tryz.ntmps40
  go_wp2
  go_ret2
  exact ⟨rfl, below_two _ _ _⟩

/-- the entry of a record of the kind 3 -/
abbrev ent3 (t p s o n v x : Int) : Value := .iface 95 (.agg #[.int .i64 t, .int .i64 v, .int .i64 p])
set_option maxHeartbeats 400000 in
theorem entryOfKind_3 (t p s o n v x : Int) (w : World) : Calls Tryz.prog 40 #[recV ⟨3, t, p, s, o, n, v, x⟩] w (Keeps (.tuple #[ent3 t p s o n v x, .bool true]) w) := by
  go_enter Tryz.func40, Tryz.ntmps40
  go_wp2
  go_ret2
  exact ⟨rfl, below_two _ _ _⟩

/-- the entry of a record of the kind 4 -/
abbrev ent4 (t p s o n v x : Int) : Value := .iface 97 (.agg #[.int .i64 t, .int .i64 v])
set_option maxHeartbeats 400000 in
theorem entryOfKind_4 (t p s o n v x : Int) (w : World) : Calls Tryz.prog 40 #[recV ⟨4, t, p, s, o, n, v, x⟩] w (Keeps (.tuple #[ent4 t p s o n v x, .bool true]) w) := by
  go_enter Tryz.func40, Tryz.ntmps40
  go_wp2
  go_ret2
  exact ⟨rfl, below_two _ _ _⟩

/-- the entry of a record of the kind 5 -/
abbrev ent5 (t p s o n v x : Int) : Value := .iface 98 (.agg #[.int .i64 t, .int .i64 v])
set_option maxHeartbeats 400000 in
theorem entryOfKind_5 (t p s o n v x : Int) (w : World) : Calls Tryz.prog 40 #[recV ⟨5, t, p, s, o, n, v, x⟩] w (Keeps (.tuple #[ent5 t p s o n v x, .bool true]) w) := by
  go_enter Tryz.func40, Tryz.ntmps40
  go_wp2
  go_ret2
  exact ⟨rfl, below_two _ _ _⟩

/-- the entry of a record of the kind 6 -/
abbrev ent6 (t p s o n v x : Int) : Value := .iface 100 (.agg #[.int .i64 t, .int .i64 v, .int .i64 p, .int .i64 s, .int .i64 n, .int .i64 x])
set_option maxHeartbeats 400000 in
theorem entryOfKind_6 (t p s o n v x : Int) (w : World) : Calls Tryz.prog 40 #[recV ⟨6, t, p, s, o, n, v, x⟩] w (Keeps (.tuple #[ent6 t p s o n v x, .bool true]) w) := by
  go_enter Tryz.func40, Tryz.ntmps40
  go_wp2
  go_ret2
  exact ⟨rfl, below_two _ _ _⟩

set_option maxHeartbeats 400000 in
theorem entryOfKind_0 (r : R) (w : World) (h1 : r.k ≠ 1) (h2 : r.k ≠ 2) (h3 : r.k ≠ 3) (h4 : r.k ≠ 4) (h5 : r.k ≠ 5) (h6 : r.k ≠ 6) : Calls Tryz.prog 40 #[recV r] w (Keeps (.tuple #[.nilIface, .bool false]) w) := by
  have b1 : (r.k == 1) = false := by simpa using h1
  have b2 : (r.k == 2) = false := by simpa using h2
  have b3 : (r.k == 3) = false := by simpa using h3
  have b4 : (r.k == 4) = false := by simpa using h4
  have b5 : (r.k == 5) = false := by simpa using h5
  have b6 : (r.k == 6) = false := by simpa using h6
  clear h1 h2 h3 h4 h5 h6
  go_enter Tryz.func40, Tryz.ntmps40
  go_wp2
  go_ret2
  exact ⟨rfl, below_two _ _ _⟩

end Go.Proofs.YtoihdbcdlodkgaaGreatDoor.Base
