/-
  Contracts of the program's entries: pageExists, slotExists, ok and rec of each kind. No conditions.
-/
import Derived.Test.YtejbmjdipfcblaaGroundK
namespace Go.Proofs.Ytejbmjdipfcblaa.Base
open Go.RowKit

theorem six {w : World} {g : Nat} {t : TypeId} {a b c d e f : Value} (h : Has w g t #[a, b, c, d, e, f]) :
    w.cell? ⟨g, 0, none⟩ = some a ∧ w.cell? ⟨g, 1, none⟩ = some b ∧ w.cell? ⟨g, 2, none⟩ = some c ∧ w.cell? ⟨g, 3, none⟩ = some d ∧ w.cell? ⟨g, 4, none⟩ = some e ∧ w.cell? ⟨g, 5, none⟩ = some f :=
  ⟨h.cell 0, h.cell 1, h.cell 2, h.cell 3, h.cell 4, h.cell 5⟩

theorem pageExists_any (p : Int) (w : World) : Calls Try.prog 116 #[.int .i64 p] w fun e w' => e = .returned (.bool (inB p 0 4)) ∧ w = w' := by
  go_enter Try.func116, Try.ntmps116
  go_wp2_with (go_at_call 35; refine (within_any _ _ _).mono ?_; rintro e w1 ⟨rfl, rfl⟩)
  go_ret
  exact ⟨rfl, rfl⟩

theorem slotExists_any (p : Int) (w : World) : Calls Try.prog 117 #[.int .i64 p] w fun e w' => e = .returned (.bool (inB p 0 2)) ∧ w = w' := by
  go_enter Try.func117, Try.ntmps117
  go_wp2_with (go_at_call 35; refine (within_any _ _ _).mono ?_; rintro e w1 ⟨rfl, rfl⟩)
  go_ret
  exact ⟨rfl, rfl⟩

/-- what records of all kinds have -/
def hdB (t v : Int) : Bool := (t != 0) && (inB t 0 3 && inB v 0 150)
theorem hdB_in (t v : Int) : hdB t v = (inB t 1 3 && inB v 0 150) := by
  have h : ((t != 0) && inB t 0 3) = inB t 1 3 := by
    unfold inB
    rw [Bool.eq_iff_iff]
    simp
    omega
  rw [hdB, ← Bool.and_assoc, h]

set_option maxHeartbeats 1000000 in
theorem headOk_any (t v : Int) (w : World) : Calls Try.prog 113 #[.agg #[.int .i64 t, .int .i64 v]] w (Keeps (.bool (hdB t v)) w) := by
  cases b0 : (t != 0)
  all_goals
    have B0 := Lib.hid b0
    go_enter Try.func113, Try.ntmps113
    go_wp2_with (go_at_call 35; refine (within_any _ _ _).mono ?_; rintro e w1 ⟨rfl, rfl⟩)
    all_goals
      go_ret
      exact ⟨ret_bool (by have hb := B0.out; clear B0; simp_all [hdB]), below_one _ _⟩

/-- a valid entry of the kind put -/
def okPut (t v p s o n : Int) : Bool := hdB t v && (inB p 0 4 && (inB s 0 2 && (inB o 0 9 && inB n 0 9)))
set_option maxHeartbeats 1000000 in
theorem putOk_any (t v p s o n : Int) (w : World) : Calls Try.prog 114 #[.agg #[.int .i64 t, .int .i64 v, .int .i64 p, .int .i64 s, .int .i64 o, .int .i64 n]] w (Keeps (.bool (okPut t v p s o n)) w) := by
  go_enter Try.func114, Try.ntmps114
  go_wp2_with (first
    | (go_at_call 35; refine (within_any _ _ _).mono ?_; rintro e w2 ⟨rfl, rfl⟩)
    | (go_at_call 116; refine (pageExists_any _ _).mono ?_; rintro e w2 ⟨rfl, rfl⟩)
    | (go_at_call 117; refine (slotExists_any _ _).mono ?_; rintro e w2 ⟨rfl, rfl⟩)
    | (go_at_call 113; refine (headOk_any t v _).mono ?_; rintro e w1 ⟨rfl, b1⟩; have q1 := (Has.new w 122 #[.int .i64 t, .int .i64 v, .int .i64 p, .int .i64 s, .int .i64 o, .int .i64 n]).below b1 (by simp); obtain ⟨c0, c1, c2, c3, c4, c5⟩ := six q1; have B1 := Lib.hid b1; clear b1 q1))
  all_goals
    go_ret
    exact ⟨ret_bool (by simp_all [okPut]), (below_one _ _).trans (B1.out.mono (by simp))⟩

/-- a valid entry of the kind own -/
def okOwn (t v p o n : Int) : Bool := hdB t v && (inB p 0 4 && (inB o 0 3 && inB n 0 3))
set_option maxHeartbeats 1000000 in
theorem ownOk_any (t v p o n : Int) (w : World) : Calls Try.prog 118 #[.agg #[.int .i64 t, .int .i64 v, .int .i64 p, .int .i64 o, .int .i64 n]] w (Keeps (.bool (okOwn t v p o n)) w) := by
  go_enter Try.func118, Try.ntmps118
  go_wp2_with (first
    | (go_at_call 35; refine (within_any _ _ _).mono ?_; rintro e w2 ⟨rfl, rfl⟩)
    | (go_at_call 116; refine (pageExists_any _ _).mono ?_; rintro e w2 ⟨rfl, rfl⟩)
    | (go_at_call 113; refine (headOk_any t v _).mono ?_; rintro e w1 ⟨rfl, b1⟩; have q1 := (Has.new w 124 #[.int .i64 t, .int .i64 v, .int .i64 p, .int .i64 o, .int .i64 n]).below b1 (by simp); obtain ⟨c0, c1, c2, c3, c4⟩ := q1.five; have B1 := Lib.hid b1; clear b1 q1))
  all_goals
    go_ret
    exact ⟨ret_bool (by simp_all [okOwn]), (below_one _ _).trans (B1.out.mono (by simp))⟩

/-- a valid entry of the kind load -/
def okLoad (t v p : Int) : Bool := hdB t v && inB p 0 4
set_option maxHeartbeats 1000000 in
theorem loadOk_any (t v p : Int) (w : World) : Calls Try.prog 120 #[.agg #[.int .i64 t, .int .i64 v, .int .i64 p]] w (Keeps (.bool (okLoad t v p)) w) := by
  go_enter Try.func120, Try.ntmps120
  go_wp2_with (first
    | (go_at_call 116; refine (pageExists_any _ _).mono ?_; rintro e w2 ⟨rfl, rfl⟩)
    | (go_at_call 113; refine (headOk_any t v _).mono ?_; rintro e w1 ⟨rfl, b1⟩; have q1 := (Has.new w 126 #[.int .i64 t, .int .i64 v, .int .i64 p]).below b1 (by simp); obtain ⟨c0, c1, c2⟩ := q1.three; have B1 := Lib.hid b1; clear b1 q1))
  all_goals
    go_ret
    exact ⟨ret_bool (by simp_all [okLoad]), (below_one _ _).trans (B1.out.mono (by simp))⟩

/-- a valid entry of the kind undo -/
def okUndo (t v p s n x : Int) : Bool := hdB t v && (inB p 0 4 && (inB x 0 150 && (if s = -1 then inB n 0 3 else inB s 0 2 && inB n 0 9)))
set_option maxHeartbeats 1000000 in
theorem undoOk_any (t v p s n x : Int) (w : World) : Calls Try.prog 124 #[.agg #[.int .i64 t, .int .i64 v, .int .i64 p, .int .i64 s, .int .i64 n, .int .i64 x]] w (Keeps (.bool (okUndo t v p s n x)) w) := by
  cases bs : (s == -1)
  · have hs : Hid (¬ s = -1) := by simpa [Hid] using bs
    go_enter Try.func124, Try.ntmps124
    go_wp2_with (first
      | (go_at_call 35; refine (within_any _ _ _).mono ?_; rintro e w2 ⟨rfl, rfl⟩)
      | (go_at_call 116; refine (pageExists_any _ _).mono ?_; rintro e w2 ⟨rfl, rfl⟩)
      | (go_at_call 117; refine (slotExists_any _ _).mono ?_; rintro e w2 ⟨rfl, rfl⟩)
      | (go_at_call 113; refine (headOk_any t v _).mono ?_; rintro e w1 ⟨rfl, b1⟩; have q1 := (Has.new w 131 #[.int .i64 t, .int .i64 v, .int .i64 p, .int .i64 s, .int .i64 n, .int .i64 x]).below b1 (by simp); obtain ⟨c0, c1, c2, c3, c4, c5⟩ := six q1; have B1 := Lib.hid b1; clear b1 q1))
    all_goals
      go_ret
      exact ⟨ret_bool (by unfold okUndo; rw [if_neg hs.out]; simp_all), (below_one _ _).trans (B1.out.mono (by simp))⟩
  · have hs : s = -1 := by simpa using bs
    subst hs
    clear bs
    go_enter Try.func124, Try.ntmps124
    go_wp2_with (first
      | (go_at_call 35; refine (within_any _ _ _).mono ?_; rintro e w2 ⟨rfl, rfl⟩)
      | (go_at_call 116; refine (pageExists_any _ _).mono ?_; rintro e w2 ⟨rfl, rfl⟩)
      | (go_at_call 113; refine (headOk_any t v _).mono ?_; rintro e w1 ⟨rfl, b1⟩; have q1 := (Has.new w 131 #[.int .i64 t, .int .i64 v, .int .i64 p, .int .i64 (-1), .int .i64 n, .int .i64 x]).below b1 (by simp); obtain ⟨c0, c1, c2, c3, c4, c5⟩ := six q1; have B1 := Lib.hid b1; clear b1 q1))
    all_goals
      go_ret
      exact ⟨ret_bool (by unfold okUndo; rw [if_pos rfl]; simp_all), (below_one _ _).trans (B1.out.mono (by simp))⟩

set_option maxHeartbeats 400000 in
theorem putRec_any (t v p s o n : Int) (w : World) : Calls Try.prog 115 #[.agg #[.int .i64 t, .int .i64 v, .int .i64 p, .int .i64 s, .int .i64 o, .int .i64 n]] w (Keeps (recV ⟨1, t, p, s, o, n, v, 0⟩) w) := by
  go_enter Try.func115, Try.ntmps115
  go_wp2
  refine bodyPost_ret (v := recV ⟨1, t, p, s, o, n, v, 0⟩) (by simp [results, Try.results115, go_sem]) rfl ⟨rfl, below_two _ _ _⟩

set_option maxHeartbeats 400000 in
theorem ownRec_any (t v p o n : Int) (w : World) : Calls Try.prog 119 #[.agg #[.int .i64 t, .int .i64 v, .int .i64 p, .int .i64 o, .int .i64 n]] w (Keeps (recV ⟨2, t, p, -1, o, n, v, 0⟩) w) := by
  go_enter Try.func119, Try.ntmps119
  go_wp2
  refine bodyPost_ret (v := recV ⟨2, t, p, -1, o, n, v, 0⟩) (by simp [results, Try.results119, go_sem]) rfl ⟨rfl, below_two _ _ _⟩

set_option maxHeartbeats 400000 in
theorem loadRec_any (t v p : Int) (w : World) : Calls Try.prog 121 #[.agg #[.int .i64 t, .int .i64 v, .int .i64 p]] w (Keeps (recV ⟨3, t, p, 0, 0, 0, v, 0⟩) w) := by
  go_enter Try.func121, Try.ntmps121
  go_wp2
  refine bodyPost_ret (v := recV ⟨3, t, p, 0, 0, 0, v, 0⟩) (by simp [results, Try.results121, go_sem]) rfl ⟨rfl, below_two _ _ _⟩

set_option maxHeartbeats 400000 in
theorem doneRec_any (t v : Int) (w : World) : Calls Try.prog 122 #[.agg #[.int .i64 t, .int .i64 v]] w (Keeps (recV ⟨4, t, 0, 0, 0, 0, v, 0⟩) w) := by
  go_enter Try.func122, Try.ntmps122
  go_wp2
  refine bodyPost_ret (v := recV ⟨4, t, 0, 0, 0, 0, v, 0⟩) (by simp [results, Try.results122, go_sem]) rfl ⟨rfl, below_two _ _ _⟩

set_option maxHeartbeats 400000 in
theorem endRec_any (t v : Int) (w : World) : Calls Try.prog 123 #[.agg #[.int .i64 t, .int .i64 v]] w (Keeps (recV ⟨5, t, 0, 0, 0, 0, v, 0⟩) w) := by
  go_enter Try.func123, Try.ntmps123
  go_wp2
  refine bodyPost_ret (v := recV ⟨5, t, 0, 0, 0, 0, v, 0⟩) (by simp [results, Try.results123, go_sem]) rfl ⟨rfl, below_two _ _ _⟩

set_option maxHeartbeats 400000 in
theorem undoRec_any (t v p s n x : Int) (w : World) : Calls Try.prog 125 #[.agg #[.int .i64 t, .int .i64 v, .int .i64 p, .int .i64 s, .int .i64 n, .int .i64 x]] w (Keeps (recV ⟨6, t, p, s, 0, n, v, x⟩) w) := by
  go_enter Try.func125, Try.ntmps125
  go_wp2
  refine bodyPost_ret (v := recV ⟨6, t, p, s, 0, n, v, x⟩) (by simp [results, Try.results125, go_sem]) rfl ⟨rfl, below_two _ _ _⟩

end Go.Proofs.Ytejbmjdipfcblaa.Base

/-
  Contracts of entryOfKind, kind by kind. No conditions.
-/
namespace Go.Proofs.Ytejbmjdipfcblaa.Base
open Go.RowKit
set_option linter.unusedVariables false

/-- the entry of a record of the kind 1 -/
abbrev ent1 (t p s o n v x : Int) : Value := .iface 122 (.agg #[.int .i64 t, .int .i64 v, .int .i64 p, .int .i64 s, .int .i64 o, .int .i64 n])
set_option maxHeartbeats 400000 in
theorem entryOfKind_1 (t p s o n v x : Int) (w : World) : Calls Try.prog 76 #[recV ⟨1, t, p, s, o, n, v, x⟩] w (Keeps (.tuple #[ent1 t p s o n v x, .bool true]) w) := by
  go_enter Try.func76, Try.ntmps76
  go_wp2
  go_ret2
  exact ⟨rfl, below_two _ _ _⟩

/-- the entry of a record of the kind 2 -/
abbrev ent2 (t p s o n v x : Int) : Value := .iface 124 (.agg #[.int .i64 t, .int .i64 v, .int .i64 p, .int .i64 o, .int .i64 n])
set_option maxHeartbeats 400000 in
theorem entryOfKind_2 (t p s o n v x : Int) (w : World) : Calls Try.prog 76 #[recV ⟨2, t, p, s, o, n, v, x⟩] w (Keeps (.tuple #[ent2 t p s o n v x, .bool true]) w) := by
  go_enter Try.func76, Try.ntmps76
  go_wp2
  go_ret2
  exact ⟨rfl, below_two _ _ _⟩

/-- the entry of a record of the kind 3 -/
abbrev ent3 (t p s o n v x : Int) : Value := .iface 126 (.agg #[.int .i64 t, .int .i64 v, .int .i64 p])
set_option maxHeartbeats 400000 in
theorem entryOfKind_3 (t p s o n v x : Int) (w : World) : Calls Try.prog 76 #[recV ⟨3, t, p, s, o, n, v, x⟩] w (Keeps (.tuple #[ent3 t p s o n v x, .bool true]) w) := by
  go_enter Try.func76, Try.ntmps76
  go_wp2
  go_ret2
  exact ⟨rfl, below_two _ _ _⟩

/-- the entry of a record of the kind 4 -/
abbrev ent4 (t p s o n v x : Int) : Value := .iface 128 (.agg #[.int .i64 t, .int .i64 v])
set_option maxHeartbeats 400000 in
theorem entryOfKind_4 (t p s o n v x : Int) (w : World) : Calls Try.prog 76 #[recV ⟨4, t, p, s, o, n, v, x⟩] w (Keeps (.tuple #[ent4 t p s o n v x, .bool true]) w) := by
  go_enter Try.func76, Try.ntmps76
  go_wp2
  go_ret2
  exact ⟨rfl, below_two _ _ _⟩

/-- the entry of a record of the kind 5 -/
abbrev ent5 (t p s o n v x : Int) : Value := .iface 129 (.agg #[.int .i64 t, .int .i64 v])
set_option maxHeartbeats 400000 in
theorem entryOfKind_5 (t p s o n v x : Int) (w : World) : Calls Try.prog 76 #[recV ⟨5, t, p, s, o, n, v, x⟩] w (Keeps (.tuple #[ent5 t p s o n v x, .bool true]) w) := by
  go_enter Try.func76, Try.ntmps76
  go_wp2
  go_ret2
  exact ⟨rfl, below_two _ _ _⟩

/-- the entry of a record of the kind 6 -/
abbrev ent6 (t p s o n v x : Int) : Value := .iface 131 (.agg #[.int .i64 t, .int .i64 v, .int .i64 p, .int .i64 s, .int .i64 n, .int .i64 x])
set_option maxHeartbeats 400000 in
theorem entryOfKind_6 (t p s o n v x : Int) (w : World) : Calls Try.prog 76 #[recV ⟨6, t, p, s, o, n, v, x⟩] w (Keeps (.tuple #[ent6 t p s o n v x, .bool true]) w) := by
  go_enter Try.func76, Try.ntmps76
  go_wp2
  go_ret2
  exact ⟨rfl, below_two _ _ _⟩

set_option maxHeartbeats 400000 in
theorem entryOfKind_0 (r : R) (w : World) (h1 : r.k ≠ 1) (h2 : r.k ≠ 2) (h3 : r.k ≠ 3) (h4 : r.k ≠ 4) (h5 : r.k ≠ 5) (h6 : r.k ≠ 6) : Calls Try.prog 76 #[recV r] w (Keeps (.tuple #[.nilIface, .bool false]) w) := by
  have b1 : (r.k == 1) = false := by simpa using h1
  have b2 : (r.k == 2) = false := by simpa using h2
  have b3 : (r.k == 3) = false := by simpa using h3
  have b4 : (r.k == 4) = false := by simpa using h4
  have b5 : (r.k == 5) = false := by simpa using h5
  have b6 : (r.k == 6) = false := by simpa using h6
  clear h1 h2 h3 h4 h5 h6
  go_enter Try.func76, Try.ntmps76
  go_wp2
  go_ret2
  exact ⟨rfl, below_two _ _ _⟩

end Go.Proofs.Ytejbmjdipfcblaa.Base

/-
  When a record is valid, in the program's words: the same as in the model's. No program in it.
-/
namespace Go.Proofs.Ytejbmjdipfcblaa.Base
open Go.RowKit

theorem okR_1 (t p s o n v x : Int) : okR ⟨1, t, p, s, o, n, v, x⟩ = (okPut t v p s o n && eqR ⟨1, t, p, s, o, n, v, 0⟩ ⟨1, t, p, s, o, n, v, x⟩) := by
  rw [Bool.eq_iff_iff]
  by_cases hs : s < 0 <;> simp [okR, formB, ofB, most, okPut, hdB_in, inB, eqR, hs] <;> omega

theorem okR_2 (t p s o n v x : Int) : okR ⟨2, t, p, s, o, n, v, x⟩ = (okOwn t v p o n && eqR ⟨2, t, p, -1, o, n, v, 0⟩ ⟨2, t, p, s, o, n, v, x⟩) := by
  rw [Bool.eq_iff_iff]
  by_cases hs : s < 0 <;> simp [okR, formB, ofB, most, okOwn, hdB_in, inB, eqR, hs] <;> omega

theorem okR_3 (t p s o n v x : Int) : okR ⟨3, t, p, s, o, n, v, x⟩ = (okLoad t v p && eqR ⟨3, t, p, 0, 0, 0, v, 0⟩ ⟨3, t, p, s, o, n, v, x⟩) := by
  rw [Bool.eq_iff_iff]
  simp [okR, formB, okLoad, hdB_in, inB, eqR] <;> omega

theorem okR_4 (t p s o n v x : Int) : okR ⟨4, t, p, s, o, n, v, x⟩ = (hdB t v && eqR ⟨4, t, 0, 0, 0, 0, v, 0⟩ ⟨4, t, p, s, o, n, v, x⟩) := by
  rw [Bool.eq_iff_iff]
  simp [okR, formB, hdB_in, inB, eqR] <;> omega

theorem okR_5 (t p s o n v x : Int) : okR ⟨5, t, p, s, o, n, v, x⟩ = (hdB t v && eqR ⟨5, t, 0, 0, 0, 0, v, 0⟩ ⟨5, t, p, s, o, n, v, x⟩) := by
  rw [Bool.eq_iff_iff]
  simp [okR, formB, hdB_in, inB, eqR] <;> omega

theorem okR_6 (t p s o n v x : Int) : okR ⟨6, t, p, s, o, n, v, x⟩ = (okUndo t v p s n x && eqR ⟨6, t, p, s, 0, n, v, x⟩ ⟨6, t, p, s, o, n, v, x⟩) := by
  rw [Bool.eq_iff_iff]
  by_cases hs : s < 0 <;> simp [okR, formB, ofB, most, okUndo, hdB_in, inB, eqR, hs] <;> (try split) <;> omega

end Go.Proofs.Ytejbmjdipfcblaa.Base
