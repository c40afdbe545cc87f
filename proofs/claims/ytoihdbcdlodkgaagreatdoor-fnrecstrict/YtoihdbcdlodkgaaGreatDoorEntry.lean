/-
  Contracts of the program's entries: pageExists, slotExists, ok and rec of each kind. No conditions.
-/
import Derived.Test.YtoihdbcdlodkgaaGreatDoorRecs
namespace Go.Proofs.YtoihdbcdlodkgaaGreatDoor.Base
open Go.RowKit

theorem six {w : World} {g : Nat} {t : TypeId} {a b c d e f : Value} (h : Has w g t #[a, b, c, d, e, f]) :
    w.cell? ⟨g, 0, none⟩ = some a ∧ w.cell? ⟨g, 1, none⟩ = some b ∧ w.cell? ⟨g, 2, none⟩ = some c ∧ w.cell? ⟨g, 3, none⟩ = some d ∧ w.cell? ⟨g, 4, none⟩ = some e ∧ w.cell? ⟨g, 5, none⟩ = some f :=
  ⟨h.cell 0, h.cell 1, h.cell 2, h.cell 3, h.cell 4, h.cell 5⟩

theorem pageExists_any (p : Int) (w : World) : Calls Tryz.prog 116 #[.int .i64 p] w fun e w' => e = .returned (.bool (inB p 0 4)) ∧ w = w' := by
  go_enter Tryz.func116, Tryz.ntmps116
  go_wp2_with (go_at_call 113; refine (within_any _ _ _).mono ?_; rintro e w1 ⟨rfl, rfl⟩)
  go_ret
  exact ⟨rfl, rfl⟩

theorem slotExists_any (p : Int) (w : World) : Calls Tryz.prog 117 #[.int .i64 p] w fun e w' => e = .returned (.bool (inB p 0 2)) ∧ w = w' := by
  go_enter Tryz.func117, Tryz.ntmps117
  go_wp2_with (go_at_call 113; refine (within_any _ _ _).mono ?_; rintro e w1 ⟨rfl, rfl⟩)
  go_ret
  exact ⟨rfl, rfl⟩

/-- what records of all kinds have -/
def hdB (t v : Int) : Bool := (t != 0) && (inB t 0 3 && inB v 0 150)
theorem hdB_in (t v : Int) : hdB t v = (inB t 1 3 && inB v 0 150) := by
  have h : ((t != 0) && inB t 0 3) = inB t 1 3 := by
    unfold inB
    rw [Bool.eq_iff_iff]
    simp
    omega
  rw [hdB, ← Bool.and_assoc, h]

set_option maxHeartbeats 1000000 in
theorem headOk_any (t v : Int) (w : World) : Calls Tryz.prog 112 #[.agg #[.int .i64 t, .int .i64 v]] w (Keeps (.bool (hdB t v)) w) := by
  cases b0 : (t != 0)
  all_goals
    have B0 := Lib.hid b0
    go_enter Tryz.func112, Tryz.ntmps112
    go_wp2_with (go_at_call 113; refine (within_any _ _ _).mono ?_; rintro e w1 ⟨rfl, rfl⟩)
    all_goals
      go_ret
      exact ⟨ret_bool (by have hb := B0.out; clear B0; simp_all [hdB]), below_one _ _⟩

/-- a valid entry of the kind put -/
def okPut (t v p s o n : Int) : Bool := hdB t v && (inB p 0 4 && (inB s 0 2 && (inB o 0 9 && inB n 0 9)))
set_option maxHeartbeats 1000000 in
theorem putOk_any (t v p s o n : Int) (w : World) : Calls Tryz.prog 114 #[.agg #[.int .i64 t, .int .i64 v, .int .i64 p, .int .i64 s, .int .i64 o, .int .i64 n]] w (Keeps (.bool (okPut t v p s o n)) w) := by
  go_enter Tryz.func114, Tryz.ntmps114
  go_wp2_with (first
    | (go_at_call 113; refine (within_any _ _ _).mono ?_; rintro e w2 ⟨rfl, rfl⟩)
    | (go_at_call 116; refine (pageExists_any _ _).mono ?_; rintro e w2 ⟨rfl, rfl⟩)
    | (go_at_call 117; refine (slotExists_any _ _).mono ?_; rintro e w2 ⟨rfl, rfl⟩)
    | (go_at_call 112; refine (headOk_any t v _).mono ?_; rintro e w1 ⟨rfl, b1⟩; have q1 := (Has.new w 91 #[.int .i64 t, .int .i64 v, .int .i64 p, .int .i64 s, .int .i64 o, .int .i64 n]).below b1 (by simp); obtain ⟨c0, c1, c2, c3, c4, c5⟩ := six q1; have B1 := Lib.hid b1; clear b1 q1))
  all_goals
    go_ret
    exact ⟨ret_bool (by simp_all [okPut]), (below_one _ _).trans (B1.out.mono (by simp))⟩

/-- a valid entry of the kind own -/
def okOwn (t v p o n : Int) : Bool := hdB t v && (inB p 0 4 && (inB o 0 3 && inB n 0 3))
set_option maxHeartbeats 1000000 in
theorem ownOk_any (t v p o n : Int) (w : World) : Calls Tryz.prog 118 #[.agg #[.int .i64 t, .int .i64 v, .int .i64 p, .int .i64 o, .int .i64 n]] w (Keeps (.bool (okOwn t v p o n)) w) := by
  go_enter Tryz.func118, Tryz.ntmps118
  go_wp2_with (first
    | (go_at_call 113; refine (within_any _ _ _).mono ?_; rintro e w2 ⟨rfl, rfl⟩)
    | (go_at_call 116; refine (pageExists_any _ _).mono ?_; rintro e w2 ⟨rfl, rfl⟩)
    | (go_at_call 112; refine (headOk_any t v _).mono ?_; rintro e w1 ⟨rfl, b1⟩; have q1 := (Has.new w 93 #[.int .i64 t, .int .i64 v, .int .i64 p, .int .i64 o, .int .i64 n]).below b1 (by simp); obtain ⟨c0, c1, c2, c3, c4⟩ := q1.five; have B1 := Lib.hid b1; clear b1 q1))
  all_goals
    go_ret
    exact ⟨ret_bool (by simp_all [okOwn]), (below_one _ _).trans (B1.out.mono (by simp))⟩

/-- a valid entry of the kind load -/
def okLoad (t v p : Int) : Bool := hdB t v && inB p 0 4
set_option maxHeartbeats 1000000 in
theorem loadOk_any (t v p : Int) (w : World) : Calls Tryz.prog 120 #[.agg #[.int .i64 t, .int .i64 v, .int .i64 p]] w (Keeps (.bool (okLoad t v p)) w) := by
  go_enter Tryz.func120, Tryz.ntmps120
  go_wp2_with (first
    | (go_at_call 116; refine (pageExists_any _ _).mono ?_; rintro e w2 ⟨rfl, rfl⟩)
    | (go_at_call 112; refine (headOk_any t v _).mono ?_; rintro e w1 ⟨rfl, b1⟩; have q1 := (Has.new w 95 #[.int .i64 t, .int .i64 v, .int .i64 p]).below b1 (by simp); obtain ⟨c0, c1, c2⟩ := q1.three; have B1 := Lib.hid b1; clear b1 q1))
  all_goals
    go_ret
    exact ⟨ret_bool (by simp_all [okLoad]), (below_one _ _).trans (B1.out.mono (by simp))⟩

/-- a valid entry of the kind undo -/
def okUndo (t v p s n x : Int) : Bool := hdB t v && (inB p 0 4 && (inB x 0 150 && (if s = -1 then inB n 0 3 else inB s 0 2 && inB n 0 9)))
set_option maxHeartbeats 1000000 in
theorem undoOk_any (t v p s n x : Int) (w : World) : Calls Tryz.prog 124 #[.agg #[.int .i64 t, .int .i64 v, .int .i64 p, .int .i64 s, .int .i64 n, .int .i64 x]] w (Keeps (.bool (okUndo t v p s n x)) w) := by
  cases bs : (s == -1)
  · have hs : Hid (¬ s = -1) := by simpa [Hid] using bs
    go_enter Tryz.func124, Tryz.ntmps124
    go_wp2_with (first
      | (go_at_call 113; refine (within_any _ _ _).mono ?_; rintro e w2 ⟨rfl, rfl⟩)
      | (go_at_call 116; refine (pageExists_any _ _).mono ?_; rintro e w2 ⟨rfl, rfl⟩)
      | (go_at_call 117; refine (slotExists_any _ _).mono ?_; rintro e w2 ⟨rfl, rfl⟩)
      | (go_at_call 112; refine (headOk_any t v _).mono ?_; rintro e w1 ⟨rfl, b1⟩; have q1 := (Has.new w 100 #[.int .i64 t, .int .i64 v, .int .i64 p, .int .i64 s, .int .i64 n, .int .i64 x]).below b1 (by simp); obtain ⟨c0, c1, c2, c3, c4, c5⟩ := six q1; have B1 := Lib.hid b1; clear b1 q1))
    all_goals
      go_ret
      exact ⟨ret_bool (by unfold okUndo; rw [if_neg hs.out]; simp_all), (below_one _ _).trans (B1.out.mono (by simp))⟩
  · have hs : s = -1 := by simpa using bs
    subst hs
    clear bs
    go_enter Tryz.func124, Tryz.ntmps124
    go_wp2_with (first
      | (go_at_call 113; refine (within_any _ _ _).mono ?_; rintro e w2 ⟨rfl, rfl⟩)
      | (go_at_call 116; refine (pageExists_any _ _).mono ?_; rintro e w2 ⟨rfl, rfl⟩)
      | (go_at_call 112; refine (headOk_any t v _).mono ?_; rintro e w1 ⟨rfl, b1⟩; have q1 := (Has.new w 100 #[.int .i64 t, .int .i64 v, .int .i64 p, .int .i64 (-1), .int .i64 n, .int .i64 x]).below b1 (by simp); obtain ⟨c0, c1, c2, c3, c4, c5⟩ := six q1; have B1 := Lib.hid b1; clear b1 q1))
    all_goals
      go_ret
      exact ⟨ret_bool (by unfold okUndo; rw [if_pos rfl]; simp_all), (below_one _ _).trans (B1.out.mono (by simp))⟩

set_option maxHeartbeats 400000 in
theorem putRec_any (t v p s o n : Int) (w : World) : Calls Tryz.prog 115 #[.agg #[.int .i64 t, .int .i64 v, .int .i64 p, .int .i64 s, .int .i64 o, .int .i64 n]] w (Keeps (recV ⟨1, t, p, s, o, n, v, 0⟩) w) := by
  go_enter Tryz.func115, Tryz.ntmps115
  go_wp2
  refine bodyPost_ret (v := recV ⟨1, t, p, s, o, n, v, 0⟩) (by simp [results, Tryz.results115, go_sem]) rfl ⟨rfl, below_two _ _ _⟩

set_option maxHeartbeats 400000 in
theorem ownRec_any (t v p o n : Int) (w : World) : Calls Tryz.prog 119 #[.agg #[.int .i64 t, .int .i64 v, .int .i64 p, .int .i64 o, .int .i64 n]] w (Keeps (recV ⟨2, t, p, -1, o, n, v, 0⟩) w) := by
  go_enter Tryz.func119, Tryz.ntmps119
  go_wp2
  refine bodyPost_ret (v := recV ⟨2, t, p, -1, o, n, v, 0⟩) (by simp [results, Tryz.results119, go_sem]) rfl ⟨rfl, below_two _ _ _⟩

set_option maxHeartbeats 400000 in
theorem loadRec_any (t v p : Int) (w : World) : Calls Tryz.prog 121 #[.agg #[.int .i64 t, .int .i64 v, .int .i64 p]] w (Keeps (recV ⟨3, t, p, 0, 0, 0, v, 0⟩) w) := by
  go_enter Tryz.func121, Tryz.ntmps121
  go_wp2
  refine bodyPost_ret (v := recV ⟨3, t, p, 0, 0, 0, v, 0⟩) (by simp [results, Tryz.results121, go_sem]) rfl ⟨rfl, below_two _ _ _⟩

set_option maxHeartbeats 400000 in
theorem doneRec_any (t v : Int) (w : World) : Calls Tryz.prog 122 #[.agg #[.int .i64 t, .int .i64 v]] w (Keeps (recV ⟨4, t, 0, 0, 0, 0, v, 0⟩) w) := by
  go_enter Tryz.func122, Tryz.ntmps122
  go_wp2
  refine bodyPost_ret (v := recV ⟨4, t, 0, 0, 0, 0, v, 0⟩) (by simp [results, Tryz.results122, go_sem]) rfl ⟨rfl, below_two _ _ _⟩

set_option maxHeartbeats 400000 in
theorem endRec_any (t v : Int) (w : World) : Calls Tryz.prog 123 #[.agg #[.int .i64 t, .int .i64 v]] w (Keeps (recV ⟨5, t, 0, 0, 0, 0, v, 0⟩) w) := by
  go_enter Tryz.func123, Tryz.ntmps123
  go_wp2
  refine bodyPost_ret (v := recV ⟨5, t, 0, 0, 0, 0, v, 0⟩) (by simp [results, Tryz.results123, go_sem]) rfl ⟨rfl, below_two _ _ _⟩

set_option maxHeartbeats 400000 in
theorem undoRec_any (t v p s n x : Int) (w : World) : Calls Tryz.prog 125 #[.agg #[.int .i64 t, .int .i64 v, .int .i64 p, .int .i64 s, .int .i64 n, .int .i64 x]] w (Keeps (recV ⟨6, t, p, s, 0, n, v, x⟩) w) := by
  go_enter Tryz.func125, Tryz.ntmps125
  go_wp2
  refine bodyPost_ret (v := recV ⟨6, t, p, s, 0, n, v, x⟩) (by simp [results, Tryz.results125, go_sem]) rfl ⟨rfl, below_two _ _ _⟩

end Go.Proofs.YtoihdbcdlodkgaaGreatDoor.Base
