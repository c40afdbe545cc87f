/-
  Contracts of entryOf, kind by kind: the entry of a valid record. No conditions.
-/
import Derived.Test.YtejbmjdipfcblaaEntriesK
import Derived.Deep.RegionHeld3
import Derived.Deep.RegionWith
namespace Go.Proofs.Ytejbmjdipfcblaa.Base
open Go.RowKit
set_option linter.unusedVariables false
attribute [local go_sem ↓] neq8

theorem headSize (h : 120 < Try.prog.types.size) : (Try.prog.types[120]'h).size = 2 := by kernel_rfl

/-- what entryOf answers: an entry and true, or nothing and false -/
def EntOf (b : Bool) (v : Value) (w : World) (e : Ending) (w' : World) : Prop := e = .returned (.tuple #[if b then v else .nilIface, .bool b]) ∧ Below w.heap.size w w'

set_option maxHeartbeats 2000000 in
theorem entryOf_1 (t p s o n v x : Int) (w : World) : Calls Try.prog 52 #[recV ⟨1, t, p, s, o, n, v, x⟩] w (EntOf (okR ⟨1, t, p, s, o, n, v, x⟩) (ent1 t p s o n v x) w) := by
  have Hm := Lib.hid (okR_1 t p s o n v x)
  cases hk : okPut t v p s o n
  · have Hk := Lib.hid hk
    clear hk
    go_enter Try.func52, Try.ntmps52
    go_wp2_with fail
    refine (entryOfKind_1 t p s o n v x _).mono ?_
    rintro e w1 ⟨rfl, b1⟩
    have B1 : Hid (Below w.heap.size w w1) := (below_one _ _).trans (b1.mono (by simp))
    clear b1
    go_wp2_with fail
    first
      | go_region_with (go_at_call 114; (with_reducible refine (putOk_any t v p s o n _).mono ?_); rintro e w2 ⟨rfl, b2⟩; rw [Hk.out]; have B2 : Hid (Below w.heap.size w w2) := B1.out.drew.trans (b2.mono (by simpa using B1.out.size)); clear b2)
      | fail
    all_goals
      go_wp2
      go_ret2
      exact ⟨by rw [Hm.out, Hk.out]; rfl, B2.out⟩
  · cases hx : eqR ⟨1, t, p, s, o, n, v, 0⟩ ⟨1, t, p, s, o, n, v, x⟩
    all_goals
      have Hk := Lib.hid hk
      have Hx := Lib.hid hx
      clear hk
      go_enter Try.func52, Try.ntmps52
      go_wp2_with fail
      refine (entryOfKind_1 t p s o n v x _).mono ?_
      rintro e w1 ⟨rfl, b1⟩
      have q1 := (Has.new w 27 #[.int .i64 1, .int .i64 t, .int .i64 p, .int .i64 s, .int .i64 o, .int .i64 n, .int .i64 v, .int .i64 x]).below b1 (by simp)
      have l1 := q1.lt
      obtain ⟨c0, c1, c2, c3, c4, c5, c6, c7⟩ := eight q1
      have Q1 := Lib.hid q1
      have B1 : Hid (Below w.heap.size w w1) := (below_one _ _).trans (b1.mono (by simp))
      clear b1 q1
      go_wp2_with fail
      go_region_held3 (fun w' => w'.cell? ⟨w.heap.size, 0, none⟩ = some (.int .i64 1) ∧ w'.cell? ⟨w.heap.size, 1, none⟩ = some (.int .i64 t) ∧ w'.cell? ⟨w.heap.size, 2, none⟩ = some (.int .i64 p) ∧ w'.cell? ⟨w.heap.size, 3, none⟩ = some (.int .i64 s) ∧ w'.cell? ⟨w.heap.size, 4, none⟩ = some (.int .i64 o) ∧ w'.cell? ⟨w.heap.size, 5, none⟩ = some (.int .i64 n) ∧ w'.cell? ⟨w.heap.size, 6, none⟩ = some (.int .i64 v) ∧ w'.cell? ⟨w.heap.size, 7, none⟩ = some (.int .i64 x)) (go_keep)
        (first
          | (go_at_call 114; (with_reducible refine (putOk_any t v p s o n _).mono ?_); rintro e w2 ⟨rfl, b2⟩; rw [Hk.out]; obtain ⟨d0, d1, d2, d3, d4, d5, d6, d7⟩ := eight (Q1.out.drew.below b2 (by simp; omega)); have Q2 := Lib.hid (Q1.out.drew.below b2 (by simp; omega)); have l2 : w.heap.size < w2.heap.size := Q2.out.lt; have B2 : Hid (Below w.heap.size w w2) := B1.out.drew.trans (b2.mono (by simp; omega)); clear b2)
          | (go_at_call 115; (with_reducible refine (putRec_any t v p s o n _).mono ?_); rintro e w3 ⟨rfl, b3⟩; obtain ⟨e0, e1, e2, e3, e4, e5, e6, e7⟩ := eight (Q2.out.below b3 (by omega)); have B3 : Hid (Below w.heap.size w w3) := B2.out.trans (b3.mono (by omega)); clear b3))
      go_wp2
      go_ret2
      exact ⟨by rw [Hm.out, Hk.out, Hx.out]; rfl, B3.out⟩

set_option maxHeartbeats 2000000 in
theorem entryOf_2 (t p s o n v x : Int) (w : World) : Calls Try.prog 52 #[recV ⟨2, t, p, s, o, n, v, x⟩] w (EntOf (okR ⟨2, t, p, s, o, n, v, x⟩) (ent2 t p s o n v x) w) := by
  have Hm := Lib.hid (okR_2 t p s o n v x)
  cases hk : okOwn t v p o n
  · have Hk := Lib.hid hk
    clear hk
    go_enter Try.func52, Try.ntmps52
    go_wp2_with fail
    refine (entryOfKind_2 t p s o n v x _).mono ?_
    rintro e w1 ⟨rfl, b1⟩
    have B1 : Hid (Below w.heap.size w w1) := (below_one _ _).trans (b1.mono (by simp))
    clear b1
    go_wp2_with fail
    first
      | go_region_with (go_at_call 118; (with_reducible refine (ownOk_any t v p o n _).mono ?_); rintro e w2 ⟨rfl, b2⟩; rw [Hk.out]; have B2 : Hid (Below w.heap.size w w2) := B1.out.drew.trans (b2.mono (by simpa using B1.out.size)); clear b2)
      | fail
    all_goals
      go_wp2
      go_ret2
      exact ⟨by rw [Hm.out, Hk.out]; rfl, B2.out⟩
  · cases hx : eqR ⟨2, t, p, -1, o, n, v, 0⟩ ⟨2, t, p, s, o, n, v, x⟩
    all_goals
      have Hk := Lib.hid hk
      have Hx := Lib.hid hx
      clear hk
      go_enter Try.func52, Try.ntmps52
      go_wp2_with fail
      refine (entryOfKind_2 t p s o n v x _).mono ?_
      rintro e w1 ⟨rfl, b1⟩
      have q1 := (Has.new w 27 #[.int .i64 2, .int .i64 t, .int .i64 p, .int .i64 s, .int .i64 o, .int .i64 n, .int .i64 v, .int .i64 x]).below b1 (by simp)
      have l1 := q1.lt
      obtain ⟨c0, c1, c2, c3, c4, c5, c6, c7⟩ := eight q1
      have Q1 := Lib.hid q1
      have B1 : Hid (Below w.heap.size w w1) := (below_one _ _).trans (b1.mono (by simp))
      clear b1 q1
      go_wp2_with fail
      go_region_held3 (fun w' => w'.cell? ⟨w.heap.size, 0, none⟩ = some (.int .i64 2) ∧ w'.cell? ⟨w.heap.size, 1, none⟩ = some (.int .i64 t) ∧ w'.cell? ⟨w.heap.size, 2, none⟩ = some (.int .i64 p) ∧ w'.cell? ⟨w.heap.size, 3, none⟩ = some (.int .i64 s) ∧ w'.cell? ⟨w.heap.size, 4, none⟩ = some (.int .i64 o) ∧ w'.cell? ⟨w.heap.size, 5, none⟩ = some (.int .i64 n) ∧ w'.cell? ⟨w.heap.size, 6, none⟩ = some (.int .i64 v) ∧ w'.cell? ⟨w.heap.size, 7, none⟩ = some (.int .i64 x)) (go_keep)
        (first
          | (go_at_call 118; (with_reducible refine (ownOk_any t v p o n _).mono ?_); rintro e w2 ⟨rfl, b2⟩; rw [Hk.out]; obtain ⟨d0, d1, d2, d3, d4, d5, d6, d7⟩ := eight (Q1.out.drew.below b2 (by simp; omega)); have Q2 := Lib.hid (Q1.out.drew.below b2 (by simp; omega)); have l2 : w.heap.size < w2.heap.size := Q2.out.lt; have B2 : Hid (Below w.heap.size w w2) := B1.out.drew.trans (b2.mono (by simp; omega)); clear b2)
          | (go_at_call 119; (with_reducible refine (ownRec_any t v p o n _).mono ?_); rintro e w3 ⟨rfl, b3⟩; obtain ⟨e0, e1, e2, e3, e4, e5, e6, e7⟩ := eight (Q2.out.below b3 (by omega)); have B3 : Hid (Below w.heap.size w w3) := B2.out.trans (b3.mono (by omega)); clear b3))
      go_wp2
      go_ret2
      exact ⟨by rw [Hm.out, Hk.out, Hx.out]; rfl, B3.out⟩

set_option maxHeartbeats 2000000 in
theorem entryOf_3 (t p s o n v x : Int) (w : World) : Calls Try.prog 52 #[recV ⟨3, t, p, s, o, n, v, x⟩] w (EntOf (okR ⟨3, t, p, s, o, n, v, x⟩) (ent3 t p s o n v x) w) := by
  have Hm := Lib.hid (okR_3 t p s o n v x)
  cases hk : okLoad t v p
  · have Hk := Lib.hid hk
    clear hk
    go_enter Try.func52, Try.ntmps52
    go_wp2_with fail
    refine (entryOfKind_3 t p s o n v x _).mono ?_
    rintro e w1 ⟨rfl, b1⟩
    have B1 : Hid (Below w.heap.size w w1) := (below_one _ _).trans (b1.mono (by simp))
    clear b1
    go_wp2_with fail
    first
      | go_region_with (go_at_call 120; (with_reducible refine (loadOk_any t v p _).mono ?_); rintro e w2 ⟨rfl, b2⟩; rw [Hk.out]; have B2 : Hid (Below w.heap.size w w2) := B1.out.drew.trans (b2.mono (by simpa using B1.out.size)); clear b2)
      | fail
    all_goals
      go_wp2
      go_ret2
      exact ⟨by rw [Hm.out, Hk.out]; rfl, B2.out⟩
  · cases hx : eqR ⟨3, t, p, 0, 0, 0, v, 0⟩ ⟨3, t, p, s, o, n, v, x⟩
    all_goals
      have Hk := Lib.hid hk
      have Hx := Lib.hid hx
      clear hk
      go_enter Try.func52, Try.ntmps52
      go_wp2_with fail
      refine (entryOfKind_3 t p s o n v x _).mono ?_
      rintro e w1 ⟨rfl, b1⟩
      have q1 := (Has.new w 27 #[.int .i64 3, .int .i64 t, .int .i64 p, .int .i64 s, .int .i64 o, .int .i64 n, .int .i64 v, .int .i64 x]).below b1 (by simp)
      have l1 := q1.lt
      obtain ⟨c0, c1, c2, c3, c4, c5, c6, c7⟩ := eight q1
      have Q1 := Lib.hid q1
      have B1 : Hid (Below w.heap.size w w1) := (below_one _ _).trans (b1.mono (by simp))
      clear b1 q1
      go_wp2_with fail
      go_region_held3 (fun w' => w'.cell? ⟨w.heap.size, 0, none⟩ = some (.int .i64 3) ∧ w'.cell? ⟨w.heap.size, 1, none⟩ = some (.int .i64 t) ∧ w'.cell? ⟨w.heap.size, 2, none⟩ = some (.int .i64 p) ∧ w'.cell? ⟨w.heap.size, 3, none⟩ = some (.int .i64 s) ∧ w'.cell? ⟨w.heap.size, 4, none⟩ = some (.int .i64 o) ∧ w'.cell? ⟨w.heap.size, 5, none⟩ = some (.int .i64 n) ∧ w'.cell? ⟨w.heap.size, 6, none⟩ = some (.int .i64 v) ∧ w'.cell? ⟨w.heap.size, 7, none⟩ = some (.int .i64 x)) (go_keep)
        (first
          | (go_at_call 120; (with_reducible refine (loadOk_any t v p _).mono ?_); rintro e w2 ⟨rfl, b2⟩; rw [Hk.out]; obtain ⟨d0, d1, d2, d3, d4, d5, d6, d7⟩ := eight (Q1.out.drew.below b2 (by simp; omega)); have Q2 := Lib.hid (Q1.out.drew.below b2 (by simp; omega)); have l2 : w.heap.size < w2.heap.size := Q2.out.lt; have B2 : Hid (Below w.heap.size w w2) := B1.out.drew.trans (b2.mono (by simp; omega)); clear b2)
          | (go_at_call 121; (with_reducible refine (loadRec_any t v p _).mono ?_); rintro e w3 ⟨rfl, b3⟩; obtain ⟨e0, e1, e2, e3, e4, e5, e6, e7⟩ := eight (Q2.out.below b3 (by omega)); have B3 : Hid (Below w.heap.size w w3) := B2.out.trans (b3.mono (by omega)); clear b3))
      go_wp2
      go_ret2
      exact ⟨by rw [Hm.out, Hk.out, Hx.out]; rfl, B3.out⟩

set_option maxHeartbeats 2000000 in
theorem entryOf_4 (t p s o n v x : Int) (w : World) : Calls Try.prog 52 #[recV ⟨4, t, p, s, o, n, v, x⟩] w (EntOf (okR ⟨4, t, p, s, o, n, v, x⟩) (ent4 t p s o n v x) w) := by
  have Hm := Lib.hid (okR_4 t p s o n v x)
  cases hk : hdB t v
  · have Hk := Lib.hid hk
    clear hk
    go_enter Try.func52, Try.ntmps52
    go_wp2_with fail
    refine (entryOfKind_4 t p s o n v x _).mono ?_
    rintro e w1 ⟨rfl, b1⟩
    have B1 : Hid (Below w.heap.size w w1) := (below_one _ _).trans (b1.mono (by simp))
    clear b1
    go_wp2_with fail
    first
      | go_region_with (go_at_call 113; rw [headSize, List.take_succ_cons, List.take_succ_cons, List.take_zero]; (with_reducible refine (headOk_any t v _).mono ?_); rintro e w2 ⟨rfl, b2⟩; rw [Hk.out]; have B2 : Hid (Below w.heap.size w w2) := B1.out.drew.trans (b2.mono (by simpa using B1.out.size)); clear b2)
      | fail
    all_goals
      go_wp2
      go_ret2
      exact ⟨by rw [Hm.out, Hk.out]; rfl, B2.out⟩
  · cases hx : eqR ⟨4, t, 0, 0, 0, 0, v, 0⟩ ⟨4, t, p, s, o, n, v, x⟩
    all_goals
      have Hk := Lib.hid hk
      have Hx := Lib.hid hx
      clear hk
      go_enter Try.func52, Try.ntmps52
      go_wp2_with fail
      refine (entryOfKind_4 t p s o n v x _).mono ?_
      rintro e w1 ⟨rfl, b1⟩
      have q1 := (Has.new w 27 #[.int .i64 4, .int .i64 t, .int .i64 p, .int .i64 s, .int .i64 o, .int .i64 n, .int .i64 v, .int .i64 x]).below b1 (by simp)
      have l1 := q1.lt
      obtain ⟨c0, c1, c2, c3, c4, c5, c6, c7⟩ := eight q1
      have Q1 := Lib.hid q1
      have B1 : Hid (Below w.heap.size w w1) := (below_one _ _).trans (b1.mono (by simp))
      clear b1 q1
      go_wp2_with fail
      go_region_held3 (fun w' => w'.cell? ⟨w.heap.size, 0, none⟩ = some (.int .i64 4) ∧ w'.cell? ⟨w.heap.size, 1, none⟩ = some (.int .i64 t) ∧ w'.cell? ⟨w.heap.size, 2, none⟩ = some (.int .i64 p) ∧ w'.cell? ⟨w.heap.size, 3, none⟩ = some (.int .i64 s) ∧ w'.cell? ⟨w.heap.size, 4, none⟩ = some (.int .i64 o) ∧ w'.cell? ⟨w.heap.size, 5, none⟩ = some (.int .i64 n) ∧ w'.cell? ⟨w.heap.size, 6, none⟩ = some (.int .i64 v) ∧ w'.cell? ⟨w.heap.size, 7, none⟩ = some (.int .i64 x)) (go_keep)
        (first
          | (go_at_call 113; rw [headSize, List.take_succ_cons, List.take_succ_cons, List.take_zero]; (with_reducible refine (headOk_any t v _).mono ?_); rintro e w2 ⟨rfl, b2⟩; rw [Hk.out]; obtain ⟨d0, d1, d2, d3, d4, d5, d6, d7⟩ := eight (Q1.out.drew.below b2 (by simp; omega)); have Q2 := Lib.hid (Q1.out.drew.below b2 (by simp; omega)); have l2 : w.heap.size < w2.heap.size := Q2.out.lt; have B2 : Hid (Below w.heap.size w w2) := B1.out.drew.trans (b2.mono (by simp; omega)); clear b2)
          | (go_at_call 122; (with_reducible refine (doneRec_any t v _).mono ?_); rintro e w3 ⟨rfl, b3⟩; obtain ⟨e0, e1, e2, e3, e4, e5, e6, e7⟩ := eight (Q2.out.below b3 (by omega)); have B3 : Hid (Below w.heap.size w w3) := B2.out.trans (b3.mono (by omega)); clear b3))
      go_wp2
      go_ret2
      exact ⟨by rw [Hm.out, Hk.out, Hx.out]; rfl, B3.out⟩

set_option maxHeartbeats 2000000 in
theorem entryOf_5 (t p s o n v x : Int) (w : World) : Calls Try.prog 52 #[recV ⟨5, t, p, s, o, n, v, x⟩] w (EntOf (okR ⟨5, t, p, s, o, n, v, x⟩) (ent5 t p s o n v x) w) := by
  have Hm := Lib.hid (okR_5 t p s o n v x)
  cases hk : hdB t v
  · have Hk := Lib.hid hk
    clear hk
    go_enter Try.func52, Try.ntmps52
    go_wp2_with fail
    refine (entryOfKind_5 t p s o n v x _).mono ?_
    rintro e w1 ⟨rfl, b1⟩
    have B1 : Hid (Below w.heap.size w w1) := (below_one _ _).trans (b1.mono (by simp))
    clear b1
    go_wp2_with fail
    first
      | go_region_with (go_at_call 113; rw [headSize, List.take_succ_cons, List.take_succ_cons, List.take_zero]; (with_reducible refine (headOk_any t v _).mono ?_); rintro e w2 ⟨rfl, b2⟩; rw [Hk.out]; have B2 : Hid (Below w.heap.size w w2) := B1.out.drew.trans (b2.mono (by simpa using B1.out.size)); clear b2)
      | fail
    all_goals
      go_wp2
      go_ret2
      exact ⟨by rw [Hm.out, Hk.out]; rfl, B2.out⟩
  · cases hx : eqR ⟨5, t, 0, 0, 0, 0, v, 0⟩ ⟨5, t, p, s, o, n, v, x⟩
    all_goals
      have Hk := Lib.hid hk
      have Hx := Lib.hid hx
      clear hk
      go_enter Try.func52, Try.ntmps52
      go_wp2_with fail
      refine (entryOfKind_5 t p s o n v x _).mono ?_
      rintro e w1 ⟨rfl, b1⟩
      have q1 := (Has.new w 27 #[.int .i64 5, .int .i64 t, .int .i64 p, .int .i64 s, .int .i64 o, .int .i64 n, .int .i64 v, .int .i64 x]).below b1 (by simp)
      have l1 := q1.lt
      obtain ⟨c0, c1, c2, c3, c4, c5, c6, c7⟩ := eight q1
      have Q1 := Lib.hid q1
      have B1 : Hid (Below w.heap.size w w1) := (below_one _ _).trans (b1.mono (by simp))
      clear b1 q1
      go_wp2_with fail
      go_region_held3 (fun w' => w'.cell? ⟨w.heap.size, 0, none⟩ = some (.int .i64 5) ∧ w'.cell? ⟨w.heap.size, 1, none⟩ = some (.int .i64 t) ∧ w'.cell? ⟨w.heap.size, 2, none⟩ = some (.int .i64 p) ∧ w'.cell? ⟨w.heap.size, 3, none⟩ = some (.int .i64 s) ∧ w'.cell? ⟨w.heap.size, 4, none⟩ = some (.int .i64 o) ∧ w'.cell? ⟨w.heap.size, 5, none⟩ = some (.int .i64 n) ∧ w'.cell? ⟨w.heap.size, 6, none⟩ = some (.int .i64 v) ∧ w'.cell? ⟨w.heap.size, 7, none⟩ = some (.int .i64 x)) (go_keep)
        (first
          | (go_at_call 113; rw [headSize, List.take_succ_cons, List.take_succ_cons, List.take_zero]; (with_reducible refine (headOk_any t v _).mono ?_); rintro e w2 ⟨rfl, b2⟩; rw [Hk.out]; obtain ⟨d0, d1, d2, d3, d4, d5, d6, d7⟩ := eight (Q1.out.drew.below b2 (by simp; omega)); have Q2 := Lib.hid (Q1.out.drew.below b2 (by simp; omega)); have l2 : w.heap.size < w2.heap.size := Q2.out.lt; have B2 : Hid (Below w.heap.size w w2) := B1.out.drew.trans (b2.mono (by simp; omega)); clear b2)
          | (go_at_call 123; (with_reducible refine (endRec_any t v _).mono ?_); rintro e w3 ⟨rfl, b3⟩; obtain ⟨e0, e1, e2, e3, e4, e5, e6, e7⟩ := eight (Q2.out.below b3 (by omega)); have B3 : Hid (Below w.heap.size w w3) := B2.out.trans (b3.mono (by omega)); clear b3))
      go_wp2
      go_ret2
      exact ⟨by rw [Hm.out, Hk.out, Hx.out]; rfl, B3.out⟩

set_option maxHeartbeats 2000000 in
theorem entryOf_6 (t p s o n v x : Int) (w : World) : Calls Try.prog 52 #[recV ⟨6, t, p, s, o, n, v, x⟩] w (EntOf (okR ⟨6, t, p, s, o, n, v, x⟩) (ent6 t p s o n v x) w) := by
  have Hm := Lib.hid (okR_6 t p s o n v x)
  cases hk : okUndo t v p s n x
  · have Hk := Lib.hid hk
    clear hk
    go_enter Try.func52, Try.ntmps52
    go_wp2_with fail
    refine (entryOfKind_6 t p s o n v x _).mono ?_
    rintro e w1 ⟨rfl, b1⟩
    have B1 : Hid (Below w.heap.size w w1) := (below_one _ _).trans (b1.mono (by simp))
    clear b1
    go_wp2_with fail
    first
      | go_region_with (go_at_call 124; (with_reducible refine (undoOk_any t v p s n x _).mono ?_); rintro e w2 ⟨rfl, b2⟩; rw [Hk.out]; have B2 : Hid (Below w.heap.size w w2) := B1.out.drew.trans (b2.mono (by simpa using B1.out.size)); clear b2)
      | fail
    all_goals
      go_wp2
      go_ret2
      exact ⟨by rw [Hm.out, Hk.out]; rfl, B2.out⟩
  · cases hx : eqR ⟨6, t, p, s, 0, n, v, x⟩ ⟨6, t, p, s, o, n, v, x⟩
    all_goals
      have Hk := Lib.hid hk
      have Hx := Lib.hid hx
      clear hk
      go_enter Try.func52, Try.ntmps52
      go_wp2_with fail
      refine (entryOfKind_6 t p s o n v x _).mono ?_
      rintro e w1 ⟨rfl, b1⟩
      have q1 := (Has.new w 27 #[.int .i64 6, .int .i64 t, .int .i64 p, .int .i64 s, .int .i64 o, .int .i64 n, .int .i64 v, .int .i64 x]).below b1 (by simp)
      have l1 := q1.lt
      obtain ⟨c0, c1, c2, c3, c4, c5, c6, c7⟩ := eight q1
      have Q1 := Lib.hid q1
      have B1 : Hid (Below w.heap.size w w1) := (below_one _ _).trans (b1.mono (by simp))
      clear b1 q1
      go_wp2_with fail
      go_region_held3 (fun w' => w'.cell? ⟨w.heap.size, 0, none⟩ = some (.int .i64 6) ∧ w'.cell? ⟨w.heap.size, 1, none⟩ = some (.int .i64 t) ∧ w'.cell? ⟨w.heap.size, 2, none⟩ = some (.int .i64 p) ∧ w'.cell? ⟨w.heap.size, 3, none⟩ = some (.int .i64 s) ∧ w'.cell? ⟨w.heap.size, 4, none⟩ = some (.int .i64 o) ∧ w'.cell? ⟨w.heap.size, 5, none⟩ = some (.int .i64 n) ∧ w'.cell? ⟨w.heap.size, 6, none⟩ = some (.int .i64 v) ∧ w'.cell? ⟨w.heap.size, 7, none⟩ = some (.int .i64 x)) (go_keep)
        (first
          | (go_at_call 124; (with_reducible refine (undoOk_any t v p s n x _).mono ?_); rintro e w2 ⟨rfl, b2⟩; rw [Hk.out]; obtain ⟨d0, d1, d2, d3, d4, d5, d6, d7⟩ := eight (Q1.out.drew.below b2 (by simp; omega)); have Q2 := Lib.hid (Q1.out.drew.below b2 (by simp; omega)); have l2 : w.heap.size < w2.heap.size := Q2.out.lt; have B2 : Hid (Below w.heap.size w w2) := B1.out.drew.trans (b2.mono (by simp; omega)); clear b2)
          | (go_at_call 125; (with_reducible refine (undoRec_any t v p s n x _).mono ?_); rintro e w3 ⟨rfl, b3⟩; obtain ⟨e0, e1, e2, e3, e4, e5, e6, e7⟩ := eight (Q2.out.below b3 (by omega)); have B3 : Hid (Below w.heap.size w w3) := B2.out.trans (b3.mono (by omega)); clear b3))
      go_wp2
      go_ret2
      exact ⟨by rw [Hm.out, Hk.out, Hx.out]; rfl, B3.out⟩

set_option maxHeartbeats 1000000 in
theorem entryOf_0 (r : R) (w : World) (h1 : r.k ≠ 1) (h2 : r.k ≠ 2) (h3 : r.k ≠ 3) (h4 : r.k ≠ 4) (h5 : r.k ≠ 5) (h6 : r.k ≠ 6) : Calls Try.prog 52 #[recV r] w (EntOf (okR r) .nilIface w) := by
  have H : Hid (okR r = false) := by show okR r = false; simp [okR, formB, h1, h2, h3, h4, h5, h6]
  have C := Lib.hid (fun W => entryOfKind_0 r W h1 h2 h3 h4 h5 h6)
  clear h1 h2 h3 h4 h5 h6
  go_enter Try.func52, Try.ntmps52
  go_wp2_with fail
  refine (C.out _).mono ?_
  rintro e w1 ⟨rfl, b1⟩
  have B1 : Hid (Below w.heap.size w w1) := (below_one _ _).trans (b1.mono (by simp))
  clear b1 C
  go_wp2_with fail
  first
    | go_region_with (fail)
    | fail
  all_goals
    go_wp2
    go_ret2
    exact ⟨by rw [H.out]; rfl, B1.out.drew⟩

end Go.Proofs.Ytejbmjdipfcblaa.Base
