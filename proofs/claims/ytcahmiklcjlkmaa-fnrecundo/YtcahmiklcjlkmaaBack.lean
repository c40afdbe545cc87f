/-
  Contracts of backOf and of RecBack, of the program and of the model. No conditions.
-/
import Derived.Test.YtcahmiklcjlkmaaRecOkI
import Derived.Test.YtcahmiklcjlkmaaAssert
import Derived.Test.YtcahmiklcjlkmaaPut8
import Derived.Deep.CutBlock
namespace Go.Proofs.Ytcahmiklcjlkmaa.Base
open Go.RowKit
set_option linter.unusedVariables false

/-- kinds that are undone -/
def pu (k : Int) : Bool := (k == 1) || (k == 2)
/-- what backOf answers of an entry -/
def BackOf (b : Bool) (t p s o v prev : Int) (w : World) (e : Ending) (w' : World) : Prop :=
  e = .returned (.tuple #[if b then .agg #[.int .i64 t, .int .i64 prev, .int .i64 p, .int .i64 s, .int .i64 o, .int .i64 v] else .agg #[.int .i64 0, .int .i64 0, .int .i64 0, .int .i64 0, .int .i64 0, .int .i64 0], .bool b]) ∧ Below w.heap.size w w'

attribute [local go_sem] ta_11 in
set_option maxHeartbeats 1000000 in
theorem backOf_1 (t p s o n v x prev : Int) (w : World) : Calls Try.prog 43 #[ent1 t p s o n v x, .int .i64 prev] w (BackOf true t p s o v prev w) := by
  go_enter Try.func43, Try.ntmps43
  go_wp2
  refine bodyPost_ret (v := .tuple #[.agg #[.int .i64 t, .int .i64 prev, .int .i64 p, .int .i64 s, .int .i64 o, .int .i64 v], .bool true]) (by simp [results, Try.results43, go_sem]) rfl ⟨rfl, ?_⟩
  go_grown

attribute [local go_sem] ta_21 ta_22 in
set_option maxHeartbeats 1000000 in
theorem backOf_2 (t p s o n v x prev : Int) (w : World) : Calls Try.prog 43 #[ent2 t p s o n v x, .int .i64 prev] w (BackOf true t p (-1) o v prev w) := by
  go_enter Try.func43, Try.ntmps43
  go_wp2
  refine bodyPost_ret (v := .tuple #[.agg #[.int .i64 t, .int .i64 prev, .int .i64 p, .int .i64 (-1), .int .i64 o, .int .i64 v], .bool true]) (by simp [results, Try.results43, go_sem]) rfl ⟨rfl, ?_⟩
  go_grown

attribute [local go_sem] ta_31 ta_32 in
set_option maxHeartbeats 1000000 in
theorem backOf_3 (t p s o n v x prev : Int) (w : World) : Calls Try.prog 43 #[ent3 t p s o n v x, .int .i64 prev] w (BackOf false t p s o v prev w) := by
  go_enter Try.func43, Try.ntmps43
  go_wp2
  refine bodyPost_ret (v := .tuple #[.agg #[.int .i64 0, .int .i64 0, .int .i64 0, .int .i64 0, .int .i64 0, .int .i64 0], .bool false]) (by simp [results, Try.results43, go_sem]) rfl ⟨rfl, ?_⟩
  go_grown

attribute [local go_sem] ta_41 ta_42 in
set_option maxHeartbeats 1000000 in
theorem backOf_4 (t p s o n v x prev : Int) (w : World) : Calls Try.prog 43 #[ent4 t p s o n v x, .int .i64 prev] w (BackOf false t p s o v prev w) := by
  go_enter Try.func43, Try.ntmps43
  go_wp2
  refine bodyPost_ret (v := .tuple #[.agg #[.int .i64 0, .int .i64 0, .int .i64 0, .int .i64 0, .int .i64 0, .int .i64 0], .bool false]) (by simp [results, Try.results43, go_sem]) rfl ⟨rfl, ?_⟩
  go_grown

attribute [local go_sem] ta_51 ta_52 in
set_option maxHeartbeats 1000000 in
theorem backOf_5 (t p s o n v x prev : Int) (w : World) : Calls Try.prog 43 #[ent5 t p s o n v x, .int .i64 prev] w (BackOf false t p s o v prev w) := by
  go_enter Try.func43, Try.ntmps43
  go_wp2
  refine bodyPost_ret (v := .tuple #[.agg #[.int .i64 0, .int .i64 0, .int .i64 0, .int .i64 0, .int .i64 0, .int .i64 0], .bool false]) (by simp [results, Try.results43, go_sem]) rfl ⟨rfl, ?_⟩
  go_grown

attribute [local go_sem] ta_61 ta_62 in
set_option maxHeartbeats 1000000 in
theorem backOf_6 (t p s o n v x prev : Int) (w : World) : Calls Try.prog 43 #[ent6 t p s o n v x, .int .i64 prev] w (BackOf false t p s o v prev w) := by
  go_enter Try.func43, Try.ntmps43
  go_wp2
  refine bodyPost_ret (v := .tuple #[.agg #[.int .i64 0, .int .i64 0, .int .i64 0, .int .i64 0, .int .i64 0, .int .i64 0], .bool false]) (by simp [results, Try.results43, go_sem]) rfl ⟨rfl, ?_⟩
  go_grown

/-- an entry that serves for r, to be undone -/
structure ServesB (r : R) (u : Value) : Prop where
  entry : ∀ w, Calls Try.prog 38 #[recV r] w (Keeps (.tuple #[u, .bool true]) w)
  back : ∀ (prev : Int) (w : World), Calls Try.prog 43 #[u, .int .i64 prev] w (BackOf (pu r.k) r.t r.p r.s r.o r.v prev w)

theorem EntOf.sure {b : Bool} {v : Value} {w w' : World} {e : Ending} (h : EntOf b v w e w') (hb : b = true) : Keeps (.tuple #[v, .bool true]) w e w' := by
  subst hb
  exact h

theorem servesB (r : R) (hk : okR r = true) : ∃ u, ServesB r u := by
  have hkk : r.k = 1 ∨ r.k = 2 ∨ r.k = 3 ∨ r.k = 4 ∨ r.k = 5 ∨ r.k = 6 := by
    by_cases h1 : r.k = 1
    · exact .inl h1
    by_cases h2 : r.k = 2
    · exact .inr (.inl h2)
    by_cases h3 : r.k = 3
    · exact .inr (.inr (.inl h3))
    by_cases h4 : r.k = 4
    · exact .inr (.inr (.inr (.inl h4)))
    by_cases h5 : r.k = 5
    · exact .inr (.inr (.inr (.inr (.inl h5))))
    by_cases h6 : r.k = 6
    · exact .inr (.inr (.inr (.inr (.inr h6))))
    rw [okR, formB_other r h1 h2 h3 h4 h5 h6, Bool.and_false] at hk
    cases hk
  obtain ⟨k, t, p, s, o, n, v, x⟩ := r
  simp only at hkk
  rcases hkk with rfl | rfl | rfl | rfl | rfl | rfl
  · exact ⟨ent1 t p s o n v x, fun w => (entryOf_1 t p s o n v x w).mono fun _ _ h => EntOf.sure h hk, fun prev w => backOf_1 t p s o n v x prev w⟩
  · have hs : s = -1 := by
      have h := hk
      simp only [okR_2, eqR, Bool.and_eq_true, beq_iff_eq] at h
      omega
    subst hs
    exact ⟨ent2 t p (-1) o n v x, fun w => (entryOf_2 t p (-1) o n v x w).mono fun _ _ h => EntOf.sure h hk, fun prev w => backOf_2 t p (-1) o n v x prev w⟩
  · exact ⟨ent3 t p s o n v x, fun w => (entryOf_3 t p s o n v x w).mono fun _ _ h => EntOf.sure h hk, fun prev w => backOf_3 t p s o n v x prev w⟩
  · exact ⟨ent4 t p s o n v x, fun w => (entryOf_4 t p s o n v x w).mono fun _ _ h => EntOf.sure h hk, fun prev w => backOf_4 t p s o n v x prev w⟩
  · exact ⟨ent5 t p s o n v x, fun w => (entryOf_5 t p s o n v x w).mono fun _ _ h => EntOf.sure h hk, fun prev w => backOf_5 t p s o n v x prev w⟩
  · exact ⟨ent6 t p s o n v x, fun w => (entryOf_6 t p s o n v x w).mono fun _ _ h => EntOf.sure h hk, fun prev w => backOf_6 t p s o n v x prev w⟩

/-- the record that undoes r -/
def backR (r : R) (prev : Int) : R := ⟨6, r.t, r.p, r.s, 0, r.o, prev, r.v⟩
/-- whether there is one -/
def backB (r : R) (prev : Int) : Bool := okR r && (pu r.k && inB prev 0 150)
/-- no record -/
def zR : R := ⟨0, 0, 0, 0, 0, 0, 0, 0⟩
/-- what RecBack answers -/
def BackP (b : Bool) (r : R) (w : World) (e : Ending) (w' : World) : Prop := e = .returned (.tuple #[recV (if b then r else zR), .bool b]) ∧ Below w.heap.size w w'

set_option maxHeartbeats 2000000 in
theorem recBack_any (r : R) (prev : Int) (w : World) : Calls Try.prog 15 #[recV r, .int .i64 prev] w (BackP (backB r prev) (backR r prev) w) := by
  have R0 := Has.new (w.alloc (.cells #[.int .i64 r.k, .int .i64 r.t, .int .i64 r.p, .int .i64 r.s, .int .i64 r.o, .int .i64 r.n, .int .i64 r.v, .int .i64 r.x] 24)) 24 #[.int .i64 0, .int .i64 0, .int .i64 0, .int .i64 0, .int .i64 0, .int .i64 0, .int .i64 0, .int .i64 0]
  rw [World.size_alloc] at R0
  have H0 := Lib.hid R0
  clear R0
  cases hr : okR r
  · have HB : Hid (backB r prev = false) := by show backB r prev = false; simp [backB, hr]
    have E : Hid (∀ W, Calls Try.prog 38 #[recV r] W (EntB false W)) := fun W => by
      have := entryOf_b r W
      rwa [hr] at this
    clear hr
    go_enter Try.func15, Try.ntmps15
    go_wp2_with fail
    refine (E.out _).mono ?_
    rintro e w1 ⟨u, rfl, b1⟩
    have r1 := H0.out.below b1 (by simp)
    obtain ⟨d0, d1, d2, d3, d4, d5, d6, d7⟩ := eight r1
    have t0 := r1.frozen 0
    have t1 := r1.frozen 1
    have t2 := r1.frozen 2
    have t3 := r1.frozen 3
    have t4 := r1.frozen 4
    have t5 := r1.frozen 5
    have t6 := r1.frozen 6
    have t7 := r1.frozen 7
    have B1 : Hid (Below w.heap.size w w1) := (below_two _ _ _).trans (b1.mono (by simp; omega))
    clear b1 r1 E H0
    go_wp2
    refine bodyPost_ret (v := .tuple #[recV zR, .bool false]) (by simp [results, Try.results15, go_sem, zR, d0, d1, d2, d3, d4, d5, d6, d7]) rfl ⟨by rw [HB.out]; rfl, below_stR B1.out (by omega) zR⟩
  obtain ⟨u, hu⟩ := servesB r hr
  have U := Lib.hid hu
  cases hp : inB prev 0 150
  · have HB : Hid (backB r prev = false) := by show backB r prev = false; simp [backB, hp]
    have HP := Lib.hid hp
    clear hr hp hu
    go_enter Try.func15, Try.ntmps15
    go_wp2_with fail
    refine (U.out.entry _).mono ?_
    rintro e w1 ⟨rfl, b1⟩
    have r1 := H0.out.below b1 (by simp)
    obtain ⟨d0, d1, d2, d3, d4, d5, d6, d7⟩ := eight r1
    have t0 := r1.frozen 0
    have t1 := r1.frozen 1
    have t2 := r1.frozen 2
    have t3 := r1.frozen 3
    have t4 := r1.frozen 4
    have t5 := r1.frozen 5
    have t6 := r1.frozen 6
    have t7 := r1.frozen 7
    have B1 : Hid (Below w.heap.size w w1) := (below_two _ _ _).trans (b1.mono (by simp; omega))
    clear b1 r1 H0
    go_wp2_with fail
    refine (within_any _ _ _).mono ?_
    rintro e w2 ⟨rfl, rfl⟩
    rw [HP.out]
    go_wp2
    refine bodyPost_ret (v := .tuple #[recV zR, .bool false]) (by simp [results, Try.results15, go_sem, zR, d0, d1, d2, d3, d4, d5, d6, d7]) rfl ⟨by rw [HB.out]; rfl, below_stR B1.out (by omega) zR⟩
  have HP := Lib.hid hp
  have HB : Hid (backB r prev = pu r.k) := by show backB r prev = pu r.k; simp [backB, hp, hr]
  clear hr hp hu
  go_enter Try.func15, Try.ntmps15
  go_wp2_with fail
  refine (U.out.entry _).mono ?_
  rintro e w1 ⟨rfl, b1⟩
  have R1 := Lib.hid (H0.out.below b1 (by simp))
  have B1 : Hid (Below w.heap.size w w1) := (below_two _ _ _).trans (b1.mono (by simp; omega))
  have n1 : w.heap.size + 1 < w1.heap.size := R1.out.lt
  clear b1 H0
  go_wp2_with fail
  refine (within_any _ _ _).mono ?_
  rintro e w2 ⟨rfl, rfl⟩
  rw [HP.out]
  go_wp2_with fail
  refine (U.out.back prev _).mono ?_
  rintro e w2 ⟨rfl, b2⟩
  have r2 := R1.out.below b2 n1
  have B2 := Lib.hid (B1.out.trans (b2.mono (by omega)))
  have n2 : w.heap.size + 1 < w2.heap.size := r2.lt
  clear b2 R1 B1 U
  cases hk : pu r.k
  · have HK := Lib.hid hk
    clear hk
    have R3 := Lib.hid (r2.alloc (.cells #[.int .i64 0, .int .i64 0, .int .i64 0, .int .i64 0, .int .i64 0, .int .i64 0] 65))
    have B3 := Lib.hid (B2.out.alloc (by omega) (.cells #[.int .i64 0, .int .i64 0, .int .i64 0, .int .i64 0, .int .i64 0, .int .i64 0] 65))
    clear r2 B2
    go_upto_region 6 with (fail)
    generalize (w2.alloc (.cells #[.int .i64 0, .int .i64 0, .int .i64 0, .int .i64 0, .int .i64 0, .int .i64 0] 65)) = w3 at *
    have r1 := R3.out
    obtain ⟨d0, d1, d2, d3, d4, d5, d6, d7⟩ := eight r1
    have t0 := r1.frozen 0
    have t1 := r1.frozen 1
    have t2 := r1.frozen 2
    have t3 := r1.frozen 3
    have t4 := r1.frozen 4
    have t5 := r1.frozen 5
    have t6 := r1.frozen 6
    have t7 := r1.frozen 7
    clear r1
    go_wp2
    refine bodyPost_ret (v := .tuple #[recV zR, .bool false]) (by simp [results, Try.results15, go_sem, zR, d0, d1, d2, d3, d4, d5, d6, d7]) rfl ⟨by rw [HB.out, HK.out]; rfl, below_stR B3.out (by omega) zR⟩
  · have HK := Lib.hid hk
    clear hk
    have U3 := Lib.hid (Has.new w2 65 #[.int .i64 r.t, .int .i64 prev, .int .i64 r.p, .int .i64 r.s, .int .i64 r.o, .int .i64 r.v])
    have R3 := Lib.hid (r2.alloc (.cells #[.int .i64 r.t, .int .i64 prev, .int .i64 r.p, .int .i64 r.s, .int .i64 r.o, .int .i64 r.v] 65))
    have B3 := Lib.hid (B2.out.alloc (by omega) (.cells #[.int .i64 r.t, .int .i64 prev, .int .i64 r.p, .int .i64 r.s, .int .i64 r.o, .int .i64 r.v] 65))
    clear r2 B2
    go_upto_region 7 with (fail)
    generalize (w2.alloc (.cells #[.int .i64 r.t, .int .i64 prev, .int .i64 r.p, .int .i64 r.s, .int .i64 r.o, .int .i64 r.v] 65)) = w3 at *
    obtain ⟨c0, c1, c2, c3, c4, c5⟩ := six U3.out
    have n3 : w.heap.size + 1 < w3.heap.size := R3.out.lt
    go_wp2_with fail
    refine (undoRec_any r.t prev r.p r.s r.o r.v _).mono ?_
    rintro e w4 ⟨rfl, b4⟩
    have r1 := R3.out.below b4 n3
    have B4 := Lib.hid (B3.out.trans (b4.mono (by omega)))
    obtain ⟨d0, d1, d2, d3, d4, d5, d6, d7⟩ := eight r1
    have t0 := r1.frozen 0
    have t1 := r1.frozen 1
    have t2 := r1.frozen 2
    have t3 := r1.frozen 3
    have t4 := r1.frozen 4
    have t5 := r1.frozen 5
    have t6 := r1.frozen 6
    have t7 := r1.frozen 7
    clear b4 r1 R3 B3 U3 c0 c1 c2 c3 c4 c5
    go_wp2
    refine bodyPost_ret (v := .tuple #[recV (backR r prev), .bool true]) (by simp [results, Try.results15, go_sem, backR, d0, d1, d2, d3, d4, d5, d6, d7]) rfl ⟨by rw [HB.out, HK.out]; rfl, below_stR B4.out (by omega) (backR r prev)⟩

set_option maxHeartbeats 1000000 in
theorem l2Back_any (r : R) (prev : Int) (w : World) : Calls Try.prog 41 #[recV r, .int .i64 prev] w (Keeps (recV (backR r prev)) w) := by
  go_enter Try.func41, Try.ntmps41
  go_wp2
  refine bodyPost_ret (v := recV (backR r prev)) (by simp [results, Try.results41, go_sem, backR]) rfl ⟨rfl, ?_⟩
  go_grown

set_option maxHeartbeats 2000000 in
theorem specRecBack_any (r : R) (prev : Int) (w : World) : Calls Try.prog 14 #[recV r, .int .i64 prev] w (BackP (backB r prev) (backR r prev) w) := by
  have R0 := Has.new (w.alloc (.cells #[.int .i64 r.k, .int .i64 r.t, .int .i64 r.p, .int .i64 r.s, .int .i64 r.o, .int .i64 r.n, .int .i64 r.v, .int .i64 r.x] 24)) 24 #[.int .i64 0, .int .i64 0, .int .i64 0, .int .i64 0, .int .i64 0, .int .i64 0, .int .i64 0, .int .i64 0]
  rw [World.size_alloc] at R0
  have H0 := Lib.hid R0
  have Q0 := Lib.hid ((Has.new w 24 #[.int .i64 r.k, .int .i64 r.t, .int .i64 r.p, .int .i64 r.s, .int .i64 r.o, .int .i64 r.n, .int .i64 r.v, .int .i64 r.x]).alloc (.cells #[.int .i64 0, .int .i64 0, .int .i64 0, .int .i64 0, .int .i64 0, .int .i64 0, .int .i64 0, .int .i64 0] 24))
  clear R0
  go_enter Try.func14, Try.ntmps14
  go_wp2_with fail
  refine (specRecOk_any r _).mono ?_
  rintro e w1 ⟨rfl, b1⟩
  have r1 := H0.out.below b1 (by simp)
  have q1 := Q0.out.below b1 (by simp; omega)
  have B1 : Hid (Below w.heap.size w w1) := (below_two _ _ _).trans (b1.mono (by simp; omega))
  have n1 : w.heap.size + 1 < w1.heap.size := r1.lt
  obtain ⟨d0, d1, d2, d3, d4, d5, d6, d7⟩ := eight r1
  have t0 := r1.frozen 0
  have t1 := r1.frozen 1
  have t2 := r1.frozen 2
  have t3 := r1.frozen 3
  have t4 := r1.frozen 4
  have t5 := r1.frozen 5
  have t6 := r1.frozen 6
  have t7 := r1.frozen 7
  obtain ⟨c0, c1, c2, c3, c4, c5, c6, c7⟩ := eight q1
  have R1 := Lib.hid r1
  clear b1 H0 Q0 r1 q1
  cases hr : okR r
  · have HB : Hid (backB r prev = false) := by show backB r prev = false; simp [backB, hr]
    clear hr
    go_wp2
    refine bodyPost_ret (v := .tuple #[recV zR, .bool false]) (by simp [results, Try.results14, go_sem, zR, d0, d1, d2, d3, d4, d5, d6, d7]) rfl ⟨by rw [HB.out]; rfl, below_stR B1.out (by omega) zR⟩
  cases hk : pu r.k
  · have HB : Hid (backB r prev = false) := by show backB r prev = false; simp [backB, hk]
    have k1 : (r.k != 1) = true := by simp only [pu, Bool.or_eq_false_iff] at hk; simpa using hk.1
    have k2 : (r.k != 2) = true := by simp only [pu, Bool.or_eq_false_iff] at hk; simpa using hk.2
    clear hr hk
    go_wp2
    refine bodyPost_ret (v := .tuple #[recV zR, .bool false]) (by simp [results, Try.results14, go_sem, zR, d0, d1, d2, d3, d4, d5, d6, d7]) rfl ⟨by rw [HB.out]; rfl, below_stR B1.out (by omega) zR⟩
  have HK : Hid (backB r prev = inB prev 0 150) := by show backB r prev = inB prev 0 150; simp [backB, hk, hr]
  have hk12 : r.k = 1 ∨ r.k = 2 := by simpa [pu] using hk
  clear hr hk
  rcases hk12 with k1 | k2
  · have e1 : (r.k != 1) = false := by simp [k1]
    clear k1
    go_wp2_with fail
    refine (l6In_any prev 0 150 _).mono ?_
    rintro e w2 ⟨rfl, rfl⟩
    cases hp : inB prev 0 150
    · have HP := Lib.hid hp
      clear hp
      go_wp2
      refine bodyPost_ret (v := .tuple #[recV zR, .bool false]) (by simp [results, Try.results14, go_sem, zR, d0, d1, d2, d3, d4, d5, d6, d7]) rfl ⟨by rw [HK.out, HP.out]; rfl, below_stR B1.out (by omega) zR⟩
    · have HP := Lib.hid hp
      clear hp
      go_wp2_with fail
      refine (l2Back_any r prev _).mono ?_
      rintro e w3 ⟨rfl, b3⟩
      have r1 := R1.out.below b3 n1
      have B3 := Lib.hid (B1.out.trans (b3.mono (by omega)))
      clear c0 c1 c2 c3 c4 c5 c6 c7 d0 d1 d2 d3 d4 d5 d6 d7 t0 t1 t2 t3 t4 t5 t6 t7 b3
      obtain ⟨d0, d1, d2, d3, d4, d5, d6, d7⟩ := eight r1
      have t0 := r1.frozen 0
      have t1 := r1.frozen 1
      have t2 := r1.frozen 2
      have t3 := r1.frozen 3
      have t4 := r1.frozen 4
      have t5 := r1.frozen 5
      have t6 := r1.frozen 6
      have t7 := r1.frozen 7
      clear r1 R1
      go_wp2
      refine bodyPost_ret (v := .tuple #[recV (backR r prev), .bool true]) (by simp [results, Try.results14, go_sem, backR, d0, d1, d2, d3, d4, d5, d6, d7]) rfl ⟨by rw [HK.out, HP.out]; rfl, below_stR B3.out (by omega) (backR r prev)⟩
  · have e1 : (r.k != 1) = true := by simp [k2]
    have e2 : (r.k != 2) = false := by simp [k2]
    clear k2
    go_wp2_with fail
    refine (l6In_any prev 0 150 _).mono ?_
    rintro e w2 ⟨rfl, rfl⟩
    cases hp : inB prev 0 150
    · have HP := Lib.hid hp
      clear hp
      go_wp2
      refine bodyPost_ret (v := .tuple #[recV zR, .bool false]) (by simp [results, Try.results14, go_sem, zR, d0, d1, d2, d3, d4, d5, d6, d7]) rfl ⟨by rw [HK.out, HP.out]; rfl, below_stR B1.out (by omega) zR⟩
    · have HP := Lib.hid hp
      clear hp
      go_wp2_with fail
      refine (l2Back_any r prev _).mono ?_
      rintro e w3 ⟨rfl, b3⟩
      have r1 := R1.out.below b3 n1
      have B3 := Lib.hid (B1.out.trans (b3.mono (by omega)))
      clear c0 c1 c2 c3 c4 c5 c6 c7 d0 d1 d2 d3 d4 d5 d6 d7 t0 t1 t2 t3 t4 t5 t6 t7 b3
      obtain ⟨d0, d1, d2, d3, d4, d5, d6, d7⟩ := eight r1
      have t0 := r1.frozen 0
      have t1 := r1.frozen 1
      have t2 := r1.frozen 2
      have t3 := r1.frozen 3
      have t4 := r1.frozen 4
      have t5 := r1.frozen 5
      have t6 := r1.frozen 6
      have t7 := r1.frozen 7
      clear r1 R1
      go_wp2
      refine bodyPost_ret (v := .tuple #[recV (backR r prev), .bool true]) (by simp [results, Try.results14, go_sem, backR, d0, d1, d2, d3, d4, d5, d6, d7]) rfl ⟨by rw [HK.out, HP.out]; rfl, below_stR B3.out (by omega) (backR r prev)⟩
end Go.Proofs.Ytcahmiklcjlkmaa.Base
