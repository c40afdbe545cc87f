/-
  Contract of the program's RecRead, for every text, and of the model's l2Num. Conditions: the package variables hold what the program's text lays there (RecRead).
-/
import Derived.Test.YtoihdbcdlodkgaaGreatDoorRead3
namespace Go.Proofs.YtoihdbcdlodkgaaGreatDoor.Base
open Go.RowKit

theorem readB_false {s : List UInt8} (h : readB s = false) : readR s = ⟨0, 0, 0, 0, 0, 0, 0, 0⟩ := by
  unfold readB at h
  have hx : ¬ ∃ r, IsText s r := by simpa using h
  exact (readR_none fun r hr => hx ⟨r, hr⟩).1
/-- what RecRead leaves -/
def Reads (s : ByteArray) (w : World) (e : Ending) (w' : World) : Prop :=
  e = .returned (.tuple #[recV (readR s.data.toList), .bool (readB s.data.toList)]) ∧ Below w.heap.size w w'

set_option maxRecDepth 100000 in
set_option maxHeartbeats 1000000 in
theorem recRead_any (s : ByteArray) (p : Addr) (w : World) (hl : LaidE p w) : Calls Tryz.prog 8 #[.string s] w (Reads s w) := by
  have L := Lib.hid hl
  clear hl
  go_enter Tryz.func8, Tryz.ntmps8
  go_wp2_with fail
  refine (parse_any s p _ (L.out.below (below_one _ _))).mono ?_
  rintro e w2 ⟨rfl, b2⟩
  have B2 : Hid (Below w.heap.size w w2) := (below_one _ _).trans (b2.mono (by simp))
  have Q2 := Lib.hid ((Has.new w 23 #[.int .i64 0, .int .i64 0, .int .i64 0, .int .i64 0, .int .i64 0, .int .i64 0, .int .i64 0, .int .i64 0]).below b2 (by simp))
  have ls := Q2.out.lt
  clear b2
  cases hb : readB s.data.toList
  · have hr := readB_false hb
    have Hp : Hid (∀ w', Below w.heap.size w w' → Reads s w (.returned (.tuple #[recV ⟨0, 0, 0, 0, 0, 0, 0, 0⟩, .bool false])) w') := fun w' b => ⟨by rw [hr, hb], b⟩
    rw [hr]
    clear hr hb
    simp only [errOf, Bool.false_eq_true, if_false]
    have er := (L.out.below (B2.out.alloc (by omega) (.cells #[.int .i64 0, .int .i64 0, .int .i64 0, .int .i64 0, .int .i64 0, .int .i64 0, .int .i64 0, .int .i64 0] 23))).err
    have Q3 := Lib.hid (Q2.out.alloc (.cells #[.int .i64 0, .int .i64 0, .int .i64 0, .int .i64 0, .int .i64 0, .int .i64 0, .int .i64 0, .int .i64 0] 23))
    have B3 := Lib.hid (B2.out.alloc (by omega) (.cells #[.int .i64 0, .int .i64 0, .int .i64 0, .int .i64 0, .int .i64 0, .int .i64 0, .int .i64 0, .int .i64 0] 23))
    obtain ⟨r0, r1, r2, r3, r4, r5, r6, r7⟩ := eightZ Q3.out
    have f0 := Q3.out.frozen 0
    have f1 := Q3.out.frozen 1
    have f2 := Q3.out.frozen 2
    have f3 := Q3.out.frozen 3
    have f4 := Q3.out.frozen 4
    have f5 := Q3.out.frozen 5
    have f6 := Q3.out.frozen 6
    have f7 := Q3.out.frozen 7
    go_upto_region 2 with (fail)
    generalize (w2.alloc (.cells #[.int .i64 0, .int .i64 0, .int .i64 0, .int .i64 0, .int .i64 0, .int .i64 0, .int .i64 0, .int .i64 0] 23)) = w3 at *
    go_wp2_with fail
    refine (is_same p _).mono ?_
    rintro e w4 ⟨rfl, rfl⟩
    go_wp2
    refine bodyPost_ret (v := .tuple #[recV ⟨0, 0, 0, 0, 0, 0, 0, 0⟩, .bool false]) (by simp [results, Tryz.results8, go_sem, r0, r1, r2, r3, r4, r5, r6, r7]) rfl (Hp.out _ ?_)
    exact (((((((B3.out.setCell (Nat.le_refl _) _).setCell (Nat.le_refl _) _).setCell (Nat.le_refl _) _).setCell (Nat.le_refl _) _).setCell (Nat.le_refl _) _).setCell (Nat.le_refl _) _).setCell (Nat.le_refl _) _).setCell (Nat.le_refl _) _
  · obtain ⟨r, hr⟩ : ∃ r, readR s.data.toList = r := ⟨_, rfl⟩
    have Hp : Hid (∀ w', Below w.heap.size w w' → Reads s w (.returned (.tuple #[recV r, .bool true])) w') := fun w' b => ⟨by rw [hr, hb], b⟩
    rw [hr]
    clear hr hb
    simp only [errOf, if_true]
    have er := (L.out.below (B2.out.alloc (by omega) (.cells #[.int .i64 r.k, .int .i64 r.t, .int .i64 r.p, .int .i64 r.s, .int .i64 r.o, .int .i64 r.n, .int .i64 r.v, .int .i64 r.x] 23))).err
    have Q3 := Lib.hid (Q2.out.alloc (.cells #[.int .i64 r.k, .int .i64 r.t, .int .i64 r.p, .int .i64 r.s, .int .i64 r.o, .int .i64 r.n, .int .i64 r.v, .int .i64 r.x] 23))
    have B3 := Lib.hid (B2.out.alloc (by omega) (.cells #[.int .i64 r.k, .int .i64 r.t, .int .i64 r.p, .int .i64 r.s, .int .i64 r.o, .int .i64 r.n, .int .i64 r.v, .int .i64 r.x] 23))
    have N3 := Lib.hid (Has.new w2 23 #[.int .i64 r.k, .int .i64 r.t, .int .i64 r.p, .int .i64 r.s, .int .i64 r.o, .int .i64 r.n, .int .i64 r.v, .int .i64 r.x])
    obtain ⟨r0, r1, r2, r3, r4, r5, r6, r7⟩ := eightZ Q3.out
    obtain ⟨c0, c1, c2, c3, c4, c5, c6, c7⟩ := eight N3.out
    have f0 := Q3.out.frozen 0
    have f1 := Q3.out.frozen 1
    have f2 := Q3.out.frozen 2
    have f3 := Q3.out.frozen 3
    have f4 := Q3.out.frozen 4
    have f5 := Q3.out.frozen 5
    have f6 := Q3.out.frozen 6
    have f7 := Q3.out.frozen 7
    go_upto_region 2 with (fail)
    generalize (w2.alloc (.cells #[.int .i64 r.k, .int .i64 r.t, .int .i64 r.p, .int .i64 r.s, .int .i64 r.o, .int .i64 r.n, .int .i64 r.v, .int .i64 r.x] 23)) = w3 at *
    go_wp2_with fail
    refine (is_nil p _).mono ?_
    rintro e w4 ⟨rfl, rfl⟩
    go_wp2
    refine bodyPost_ret (v := .tuple #[recV r, .bool true]) (by simp [results, Tryz.results8, go_sem, r0, r1, r2, r3, r4, r5, r6, r7]) rfl (Hp.out _ ?_)
    exact (((((((B3.out.setCell (Nat.le_refl _) _).setCell (Nat.le_refl _) _).setCell (Nat.le_refl _) _).setCell (Nat.le_refl _) _).setCell (Nat.le_refl _) _).setCell (Nat.le_refl _) _).setCell (Nat.le_refl _) _).setCell (Nat.le_refl _) _
end Go.Proofs.YtoihdbcdlodkgaaGreatDoor.Base
