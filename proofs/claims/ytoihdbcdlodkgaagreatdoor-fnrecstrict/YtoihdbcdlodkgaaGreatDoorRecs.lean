/-
  Records: as values, which are valid, which are the same; contracts of the model's l2Of, RecOk and l2Changes, and of toRec. No conditions.
-/
import Derived.Test.YtoihdbcdlodkgaaGreatDoorSpec
import Derived.Test.YtoihdbcdlodkgaaGreatDoorStruct
import Derived.Handy
import Derived.Laws.StructEq
namespace Go.Proofs.YtoihdbcdlodkgaaGreatDoor.Base
open Go.RowKit

/-- a record: its kind, transaction, page, slot, old and new value, the record ahead of it, and the next one to undo -/
structure R where
  k : Int
  t : Int
  p : Int
  s : Int
  o : Int
  n : Int
  v : Int
  x : Int

/-- a record, as a value -/
abbrev recV (r : R) : Value := .agg #[.int .i64 r.k, .int .i64 r.t, .int .i64 r.p, .int .i64 r.s, .int .i64 r.o, .int .i64 r.n, .int .i64 r.v, .int .i64 r.x]

/-- the same record -/
def eqR (a b : R) : Bool := (a.k == b.k) && ((a.t == b.t) && ((a.p == b.p) && ((a.s == b.s) && ((a.o == b.o) && ((a.n == b.n) && ((a.v == b.v) && (a.x == b.x)))))))
theorem eqR_refl (a : R) : eqR a a = true := by simp [eqR]
theorem eqR_iff (a b : R) : eqR a b = true ↔ a = b := by
  constructor
  · intro h
    simp only [eqR, Bool.and_eq_true, beq_iff_eq] at h
    obtain ⟨h1, h2, h3, h4, h5, h6, h7, h8⟩ := h
    cases a
    cases b
    simp_all
  · rintro rfl
    exact eqR_refl a

/-- two records, compared -/
theorem eq8 (a b : R) (w : World) : (Op.equalIn 10000 23 (recV a) (recV b)).run Tryz.prog w = .ok (eqR a b) w := by
  rw [show (10000 : Nat) = 9999 + 1 from rfl, run_equalIn_struct w 9999 _ _ _ (by kernel_rfl) (by kernel_rfl)]
  rw [show (9999 : Nat) = 9998 + 1 from rfl, run_eqFields_ints 9998 3 Tryz.underlying3 _ _ w _ [0, 1, 2, 3, 4, 5, 6, 7] (by kernel_rfl) (by simp [cellN])]
  simp [cellN, eqR]

theorem neq8 (a b c d e f g h a' b' c' d' e' f' g' h' : Int) (w : World) :
    (binOp .neq 23 (.agg #[.int .i64 a, .int .i64 b, .int .i64 c, .int .i64 d, .int .i64 e, .int .i64 f, .int .i64 g, .int .i64 h]) (.agg #[.int .i64 a', .int .i64 b', .int .i64 c', .int .i64 d', .int .i64 e', .int .i64 f', .int .i64 g', .int .i64 h'])).run Tryz.prog w = .ok (.bool (!eqR ⟨a, b, c, d, e, f, g, h⟩ ⟨a', b', c', d', e', f', g', h'⟩)) w := by
  rw [run_neq_struct, eq8 ⟨a, b, c, d, e, f, g, h⟩ ⟨a', b', c', d', e', f', g', h'⟩ w]
  rfl
theorem eql8 (a b c d e f g h a' b' c' d' e' f' g' h' : Int) (w : World) :
    (binOp .eql 23 (.agg #[.int .i64 a, .int .i64 b, .int .i64 c, .int .i64 d, .int .i64 e, .int .i64 f, .int .i64 g, .int .i64 h]) (.agg #[.int .i64 a', .int .i64 b', .int .i64 c', .int .i64 d', .int .i64 e', .int .i64 f', .int .i64 g', .int .i64 h'])).run Tryz.prog w = .ok (.bool (eqR ⟨a, b, c, d, e, f, g, h⟩ ⟨a', b', c', d', e', f', g', h'⟩)) w := by
  rw [run_eql_struct, eq8 ⟨a, b, c, d, e, f, g, h⟩ ⟨a', b', c', d', e', f', g', h'⟩ w]
  rfl

/-- the greatest number that a slot takes: of an owner, or of a value -/
def most (s : Int) : Int := if s < 0 then 3 else 9
/-- page, slot, old and new number are in range -/
def ofB (r : R) : Bool := inB r.p 0 4 && (inB r.s (-1) 2 && (inB r.o 0 (most r.s) && inB r.n 0 (most r.s)))
/-- the fields of its kind -/
def formB (r : R) : Bool :=
  if r.k = 1 then ofB r && (decide (0 ≤ r.s) && (r.x == 0))
  else if r.k = 2 then ofB r && (decide (r.s < 0) && (r.x == 0))
  else if r.k = 6 then ofB r && (r.o == 0)
  else if r.k = 3 then inB r.p 0 4 && ((r.s == 0) && ((r.o == 0) && ((r.n == 0) && (r.x == 0))))
  else if r.k = 4 ∨ r.k = 5 then (r.p == 0) && ((r.s == 0) && ((r.o == 0) && ((r.n == 0) && (r.x == 0))))
  else false
/-- a valid record -/
def okR (r : R) : Bool := (inB r.t 1 3 && (inB r.v 0 150 && inB r.x 0 150)) && formB r

set_option maxHeartbeats 1000000 in
theorem l2Of_any (r : R) (w : World) : Calls Tryz.prog 39 #[recV r] w (Keeps (.bool (ofB r)) w) := by
  by_cases hs : r.s < 0
  · have Hm : Hid (most r.s = 3) := by show most r.s = 3; simp [most, hs]
    go_enter Tryz.func39, Tryz.ntmps39
    go_wp2_with (go_at_call 29; refine (l6In_any _ _ _ _).mono ?_; rintro e w1 ⟨rfl, rfl⟩)
    all_goals
      go_ret
      exact ⟨ret_bool (by have hm := Hm.out; clear Hm; simp_all [ofB]), below_one _ _⟩
  · have Hm : Hid (most r.s = 9) := by show most r.s = 9; simp [most, hs]
    go_enter Tryz.func39, Tryz.ntmps39
    go_wp2_with (go_at_call 29; refine (l6In_any _ _ _ _).mono ?_; rintro e w1 ⟨rfl, rfl⟩)
    all_goals
      go_ret
      exact ⟨ret_bool (by have hm := Hm.out; clear Hm; simp_all [ofB]), below_one _ _⟩

theorem eight {w : World} {g : Nat} {t : TypeId} {a b c d e f x y : Value} (h : Has w g t #[a, b, c, d, e, f, x, y]) :
    w.cell? ⟨g, 0, none⟩ = some a ∧ w.cell? ⟨g, 1, none⟩ = some b ∧ w.cell? ⟨g, 2, none⟩ = some c ∧ w.cell? ⟨g, 3, none⟩ = some d ∧ w.cell? ⟨g, 4, none⟩ = some e ∧ w.cell? ⟨g, 5, none⟩ = some f ∧ w.cell? ⟨g, 6, none⟩ = some x ∧ w.cell? ⟨g, 7, none⟩ = some y :=
  ⟨h.cell 0, h.cell 1, h.cell 2, h.cell 3, h.cell 4, h.cell 5, h.cell 6, h.cell 7⟩

end Go.Proofs.YtoihdbcdlodkgaaGreatDoor.Base
