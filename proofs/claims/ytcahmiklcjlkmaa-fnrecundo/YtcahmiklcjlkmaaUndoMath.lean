/-
  A record, and what undoes it, applied to a page: the page is as it was. No program in it.
-/
import Derived.Test.YtcahmiklcjlkmaaDoMath
import Derived.Test.YtcahmiklcjlkmaaBack
namespace Go.Proofs.Ytcahmiklcjlkmaa.Base
open Go.RowKit

theorem back_parts {r : R} {prev : Int} (h : backB r prev = true) : okR r = true ∧ (r.k = 1 ∨ r.k = 2) ∧ 0 ≤ prev ∧ prev ≤ 150 := by
  simp only [backB, pu, inB, Bool.and_eq_true, Bool.or_eq_true, beq_iff_eq, decide_eq_true_eq] at h
  exact ⟨h.1, h.2.1, h.2.2⟩
theorem put_parts {r : R} (h : okR r = true) (hk : r.k = 1) : (1 ≤ r.t ∧ r.t ≤ 3) ∧ (0 ≤ r.v ∧ r.v ≤ 150) ∧ (0 ≤ r.p ∧ r.p ≤ 4) ∧ (0 ≤ r.s ∧ r.s ≤ 2) ∧ (0 ≤ r.o ∧ r.o ≤ 9) ∧ (0 ≤ r.n ∧ r.n ≤ 9) := by
  simp only [okR, formB, hk, ofB, inB, Bool.and_eq_true, decide_eq_true_eq, if_true, beq_iff_eq] at h
  have hm : most r.s = 9 := by unfold most; rw [if_neg (by omega)]
  rw [hm] at h
  omega
theorem own_parts {r : R} (h : okR r = true) (hk : r.k = 2) : (1 ≤ r.t ∧ r.t ≤ 3) ∧ (0 ≤ r.v ∧ r.v ≤ 150) ∧ (0 ≤ r.p ∧ r.p ≤ 4) ∧ r.s = -1 ∧ (0 ≤ r.o ∧ r.o ≤ 3) ∧ (0 ≤ r.n ∧ r.n ≤ 3) := by
  have h21 : ¬ (2 : Int) = 1 := by omega
  simp only [okR, formB, hk, h21, ofB, inB, Bool.and_eq_true, decide_eq_true_eq, if_true, if_false, beq_iff_eq] at h
  have hm : most r.s = 3 := by unfold most; rw [if_pos (by omega)]
  rw [hm] at h
  omega
/-- what undoes a record is valid -/
theorem back_ok {r : R} {prev : Int} (h : backB r prev = true) : okR ⟨6, r.t, r.p, r.s, 0, r.o, prev, r.v⟩ = true := by
  obtain ⟨hr, hk, hp⟩ := back_parts h
  rcases hk with hk | hk
  · have := put_parts hr hk
    have hs : ¬ r.s < 0 := by omega
    simp [okR, formB, ofB, inB, most, hs]
    omega
  · have := own_parts hr hk
    have hs : r.s < 0 := by omega
    simp [okR, formB, ofB, inB, most, hs]
    omega

/-- a slot filled, and undone -/
theorem undo_put {r : R} {prev : Int} (h : backB r prev = true) (hk : r.k = 1) (x y z : Int) (hx : x = if r.s = 0 then r.o else 4) (hy : y = if r.s = 1 then r.o else 5) (hz : z = if r.s = 2 then r.o else 6) :
    doB 0 2 [x, y, z] r 1 = true ∧ oW r.s r.n 2 = 2 ∧ doB 1 2 (newZ r [x, y, z]) ⟨6, r.t, r.p, r.s, 0, r.o, prev, r.v⟩ 2 = true ∧ oW r.s r.o 2 = 2 ∧ newZ ⟨6, r.t, r.p, r.s, 0, r.o, prev, r.v⟩ (newZ r [x, y, z]) = [x, y, z] := by
  obtain ⟨hr, _, hp⟩ := back_parts h
  have hb := put_parts hr hk
  have hbo := back_ok h
  obtain ⟨k, t, p, s, o, n, v, xx⟩ := r
  simp only at hk hb hx hy hz hbo
  subst hk
  have hs : s = 0 ∨ s = 1 ∨ s = 2 := by omega
  rcases hs with rfl | rfl | rfl
  all_goals
    simp at hx hy hz
    subst hx hy hz
    simp [doB, okP, okF, newZ, sW, oW, inB, chg, hr, hbo]
    omega
/-- an owner changed, and undone -/
theorem undo_own {r : R} {prev : Int} (h : backB r prev = true) (hk : r.k = 2) :
    doB 0 r.o [0, 0, 0] r 1 = true ∧ doB 1 (oW r.s r.n r.o) (newZ r [0, 0, 0]) ⟨6, r.t, r.p, r.s, 0, r.o, prev, r.v⟩ 2 = true ∧ oW r.s r.o (oW r.s r.n r.o) = r.o ∧ newZ ⟨6, r.t, r.p, r.s, 0, r.o, prev, r.v⟩ (newZ r [0, 0, 0]) = [0, 0, 0] := by
  obtain ⟨hr, _, hp⟩ := back_parts h
  have hb := own_parts hr hk
  have hbo := back_ok h
  obtain ⟨k, t, p, s, o, n, v, xx⟩ := r
  simp only at hk hb hbo
  obtain ⟨_, _, _, rfl, _, _⟩ := hb
  subst hk
  simp [doB, okP, okF, newZ, sW, oW, inB, chg, hr, hbo]
  omega
end Go.Proofs.Ytcahmiklcjlkmaa.Base
