/-
  An entry of a valid record, whatever its kind: what entryOf answers, and what frame.after does with it. No conditions but that the record is valid.
-/
import Derived.Test.YtcahmiklcjlkmaaAfter
import Derived.Test.YtcahmiklcjlkmaaRecOkI
namespace Go.Proofs.Ytcahmiklcjlkmaa.Base
open Go.RowKit

/-- what frame.after leaves of a frame, behind the entry of record r -/
def AftC (r : R) (l lsn q a b c : Int) (w : World) (e : Ending) (w' : World) : Prop :=
  e = .returned (.tuple #[if chg r.k && aftB l lsn r.s r.n q a b c then frameV lsn (oW r.s r.n q) (sW 0 r.s r.n a) (sW 1 r.s r.n b) (sW 2 r.s r.n c) else frameV 0 0 0 0 0, .bool (chg r.k && aftB l lsn r.s r.n q a b c)]) ∧ Below w.heap.size w w'

/-- an entry that serves for r -/
structure Serves (r : R) (u : Value) : Prop where
  entry : ∀ w, Calls Try.prog 38 #[recV r] w (Keeps (.tuple #[u, .bool true]) w)
  after : ∀ (l q a b c lsn : Int) (w : World), Calls Try.prog 46 #[frameV l q a b c, u, .int .i64 lsn] w (AftC r l lsn q a b c w)

theorem EntOf.yes {b : Bool} {v : Value} {w w' : World} {e : Ending} (h : EntOf b v w e w') (hb : b = true) : Keeps (.tuple #[v, .bool true]) w e w' := by
  subst hb
  exact h

theorem kinds_of (r : R) (hk : okR r = true) : r.k = 1 ∨ r.k = 2 ∨ r.k = 3 ∨ r.k = 4 ∨ r.k = 5 ∨ r.k = 6 := by
  by_cases h1 : r.k = 1
  · exact .inl h1
  by_cases h2 : r.k = 2
  · exact .inr (.inl h2)
  by_cases h3 : r.k = 3
  · exact .inr (.inr (.inl h3))
  by_cases h4 : r.k = 4
  · exact .inr (.inr (.inr (.inl h4)))
  by_cases h5 : r.k = 5
  · exact .inr (.inr (.inr (.inr (.inl h5))))
  by_cases h6 : r.k = 6
  · exact .inr (.inr (.inr (.inr (.inr h6))))
  rw [okR, formB_other r h1 h2 h3 h4 h5 h6, Bool.and_false] at hk
  cases hk

theorem serves (r : R) (hk : okR r = true) : ∃ u, Serves r u := by
  have hkk := kinds_of r hk
  obtain ⟨k, t, p, s, o, n, v, x⟩ := r
  simp only at hkk
  rcases hkk with rfl | rfl | rfl | rfl | rfl | rfl
  · have hs : 0 ≤ s ∧ s ≤ 2 := by
      have h := hk
      simp only [okR_1, okPut, inB, Bool.and_eq_true, decide_eq_true_eq] at h
      omega
    exact ⟨ent1 t p s o n v x, fun w => (entryOf_1 t p s o n v x w).mono fun _ _ h => EntOf.yes h hk, fun l q a b c lsn w => (after_1 l q a b c lsn t p s o n v x w hs.1 hs.2).mono fun _ _ h => h⟩
  · have hs : s = -1 := by
      have h := hk
      simp only [okR_2, eqR, Bool.and_eq_true, beq_iff_eq] at h
      omega
    subst hs
    exact ⟨ent2 t p (-1) o n v x, fun w => (entryOf_2 t p (-1) o n v x w).mono fun _ _ h => EntOf.yes h hk, fun l q a b c lsn w => (after_2 l q a b c lsn t p (-1) o n v x w).mono fun _ _ h => h⟩
  · exact ⟨ent3 t p s o n v x, fun w => (entryOf_3 t p s o n v x w).mono fun _ _ h => EntOf.yes h hk, fun l q a b c lsn w => (after_3 l q a b c lsn t p s o n v x w).mono fun _ _ h => h⟩
  · exact ⟨ent4 t p s o n v x, fun w => (entryOf_4 t p s o n v x w).mono fun _ _ h => EntOf.yes h hk, fun l q a b c lsn w => (after_4 l q a b c lsn t p s o n v x w).mono fun _ _ h => h⟩
  · exact ⟨ent5 t p s o n v x, fun w => (entryOf_5 t p s o n v x w).mono fun _ _ h => EntOf.yes h hk, fun l q a b c lsn w => (after_5 l q a b c lsn t p s o n v x w).mono fun _ _ h => h⟩
  · have hs : -1 ≤ s ∧ s ≤ 2 := by
      have h := hk
      simp only [okR_6, okUndo, inB, Bool.and_eq_true, decide_eq_true_eq] at h
      obtain ⟨⟨_, _, _, h⟩, _⟩ := h
      split at h
      · omega
      · simp only [Bool.and_eq_true, decide_eq_true_eq] at h
        omega
    exact ⟨ent6 t p s o n v x, fun w => (entryOf_6 t p s o n v x w).mono fun _ _ h => EntOf.yes h hk, fun l q a b c lsn w => (after_6 l q a b c lsn t p s o n v x w hs.1 hs.2).mono fun _ _ h => h⟩

end Go.Proofs.Ytcahmiklcjlkmaa.Base
