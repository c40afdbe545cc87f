/-
  Contracts of the program's RecOk, and of the laws' toRec. No conditions.
-/
import Derived.Test.YtejbmjdipfcblaaEntsK
import Derived.Test.YtejbmjdipfcblaaMathsK
namespace Go.Proofs.Ytejbmjdipfcblaa.Base
open Go.RowKit

/-- what entryOf answers: whether the record is valid; which entry is not said -/
def EntB (b : Bool) (w : World) (e : Ending) (w' : World) : Prop := ∃ v, e = .returned (.tuple #[v, .bool b]) ∧ Below w.heap.size w w'
theorem EntOf.some {b : Bool} {v : Value} {w w' : World} {e : Ending} (h : EntOf b v w e w') : EntB b w e w' := ⟨_, h.1, h.2⟩

theorem entryOf_b (r : R) (w : World) : Calls Try.prog 52 #[recV r] w (EntB (okR r) w) := by
  by_cases h1 : r.k = 1
  · obtain ⟨k, t, p, s, o, n, v, x⟩ := r
    subst h1
    exact (entryOf_1 t p s o n v x w).mono fun _ _ h => EntOf.some h
  by_cases h2 : r.k = 2
  · obtain ⟨k, t, p, s, o, n, v, x⟩ := r
    subst h2
    exact (entryOf_2 t p s o n v x w).mono fun _ _ h => EntOf.some h
  by_cases h3 : r.k = 3
  · obtain ⟨k, t, p, s, o, n, v, x⟩ := r
    subst h3
    exact (entryOf_3 t p s o n v x w).mono fun _ _ h => EntOf.some h
  by_cases h4 : r.k = 4
  · obtain ⟨k, t, p, s, o, n, v, x⟩ := r
    subst h4
    exact (entryOf_4 t p s o n v x w).mono fun _ _ h => EntOf.some h
  by_cases h5 : r.k = 5
  · obtain ⟨k, t, p, s, o, n, v, x⟩ := r
    subst h5
    exact (entryOf_5 t p s o n v x w).mono fun _ _ h => EntOf.some h
  by_cases h6 : r.k = 6
  · obtain ⟨k, t, p, s, o, n, v, x⟩ := r
    subst h6
    exact (entryOf_6 t p s o n v x w).mono fun _ _ h => EntOf.some h
  exact (entryOf_0 r w h1 h2 h3 h4 h5 h6).mono fun _ _ h => EntOf.some h

set_option maxHeartbeats 400000 in
theorem recOk_any (r : R) (w : World) : Calls Try.prog 40 #[recV r] w (Keeps (.bool (okR r)) w) := by
  go_enter Try.func40, Try.ntmps40
  go_wp2_with fail
  refine (entryOf_b r _).mono ?_
  rintro e w1 ⟨u, rfl, b1⟩
  have B1 : Hid (Below w.heap.size w w1) := (below_one _ _).trans (b1.mono (by simp))
  clear b1
  go_wp2
  go_ret
  exact ⟨rfl, B1.out⟩

end Go.Proofs.Ytejbmjdipfcblaa.Base
