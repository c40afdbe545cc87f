/-
  The laws' eqIntS on two rows with the same numbers. Conditions: the slices lead to numbers.
-/
import Derived.Test.YtjiclphpeoffdaaOwn
namespace Go.Proofs.Ytjiclphpeoffdaa.Base
open Go.RowKit

theorem eqIntS_same (xs : List Int) (a b : Option Addr) (ca cb B : Nat) (w : World) (_ : B ≤ w.heap.size) (hx : Ints .i64 w B a xs) (hy : Ints .i64 w B b xs) (mx : xs.length ≤ 1000000000) :
    Calls Try.prog 18 #[.slice a xs.length ca, .slice b xs.length cb] w (Keeps (.bool true) w) := by
  refine (eqIntS_any xs xs a b ca cb B w hx hy mx mx).mono ?_
  rintro e w' ⟨rfl, m, rfl⟩
  exact ⟨by simp, below_draws (Below.refl _ _) m⟩
end Go.Proofs.Ytjiclphpeoffdaa.Base
