/-
  Contracts of the laws' helpers on pages: eqPage, markPage, heldPage. Conditions: the slots' slices lead to numbers.
-/
import Derived.Test.YtoihdbcdlodkgaaInts
namespace Go.Proofs.Ytoihdbcdlodkgaa.Base
open Go.RowKit

/-- it answers v, and nothing that was there has turned -/
def Keeps (v : Value) (w : World) (e : Ending) (w' : World) : Prop := e = .returned v ∧ Below w.heap.size w w'

theorem below_two (w : World) (x y : Obj) : Below w.heap.size w ((w.alloc x).alloc y) := ((Below.refl _ _).alloc (Nat.le_refl _) _).alloc (by simp) _
theorem below_one (w : World) (x : Obj) : Below w.heap.size w (w.alloc x) := (Below.refl _ _).alloc (Nat.le_refl _) _

set_option maxHeartbeats 1000000 in
theorem eqPage_any (l l' o o' : Int) (xs ys : List Int) (a b : Option Addr) (ca cb B : Nat) (w : World) (hB : B ≤ w.heap.size) (hx : Ints .i64 w B a xs) (hy : Ints .i64 w B b ys) (mx : xs.length ≤ 1000000000) (my : ys.length ≤ 1000000000) :
    Calls Try.prog 20 #[pageV l o a xs.length ca, pageV l' o' b ys.length cb] w (Keeps (.bool ((l == l') && ((o == o') && (xs == ys)))) w) := by
  have Hx := Lib.hid hx
  have Hy := Lib.hid hy
  clear hx hy
  by_cases h1 : l = l'
  · have b1 : (l != l') = false := by simp [h1]
    have H1 := Lib.hid h1
    clear h1
    by_cases h2 : o = o'
    · have b2 : (o != o') = false := by simp [h2]
      have H2 := Lib.hid h2
      clear h2
      go_enter Try.func20, Try.ntmps20
      go_wp2_with fail
      refine (eqIntS_any xs ys a b ca cb B _ (Hx.out.below ((below_two _ _ _).mono hB)) (Hy.out.below ((below_two _ _ _).mono hB)) mx my).mono ?_
      rintro e w1 ⟨rfl, m, rfl⟩
      cases hq : (xs == ys)
      · have Hq := Lib.hid hq
        clear hq
        go_wp2
        go_ret
        exact ⟨ret_bool (by rw [Hq.out]; simp), below_draws (below_two _ _ _) _⟩
      · have Hq := Lib.hid hq
        clear hq
        go_wp2
        go_ret
        exact ⟨ret_bool (by rw [Hq.out, H1.out, H2.out]; simp), below_draws (below_two _ _ _) _⟩
    · have b2 : (o != o') = true := by simp [h2]
      have b3 : Hid ((o == o') = false) := by show (o == o') = false; simp [h2]
      clear h2
      go_enter Try.func20, Try.ntmps20
      go_wp2
      go_ret
      exact ⟨ret_bool (by rw [b3.out]; simp), below_two _ _ _⟩
  · have b1 : (l != l') = true := by simp [h1]
    have b3 : Hid ((l == l') = false) := by show (l == l') = false; simp [h1]
    clear h1
    go_enter Try.func20, Try.ntmps20
    go_wp2
    go_ret
    exact ⟨ret_bool (by rw [b3.out]; simp), below_two _ _ _⟩

/-- what markPage leaves: the numbers k, k + 1, .. in the page's slots; no other block that was there has turned -/
def MarkedP (k : Int) (g o n : Nat) (w : World) (e : Ending) (w' : World) : Prop :=
  e = .returned (.int .i64 (k + n)) ∧ w.grownBy w' (some g) ∧ Rd .i64 w' g o (marks k n) ∧ Wr w' g o n

end Go.Proofs.Ytoihdbcdlodkgaa.Base
