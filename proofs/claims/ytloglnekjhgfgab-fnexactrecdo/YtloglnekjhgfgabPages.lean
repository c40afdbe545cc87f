/-
  Contracts of the laws' helpers on pages: eqPage, markPage, heldPage. Conditions: the slots' slices lead to numbers.
-/
import Derived.Test.YtloglnekjhgfgabInts
namespace Go.Proofs.Ytloglnekjhgfgab.Base
open Go.RowKit

/-- it answers v, and nothing that was there has turned -/
def Keeps (v : Value) (w : World) (e : Ending) (w' : World) : Prop := e = .returned v ∧ Below w.heap.size w w'

theorem below_two (w : World) (x y : Obj) : Below w.heap.size w ((w.alloc x).alloc y) := ((Below.refl _ _).alloc (Nat.le_refl _) _).alloc (by simp) _
theorem below_one (w : World) (x : Obj) : Below w.heap.size w (w.alloc x) := (Below.refl _ _).alloc (Nat.le_refl _) _

set_option maxHeartbeats 1000000 in
theorem eqPage_any (l l' o o' : Int) (xs ys : List Int) (a b : Option Addr) (ca cb B : Nat) (w : World) (hB : B ≤ w.heap.size) (hx : Ints .i64 w B a xs) (hy : Ints .i64 w B b ys) (mx : xs.length ≤ 1000000000) (my : ys.length ≤ 1000000000) :
    Calls Try.prog 10 #[pageV l o a xs.length ca, pageV l' o' b ys.length cb] w (Keeps (.bool ((l == l') && ((o == o') && (xs == ys)))) w) := by
  have Hx := Lib.hid hx
  have Hy := Lib.hid hy
  clear hx hy
  by_cases h1 : l = l'
  · have b1 : (l != l') = false := by simp [h1]
    have H1 := Lib.hid h1
    clear h1
    by_cases h2 : o = o'
    · have b2 : (o != o') = false := by simp [h2]
      have H2 := Lib.hid h2
      clear h2
      go_enter Try.func10, Try.ntmps10
      go_wp2_with fail
      refine (eqIntS_any xs ys a b ca cb B _ (Hx.out.below ((below_two _ _ _).mono hB)) (Hy.out.below ((below_two _ _ _).mono hB)) mx my).mono ?_
      rintro e w1 ⟨rfl, m, rfl⟩
      cases hq : (xs == ys)
      · have Hq := Lib.hid hq
        clear hq
        go_wp2
        go_ret
        exact ⟨ret_bool (by rw [Hq.out]; simp), below_draws (below_two _ _ _) _⟩
      · have Hq := Lib.hid hq
        clear hq
        go_wp2
        go_ret
        exact ⟨ret_bool (by rw [Hq.out, H1.out, H2.out]; simp), below_draws (below_two _ _ _) _⟩
    · have b2 : (o != o') = true := by simp [h2]
      have b3 : Hid ((o == o') = false) := by show (o == o') = false; simp [h2]
      clear h2
      go_enter Try.func10, Try.ntmps10
      go_wp2
      go_ret
      exact ⟨ret_bool (by rw [b3.out]; simp), below_two _ _ _⟩
  · have b1 : (l != l') = true := by simp [h1]
    have b3 : Hid ((l == l') = false) := by show (l == l') = false; simp [h1]
    clear h1
    go_enter Try.func10, Try.ntmps10
    go_wp2
    go_ret
    exact ⟨ret_bool (by rw [b3.out]; simp), below_two _ _ _⟩

/-- what markPage leaves: the numbers k, k + 1, .. in the page's slots; no other block that was there has turned -/
def MarkedP (k : Int) (g o n : Nat) (w : World) (e : Ending) (w' : World) : Prop :=
  e = .returned (.int .i64 (k + n)) ∧ w.grownBy w' (some g) ∧ Rd .i64 w' g o (marks k n) ∧ Wr w' g o n

set_option maxHeartbeats 1000000 in
theorem markPage_any (l ow : Int) (zs : List Int) (g o cap : Nat) (k : Int) (w : World) (hr : Rd .i64 w g o zs) (hw : Wr w g o zs.length) (k0 : 0 ≤ k) (k1 : k ≤ 1000000000000) (mx : zs.length ≤ 1000000000) :
    Calls Try.prog 11 #[pageV l ow (some ⟨g, o, none⟩) zs.length cap, .int .i64 k] w (MarkedP k g o zs.length w) := by
  have Hr := Lib.hid hr
  have Hw := Lib.hid hw
  have hg := hw.1
  clear hr hw
  go_enter Try.func11, Try.ntmps11
  go_wp2_with fail
  refine (markIntS_any zs g o cap k _ (Hr.out.below (below_one _ _) hg) (Hw.out.below (below_one _ _) hg) k0 k1 mx).mono ?_
  rintro e w1 ⟨rfl, h1, h2, h3, h4⟩
  have H1 := Lib.hid h1
  have H3 := Lib.hid h3
  have H4 := Lib.hid h4
  clear h1 h2 h3 h4
  go_wp2
  go_ret
  have h := H1.out
  exact ⟨rfl, ⟨h.os, h.tape, h.output, Nat.le_trans (by simp) h.size, fun i hi hn => (h.block i (by simp; omega) hn).trans (Below.heap_alloc _ _ _ hi)⟩, H3.out, H4.out⟩

set_option maxHeartbeats 1000000 in
theorem heldPage_any (l ow : Int) (n : Nat) (a : Option Addr) (cap B : Nat) (k : Int) (w : World) (hB : B ≤ w.heap.size) (hr : Ints .i64 w B a (marks k n)) (k0 : 0 ≤ k) (k1 : k ≤ 1000000000000) (mx : n ≤ 1000000000) :
    Calls Try.prog 12 #[pageV l ow a n cap, .int .i64 k] w (Keeps (.int .i64 (k + n)) w) := by
  have Hr := Lib.hid hr
  clear hr
  go_enter Try.func12, Try.ntmps12
  go_wp2_with fail
  refine (heldIntS_any n a cap B k _ (Hr.out.below ((below_one _ _).mono hB)) k0 k1 mx).mono ?_
  rintro e w1 ⟨rfl, rfl⟩
  go_wp2
  go_ret
  exact ⟨rfl, below_one _ _⟩
end Go.Proofs.Ytloglnekjhgfgab.Base
