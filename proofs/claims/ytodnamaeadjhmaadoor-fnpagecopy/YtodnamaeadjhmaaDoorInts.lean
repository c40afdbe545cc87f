/-
  Contracts of the laws' helpers on []int: eqIntS, markIntS, heldIntS, szIntS, toIntS. Conditions: the slices lead to numbers (Words); what is added stays within int.
-/
import Derived.Test.YtodnamaeadjhmaaDoorBase
namespace Go.Proofs.YtodnamaeadjhmaaDoor.Base
open Go.RowKit

theorem getD_ne (xs ys : List Int) (k : Nat) (hne : xs.getD k 0 ≠ ys.getD k 0) : (xs == ys) = false := by
  rw [beq_eq_false_iff_ne]
  rintro rfl
  exact hne rfl
theorem eq_of_getD (xs ys : List Int) (hl : xs.length = ys.length) (h : ∀ j, j < xs.length → xs.getD j 0 = ys.getD j 0) : xs = ys := by
  apply List.ext_getElem hl
  intro i h1 h2
  have := h i h1
  simpa [List.getD_eq_getElem?_getD, List.getElem?_eq_getElem h1, List.getElem?_eq_getElem h2] using this

theorem ret_bool {a b : Bool} (h : a = b) : Ending.returned (.bool a) = .returned (.bool b) := by rw [h]
theorem ret_int {a b : Int} (h : a = b) : Ending.returned (.int .i64 a) = .returned (.int .i64 b) := by rw [h]
/-- it answers v, and has only drawn -/
def Quiet (v : Value) (w : World) (e : Ending) (w' : World) : Prop := e = .returned v ∧ ∃ m, w' = w.drewN m

set_option maxHeartbeats 1000000 in
theorem eqIntS_any (xs ys : List Int) (a b : Option Addr) (ca cb B : Nat) (w : World) (hx : Ints .i64 w B a xs) (hy : Ints .i64 w B b ys) (mx : xs.length ≤ 1000000000) (my : ys.length ≤ 1000000000) :
    Calls Tryd.prog 24 #[.slice a xs.length ca, .slice b ys.length cb] w (Quiet (.bool (xs == ys)) w) := by
  by_cases hl : xs.length = ys.length
  · have Hx := Lib.hid hx
    have Hy := Lib.hid hy
    have hd : ((xs.length : Int) != (ys.length : Int)) = false := by simp [hl]
    clear hx hy
    have Hl := Lib.hid hl
    have hle : ys.length ≤ xs.length := by omega
    have hle' : xs.length ≤ ys.length := by omega
    clear hl
    go_enter Tryd.func24, Tryd.ntmps24
    go_wp2
    go_loopw [5] (fun i w1 => ∃ k m : Nat, k ≤ xs.length ∧ i = .int .i64 k ∧ w1 = w.drewN m ∧ ∀ j, j < k → xs.getD j 0 = ys.getD j 0) (fun i _ => xs.length - (intOf i).toNat)
    case atStart => exact ⟨0, 0, Nat.zero_le _, rfl, rfl, fun j hj => absurd hj (by omega)⟩
    case round =>
      obtain ⟨k, m, hk, rfl, rfl, heq⟩ := hrel
      have Heq := Lib.hid heq
      clear heq
      by_cases hlt : k < xs.length
      · obtain ⟨g, o, rfl, _, hr⟩ := Hx.out (by omega)
        obtain ⟨g', o', rfl, _, hr'⟩ := Hy.out (by omega)
        have c1 := hr k hlt
        have c2 := hr' k (by omega)
        clear hr hr'
        by_cases he : xs.getD k 0 = ys.getD k 0
        · have hb : (xs.getD k 0 != ys.getD k 0) = false := by rw [he]; simp
          have He := Lib.hid he
          clear he
          generalize xs.getD k 0 = u at c1 hb
          generalize ys.getD k 0 = v at c2 hb
          have hlt2 : k < ys.length := by omega
          go_wp2
          go_quiet (fail)
          go_wp2
          exact ⟨⟨k + 1, _, by omega, by go_num, rfl, fun j hj => by
            rcases Nat.lt_succ_iff_lt_or_eq.1 hj with h | rfl
            · exact Heq.out j h
            · exact He.out⟩, by simp [intOf]; omega⟩
        · have hb : (xs.getD k 0 != ys.getD k 0) = true := by simpa using he
          have He := Lib.hid (getD_ne xs ys k he)
          clear he
          generalize xs.getD k 0 = u at c1 hb
          generalize ys.getD k 0 = v at c2 hb
          have hlt2 : k < ys.length := by omega
          go_wp2
          go_quiet (fail)
          go_wp2
          go_ret
          exact ⟨ret_bool He.out.symm, _, World.drewN_drewN _ _ _⟩
      · go_wp2
        go_ret
        have e : xs = ys := eq_of_getD xs ys Hl.out (fun j hj => Heq.out j (by omega))
        exact ⟨ret_bool (by rw [e]; simp), m, rfl⟩
  · have hd : ((xs.length : Int) != (ys.length : Int)) = true := by simp; omega
    have He : Hid ((xs == ys) = false) := by
      show (xs == ys) = false
      rw [beq_eq_false_iff_ne]
      rintro rfl
      exact hl rfl
    clear hx hy hl
    go_enter Tryd.func24, Tryd.ntmps24
    go_wp2
    go_ret
    exact ⟨ret_bool He.out.symm, 0, rfl⟩

/-- k, k + 1, .. : n numbers -/
def marks (k : Int) (n : Nat) : List Int := (List.range n).map fun i => k + (i : Nat)
theorem marks_len (k : Int) (n : Nat) : (marks k n).length = n := by simp [marks]
theorem marks_get (k : Int) (n j : Nat) (h : j < n) : (marks k n).getD j 0 = k + j := by
  simp [marks, List.getD_eq_getElem?_getD, h]

/-- what markIntS leaves: the numbers k, k + 1, .. in its slice; no other block has turned -/
def Marked (k : Int) (g o n : Nat) (w : World) (e : Ending) (w' : World) : Prop :=
  e = .returned (.int .i64 (k + n)) ∧ w.grownBy w' (some g) ∧ w'.heap.size = w.heap.size ∧ Rd .i64 w' g o (marks k n) ∧ Wr w' g o n

/-- what is left of a count when n is taken -/
def leftOf (left n : Int) : Int := if left - n < 0 then -1 else left - n
set_option maxHeartbeats 400000 in
theorem szIntS_any (a : Option Addr) (n cap : Nat) (left : Int) (w : World) (l0 : -1 ≤ left) (l1 : left ≤ 1000000000000) (mx : n ≤ maxLen) :
    Calls Tryd.prog 22 #[.slice a n cap, .int .i64 left] w fun e w' => e = .returned (.int .i64 (leftOf left n)) ∧ w = w' := by
  unfold maxLen at mx
  by_cases h : left - (n : Int) < 0
  · go_enter Tryd.func22, Tryd.ntmps22
    go_wp2
    go_ret
    exact ⟨ret_int (by unfold leftOf; rw [if_pos h]), rfl⟩
  · go_enter Tryd.func22, Tryd.ntmps22
    go_wp2
    go_ret
    exact ⟨ret_int (by unfold leftOf; rw [if_neg (by omega)]), rfl⟩
end Go.Proofs.YtodnamaeadjhmaaDoor.Base
