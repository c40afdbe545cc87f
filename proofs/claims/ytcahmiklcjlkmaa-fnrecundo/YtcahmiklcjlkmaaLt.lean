/-
  Contracts of the laws' comparisons ltInts and ltHas, and of DrawPageText. Conditions: the slices lead to numbers; the code is a slice of bytes.
-/
import Derived.Test.YtcahmiklcjlkmaaPages
import Derived.Test.YtcahmiklcjlkmaaDrawP
namespace Go.Proofs.Ytcahmiklcjlkmaa.Base
open Go.RowKit

set_option maxHeartbeats 1000000 in
theorem ltInts_any (xs ys : List Int) (a b : Option Addr) (ca cb B : Nat) (w : World) (hx : Ints .i64 w B a xs) (hy : Ints .i64 w B b ys) (mx : xs.length ≤ 1000000000) (my : ys.length ≤ 1000000000) :
    Calls Try.prog 48 #[.slice a xs.length ca, .slice b ys.length cb] w (Quiet (.bool (xs == ys)) w) := by
  by_cases hl : xs.length = ys.length
  · have Hx := Lib.hid hx
    have Hy := Lib.hid hy
    have hd : ((xs.length : Int) != (ys.length : Int)) = false := by simp [hl]
    clear hx hy
    have Hl := Lib.hid hl
    have hle : ys.length ≤ xs.length := by omega
    have hle' : xs.length ≤ ys.length := by omega
    clear hl
    go_enter Try.func48, Try.ntmps48
    go_wp2
    go_loopw [5] (fun i w1 => ∃ k m : Nat, k ≤ xs.length ∧ i = .int .i64 k ∧ w1 = w.drewN m ∧ ∀ j, j < k → xs.getD j 0 = ys.getD j 0) (fun i _ => xs.length - (intOf i).toNat)
    case atStart => exact ⟨0, 0, Nat.zero_le _, rfl, rfl, fun j hj => absurd hj (by omega)⟩
    case round =>
      obtain ⟨k, m, hk, rfl, rfl, heq⟩ := hrel
      have Heq := Lib.hid heq
      clear heq
      by_cases hlt : k < xs.length
      · obtain ⟨g, o, rfl, _, hr⟩ := Hx.out (by omega)
        obtain ⟨g', o', rfl, _, hr'⟩ := Hy.out (by omega)
        have c1 := hr k hlt
        have c2 := hr' k (by omega)
        clear hr hr'
        by_cases he : xs.getD k 0 = ys.getD k 0
        · have hb : (xs.getD k 0 != ys.getD k 0) = false := by rw [he]; simp
          have He := Lib.hid he
          clear he
          generalize xs.getD k 0 = u at c1 hb
          generalize ys.getD k 0 = v at c2 hb
          have hlt2 : k < ys.length := by omega
          go_wp2
          go_quiet (fail)
          go_wp2
          exact ⟨⟨k + 1, _, by omega, by go_num, rfl, fun j hj => by
            rcases Nat.lt_succ_iff_lt_or_eq.1 hj with h | rfl
            · exact Heq.out j h
            · exact He.out⟩, by simp [intOf]; omega⟩
        · have hb : (xs.getD k 0 != ys.getD k 0) = true := by simpa using he
          have He := Lib.hid (getD_ne xs ys k he)
          clear he
          generalize xs.getD k 0 = u at c1 hb
          generalize ys.getD k 0 = v at c2 hb
          have hlt2 : k < ys.length := by omega
          go_wp2
          go_quiet (fail)
          go_wp2
          go_ret
          exact ⟨ret_bool He.out.symm, _, World.drewN_drewN _ _ _⟩
      · go_wp2
        go_ret
        have e : xs = ys := eq_of_getD xs ys Hl.out (fun j hj => Heq.out j (by omega))
        exact ⟨ret_bool (by rw [e]; simp), m, rfl⟩
  · have hd : ((xs.length : Int) != (ys.length : Int)) = true := by simp; omega
    have He : Hid ((xs == ys) = false) := by
      show (xs == ys) = false
      rw [beq_eq_false_iff_ne]
      rintro rfl
      exact hl rfl
    clear hx hy hl
    go_enter Try.func48, Try.ntmps48
    go_wp2
    go_ret
    exact ⟨ret_bool He.out.symm, 0, rfl⟩

set_option maxHeartbeats 1000000 in
theorem ltHas_any (l l' o o' : Int) (xs ys : List Int) (a b : Option Addr) (ca cb B : Nat) (w : World) (hB : B ≤ w.heap.size) (hx : Ints .i64 w B a xs) (hy : Ints .i64 w B b ys) (mx : xs.length ≤ 1000000000) (my : ys.length ≤ 1000000000) :
    Calls Try.prog 17 #[pageV l o a xs.length ca, pageV l' o' b ys.length cb] w (Keeps (.bool ((o == o') && (xs == ys))) w) := by
  have Hx := Lib.hid hx
  have Hy := Lib.hid hy
  clear hx hy
  cases h2 : (o == o')
  · have H2 : Hid ((o == o') = false) := h2
    go_enter Try.func17, Try.ntmps17
    go_wp2
    go_ret
    exact ⟨ret_bool (by simp), below_two _ _ _⟩
  · go_enter Try.func17, Try.ntmps17
    go_wp2_with fail
    refine (ltInts_any xs ys a b ca cb B _ (Hx.out.below ((below_two _ _ _).mono hB)) (Hy.out.below ((below_two _ _ _).mono hB)) mx my).mono ?_
    rintro e w1 ⟨rfl, m, rfl⟩
    clear h2
    go_wp2
    go_ret
    exact ⟨ret_bool (by simp), below_draws (below_two _ _ _) _⟩

end Go.Proofs.Ytcahmiklcjlkmaa.Base
