/-
  Contracts of the program's LogOk and LogLast, and of the model's LogLast. Conditions: the slice leads to records.
-/
import Derived.Test.YtejbmjdipfcblaaLogNK
import Derived.Test.YtejbmjdipfcblaaGroundK
namespace Go.Proofs.Ytejbmjdipfcblaa.Base
open Go.RowKit

theorem logB_steps (rs : List R) (h : logB rs = true) : ∀ j, j < rs.length → stepB rs j = true := fun j hj => by
  cases hs : stepB rs j
  · rw [logB_bad rs j hj hs] at h
    cases h
  · rfl
theorem lastB_zero (rs : List R) (t : Int) (ht : t < 1 ∨ 3 < t) : lastB rs t = 0 := by
  unfold lastB
  cases h : logB rs
  · rfl
  · rw [lastN_zero rs t ht _ (logB_steps rs h)]
    rfl
theorem lastB_no (rs : List R) (t : Int) (h : logB rs = false) : lastB rs t = 0 := by
  unfold lastB
  rw [h]
  rfl
theorem lastB_yes (rs : List R) (t : Int) (h : logB rs = true) : lastB rs t = (lastN rs t rs.length : Int) := by
  unfold lastB
  rw [h]
  rfl

set_option maxHeartbeats 1000000 in
theorem logOk_any (rs : List R) (a : Option Addr) (cap B : Nat) (w : World) (hB : B ≤ w.heap.size) (hz : Recs w B a rs) (hc : rs.length ≤ cap) (mx : rs.length ≤ 1000000000) :
    Calls Try.prog 11 #[.slice a rs.length cap] w (Keeps (.bool (logB rs)) w) := by
  have Hz := Lib.hid hz
  clear hz
  go_enter Try.func11, Try.ntmps11
  go_wp2_with fail
  refine (lastNumbersOf_any rs a cap B _ hB Hz.out hc mx).mono ?_
  rintro e w1 ⟨rfl, b1⟩
  have B1 := Lib.hid b1
  have l1 := b1.size
  clear b1
  go_wp2
  go_ret
  exact ⟨rfl, B1.out.alloc l1 _⟩

set_option maxHeartbeats 1000000 in
theorem logLast_any (rs : List R) (t : Int) (a : Option Addr) (cap B : Nat) (w : World) (hB : B ≤ w.heap.size) (hz : Recs w B a rs) (hc : rs.length ≤ cap) (mx : rs.length ≤ 1000000000) :
    Calls Try.prog 17 #[.slice a rs.length cap, .int .i64 t] w (Keeps (.int .i64 (lastB rs t)) w) := by
  have Hz := Lib.hid hz
  clear hz
  cases hk : logB rs
  · have Hk := Lib.hid hk
    have Hl := Lib.hid (lastB_no rs t hk)
    clear hk
    go_enter Try.func17, Try.ntmps17
    go_wp2_with fail
    refine (lastNumbersOf_any rs a cap B _ hB Hz.out hc mx).mono ?_
    rintro e w1 ⟨rfl, b1⟩
    have B1 := Lib.hid b1
    have l1 := b1.size
    clear b1
    rw [Hk.out]
    go_wp2
    go_ret
    exact ⟨ret_int Hl.out.symm, B1.out.alloc l1 _⟩
  · have Hk := Lib.hid hk
    clear hk
    cases hi : inB t 0 3
    · have Hi := Lib.hid hi
      have Hl : Hid (lastB rs t = 0) := by
        show lastB rs t = 0
        refine lastB_zero rs t ?_
        simp [inB] at hi
        omega
      clear hi
      go_enter Try.func17, Try.ntmps17
      go_wp2_with fail
      refine (lastNumbersOf_any rs a cap B _ hB Hz.out hc mx).mono ?_
      rintro e w1 ⟨rfl, b1⟩
      have B1 := Lib.hid b1
      have l1 := b1.size
      clear b1
      rw [Hk.out]
      go_wp2_with (go_at_call 35; refine (within_any _ _ _).mono ?_; rintro e w2 ⟨rfl, rfl⟩; rw [Hi.out])
      go_ret
      exact ⟨ret_int Hl.out.symm, B1.out.alloc l1 _⟩
    · have Hi := Lib.hid hi
      have ht : t = 0 ∨ t = 1 ∨ t = 2 ∨ t = 3 := by
        simp [inB] at hi
        omega
      have Hl := Lib.hid (lastB_zero rs 0 (by omega))
      clear hi
      rcases ht with rfl | rfl | rfl | rfl
      all_goals
        go_enter Try.func17, Try.ntmps17
        go_wp2_with fail
        refine (lastNumbersOf_any rs a cap B _ hB Hz.out hc mx).mono ?_
        rintro e w1 ⟨rfl, b1⟩
        have B1 := Lib.hid b1
        have l1 := b1.size
        clear b1
        rw [Hk.out]
        go_wp2_with (go_at_call 35; refine (within_any _ _ _).mono ?_; rintro e w2 ⟨rfl, rfl⟩; rw [Hi.out])
        go_ret
        exact ⟨ret_int (by first | rfl | exact Hl.out.symm), B1.out.alloc l1 _⟩

set_option maxHeartbeats 1000000 in
theorem specLogLast_any (rs : List R) (t : Int) (a : Option Addr) (cap B : Nat) (w : World) (hB : B ≤ w.heap.size) (hz : Recs w B a rs) (hc : rs.length ≤ cap) (mx : rs.length ≤ 1000000000) :
    Calls Try.prog 19 #[.slice a rs.length cap, .int .i64 t] w (Keeps (.int .i64 (lastB rs t)) w) := by
  have Hz := Lib.hid hz
  clear hz
  go_enter Try.func19, Try.ntmps19
  go_wp2_with fail
  refine (specLogOk_any rs a cap B _ hB Hz.out hc mx).mono ?_
  rintro e w1 ⟨rfl, b1⟩
  have B1 := Lib.hid b1
  clear b1
  cases hk : logB rs
  · have Hl := Lib.hid (lastB_no rs t hk)
    clear hk
    go_wp2
    go_ret
    exact ⟨ret_int Hl.out.symm, B1.out⟩
  · have Hl := Lib.hid (lastB_yes rs t hk)
    clear hk
    go_wp2_with (go_at_call 33; refine (l3Last_any rs rs.length t a cap B _ (Nat.le_refl _) (Hz.out.below (B1.out.mono hB)) mx).mono ?_; rintro e w2 ⟨rfl, rfl⟩)
    go_ret
    exact ⟨ret_int Hl.out.symm, B1.out⟩
end Go.Proofs.Ytejbmjdipfcblaa.Base

/-
  Contract of the laws' comparison eqRec, of a record with itself. No conditions.
-/
namespace Go.Proofs.Ytejbmjdipfcblaa.Base
open Go.RowKit

end Go.Proofs.Ytejbmjdipfcblaa.Base
