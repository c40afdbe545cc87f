/-
  Contracts of the program's nextOk and closes. Conditions: the slice leads to records; the record's Next is a number from 0 to 150.
-/
import Derived.Test.YtjiclphpeoffdaaLogMath
import Derived.Test.YtjiclphpeoffdaaRecOkI
import Derived.Deep.RegionHeld3
namespace Go.Proofs.Ytjiclphpeoffdaa.Base
open Go.RowKit

/-- the Next of a record, behind the first k -/
def nextB (rs : List R) (k : Nat) (r : R) : Bool := (r.x == 0) || (decide (r.x ≤ (k : Int)) && ((recAt rs (r.x - 1).toNat).t == r.t))

set_option maxHeartbeats 1000000 in
theorem nextOk_any (rs : List R) (k : Nat) (r : R) (a : Option Addr) (cap B : Nat) (w : World) (hk : k ≤ rs.length) (hz : Recs w B a rs) (hB : B ≤ w.heap.size) (x0 : 0 ≤ r.x) (x1 : r.x ≤ 150) :
    Calls Try.prog 50 #[.slice a k cap, recV r] w (Keeps (.bool (nextB rs k r)) w) := by
  have Hz := Lib.hid hz
  clear hz
  by_cases h0 : r.x = 0
  · have b0 : (r.x == 0) = true := by simp [h0]
    have Hq : Hid (nextB rs k r = true) := by show nextB rs k r = true; simp [nextB, h0]
    clear h0
    go_enter Try.func50, Try.ntmps50
    go_wp2
    go_quiet (fail)
    go_wp2
    go_ret
    exact ⟨ret_bool Hq.out.symm, below_draws (below_one _ _) _⟩
  · have b0 : (r.x == 0) = false := by simp [h0]
    by_cases hx : r.x ≤ (k : Int)
    · obtain ⟨kk, t, p, s, o', n, v, x⟩ := r
      simp only at x0 x1 h0 b0 hx
      obtain ⟨m, rfl⟩ : ∃ m : Nat, x = (m : Int) + 1 := ⟨(x - 1).toNat, by omega⟩
      obtain ⟨g, o, rfl, hgB, hr⟩ := Hz.out (by omega)
      have hgs : g < w.heap.size := by omega
      have e1 := (hr m (by omega)).t
      have bx : decide ((m : Int) + 1 ≤ (k : Int)) = true := by rw [decide_eq_true_eq]; exact hx
      have bx' : (m : Int) + 1 ≤ (k : Int) := hx
      have hwr : IntKind.i64.wrap (m : Int) = (m : Int) := IntWalk.i64_in _ (by omega)
      have hm0 : (0 : Int) ≤ (m : Int) := by omega
      have hm1 : (m : Int) < (k : Int) := by omega
      have hm2 : m < k := by omega
      have hmm : ((m : Int) + 1 - 1).toNat = m := by omega
      have Hq : Hid (nextB rs k ⟨kk, t, p, s, o', n, v, (m : Int) + 1⟩ = ((recAt rs m).t == t)) := by
        show nextB rs k ⟨kk, t, p, s, o', n, v, (m : Int) + 1⟩ = ((recAt rs m).t == t)
        unfold nextB
        simp only [b0, bx, hmm]
        simp
      clear hr h0 hx x0 x1 hmm
      generalize (recAt rs m).t = z at e1 Hq
      cases bt : (z == t)
      all_goals
        go_enter Try.func50, Try.ntmps50
        go_wp2
        go_quiet (fail)
        go_wp2
        go_ret
        exact ⟨ret_bool (by rw [Hq.out, bt]), below_draws (below_one _ _) _⟩
    · have bx : decide (r.x ≤ (k : Int)) = false := by simp; omega
      have Hq : Hid (nextB rs k r = false) := by show nextB rs k r = false; simp [nextB, h0, hx]
      clear h0
      go_enter Try.func50, Try.ntmps50
      go_wp2
      go_quiet (fail)
      go_wp2
      go_ret
      exact ⟨ret_bool Hq.out.symm, below_draws (below_one _ _) _⟩

set_option maxHeartbeats 1000000 in
theorem closes_any (r : R) (w : World) : Calls Try.prog 60 #[recV r] w (Keeps (.bool (endR r)) w) := by
  have Hd : Hid (endR r = ((r.k == 4) || (r.k == 5))) := rfl
  cases b4 : (r.k == 4) <;> cases b5 : (r.k == 5)
  all_goals
    go_enter Try.func60, Try.ntmps60
    go_wp2
    go_ret
    exact ⟨ret_bool (by rw [Hd.out, b4, b5]; rfl), below_one _ _⟩
end Go.Proofs.Ytjiclphpeoffdaa.Base
