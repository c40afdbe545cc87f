/-
  Contract of frame.with: a frame with another value in a slot, or with another owner. Conditions: the slot is -1, 0, 1 or 2.
-/
import Derived.Test.YtcahmiklcjlkmaaFrame
import Derived.Handy
namespace Go.Proofs.Ytcahmiklcjlkmaa.Base
open Go.RowKit

/-- the owner behind a change of slot s (-1: the owner) to n -/
def oW (s n o : Int) : Int := if s = -1 then n else o
/-- what is in slot i behind such a change -/
def sW (i s n z : Int) : Int := if s = -1 then (if n = 0 then 0 else z) else if s = i then n else z

set_option maxHeartbeats 2000000 in
theorem with_any (l o a b c s n : Int) (w : World) (h0 : -1 ≤ s) (h1 : s ≤ 2) :
    Calls Try.prog 59 #[frameV l o a b c, .int .i64 s, .int .i64 n] w (Keeps (frameV l (oW s n o) (sW 0 s n a) (sW 1 s n b) (sW 2 s n c)) w) := by
  have : s = -1 ∨ s = 0 ∨ s = 1 ∨ s = 2 := by omega
  rcases this with rfl | rfl | rfl | rfl
  · by_cases hn : n = 0
    · subst hn
      go_enter Try.func59, Try.ntmps59
      go_wp2
      refine bodyPost_ret (v := frameV l 0 0 0 0) (by simp [results, Try.results59, go_sem]) rfl ⟨by simp [oW, sW], ?_⟩
      go_grown
    · have Hn := Lib.hid hn
      have bn : (n == 0) = false := by simpa using hn
      clear hn
      go_enter Try.func59, Try.ntmps59
      go_wp2
      refine bodyPost_ret (v := frameV l n a b c) (by simp [results, Try.results59, go_sem]) rfl ⟨by simp [oW, sW, Hn.out], ?_⟩
      go_grown
  · go_enter Try.func59, Try.ntmps59
    go_wp2
    refine bodyPost_ret (v := frameV l o n b c) (by simp [results, Try.results59, go_sem]) rfl ⟨by simp [oW, sW], ?_⟩
    go_grown
  · go_enter Try.func59, Try.ntmps59
    go_wp2
    refine bodyPost_ret (v := frameV l o a n c) (by simp [results, Try.results59, go_sem]) rfl ⟨by simp [oW, sW], ?_⟩
    go_grown
  · go_enter Try.func59, Try.ntmps59
    go_wp2
    refine bodyPost_ret (v := frameV l o a b n) (by simp [results, Try.results59, go_sem]) rfl ⟨by simp [oW, sW], ?_⟩
    go_grown

end Go.Proofs.Ytcahmiklcjlkmaa.Base
