/-
  Contracts of the small functions of pages: within, l6In, frame.empty, frame.page, PageNew (of the program and of the model). No conditions.
-/
import Derived.Test.YtoihdbcdlodkgaaRows
import Derived.Test.YtoihdbcdlodkgaaWords
import Derived.WalkKit
import Derived.ProofKit
import Derived.Below
import Derived.RegionTactic
import Derived.ChangeAlike
import Derived.ChangeKeysEq
import Derived.Deep.QuietTactic
import Derived.BigQuiet
import Derived.StillTailTactics
import Derived.Lib.Hide
namespace Go.Proofs.Ytoihdbcdlodkgaa.Base
open Go.RowKit

/-- a number from low to high, as a Bool -/
def inB (n low high : Int) : Bool := decide (low ≤ n) && decide (n ≤ high)

theorem infoInt : (Try.prog.info? 3).map (fun i => (i.zero, i.size, i.bytes)) = some (some (.int .i64 0), 1, 8) := by kernel_rfl

/-- two arrays of three numbers, compared -/
theorem eq3 (a b c x y z : Int) (w : World) :
    (Op.equalIn 10000 31 (.agg #[.int .i64 a, .int .i64 b, .int .i64 c]) (.agg #[.int .i64 x, .int .i64 y, .int .i64 z])).run Try.prog w = .ok (a == x && (b == y && c == z)) w := by
  obtain ⟨i0, hi, _, _, _⟩ := info_parts infoInt
  rw [show (10000 : Nat) = 9999 + 1 from rfl, run_equalIn_array w 9999 _ _ Try.underlying31 hi]
  have hc : Try.prog.cellsOf 3 = 1 := by kernel_rfl
  have hp : ∀ (cs : Array Value) (i : Nat) (v : Value) (w : World), cs[i]? = some v → (part 3 cs i).run Try.prog w = .ok v w := fun cs i v w h => by
    simp [part, isAgg, run_underlying Try.underlying3, h]
  rw [hc]
  simp only [List.range_succ, List.range_zero, List.nil_append, List.cons_append, Op.eqItems, Sem.run_bind, Nat.mul_one]
  rw [hp _ 0 (.int .i64 a) w rfl, Result.andThen_ok, hp _ 0 (.int .i64 x) w rfl, Result.andThen_ok, run_equalIn_int w _ _ _ _ _ _ Try.underlying3, Result.andThen_ok]
  cases a == x
  · simp
  · simp only [Bool.not_true, Bool.false_eq_true, if_false, Bool.true_and, Sem.run_bind]
    rw [hp _ 1 (.int .i64 b) w rfl, Result.andThen_ok, hp _ 1 (.int .i64 y) w rfl, Result.andThen_ok, run_equalIn_int w _ _ _ _ _ _ Try.underlying3, Result.andThen_ok]
    cases b == y
    · simp
    · simp only [Bool.not_true, Bool.false_eq_true, if_false, Bool.true_and, Sem.run_bind]
      rw [hp _ 2 (.int .i64 c) w rfl, Result.andThen_ok, hp _ 2 (.int .i64 z) w rfl, Result.andThen_ok, run_equalIn_int w _ _ _ _ _ _ Try.underlying3, Result.andThen_ok]
      cases c == z <;> simp
attribute [local go_sem] eq3

/-- a frame, as a value -/
abbrev frameV (l o a b c : Int) : Value := .agg #[.int .i64 l, .int .i64 o, .int .i64 a, .int .i64 b, .int .i64 c]
/-- a page, as a value: its slots lie at the address 's', 'n' of them -/
abbrev pageV (l o : Int) (s : Option Addr) (n cap : Nat) : Value := .agg #[.int .i64 l, .int .i64 o, .slice s n cap]

/-- what frame.page leaves: a new block with the five numbers -/
def FPage (l o a b c : Int) (w : World) (e : Ending) (w' : World) : Prop :=
  e = .returned (pageV l o (some ⟨w.heap.size, 2, none⟩) 3 3) ∧ Below w.heap.size w w' ∧ Has w' w.heap.size 33 #[.int .i64 l, .int .i64 o, .int .i64 a, .int .i64 b, .int .i64 c]

set_option maxHeartbeats 400000 in
theorem fpage_any (l o a b c : Int) (w : World) :
    Calls Try.prog 24 #[frameV l o a b c] w (FPage l o a b c w) := by
  go_enter Try.func24, Try.ntmps24
  go_wp2
  go_region
  all_goals go_wp2
  refine bodyPost_ret (v := pageV l o (some ⟨w.heap.size, 2, none⟩) 3 3) (by simp [results, Try.results24, go_sem]) rfl ⟨rfl, ?_, ?_⟩
  · exact (((Below.refl _ _).alloc (Nat.le_refl _) _).alloc (by simp) _).drew
  · exact (Has.new w _ _).alloc _

/-- what PageNew leaves: a free page, its slots three zeros in a new block -/
def NewPage (w : World) (e : Ending) (w' : World) : Prop :=
  ∃ (g o : Nat), e = .returned (pageV 0 0 (some ⟨g, o, none⟩) 3 3) ∧ Below w.heap.size w w' ∧ w.heap.size ≤ g ∧ Rd .i64 w' g o [0, 0, 0] ∧ Wr w' g o 3

theorem make3 (w : World) : (Instr.makeSlice 42 (.int .i64 3) (.int .i64 3)).run Try.prog w = .ok (.slice (some ⟨w.heap.size, 0, none⟩) 3 3) (w.alloc (.cells #[.int .i64 0, .int .i64 0, .int .i64 0] 3)) := by
  obtain ⟨i0, hi, hz, hs, hb⟩ := info_parts infoInt
  rw [run_make w _ _ i0 _ Try.underlying42 hi hz .i64 .i64 3 3 (by omega) (by omega) (by rw [hb]; omega) (by omega), hs, show Int.toNat 3 = 3 from rfl, madeInts]
  rfl
attribute [local go_sem] make3

set_option maxHeartbeats 400000 in
theorem specPageNew_any (w : World) : Calls Try.prog 17 #[] w (NewPage w) := by
  go_enter Try.func17, Try.ntmps17
  go_wp2
  refine bodyPost_ret (v := pageV 0 0 (some ⟨w.heap.size + 1, 0, none⟩) 3 3) (by simp [results, Try.results17, go_sem]) rfl ⟨w.heap.size + 1, 0, rfl, ?_, by omega, ?_, ?_⟩
  · exact ((Below.refl _ _).alloc (Nat.le_refl _) _).alloc (by simp) _
  · have h3 := Has.new (w.alloc (.cells #[.int .i64 0, .int .i64 0, .slice (some ⟨w.heap.size + 1, 0, none⟩) 3 3] 44)) 3 #[.int .i64 0, .int .i64 0, .int .i64 0]
    simp only [World.size_alloc] at h3
    intro j hj
    rw [h3.cell]
    match j, hj with
    | 0, _ => rfl
    | 1, _ => rfl
    | 2, _ => rfl
  · have h3 := Has.new (w.alloc (.cells #[.int .i64 0, .int .i64 0, .slice (some ⟨w.heap.size + 1, 0, none⟩) 3 3] 44)) 3 #[.int .i64 0, .int .i64 0, .int .i64 0]
    simp only [World.size_alloc] at h3
    exact h3.wr _ _

end Go.Proofs.Ytoihdbcdlodkgaa.Base
