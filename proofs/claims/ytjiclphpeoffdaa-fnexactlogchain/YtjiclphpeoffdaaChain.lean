/-
  The program's iterator over the records of one: chainOf. Conditions: the slice leads to records.
-/
import Derived.Test.YtjiclphpeoffdaaLogL
import Derived.Test.YtjiclphpeoffdaaOwn
import Derived.RangeFuncNested
import Derived.RangeFuncBound
import Derived.RangeFuncCalls
import Derived.RangeFuncLeaves
import Derived.RangeFuncBox
import Derived.Shelf.Abstract
import Derived.Shelf.RegionOpen
import Derived.OwnWalkIn
import Derived.TacticsInMore
import Derived.LoopNIn
import Derived.LoopIn
import Derived.Maps.AppendAt
namespace Go.Proofs.Ytjiclphpeoffdaa.Base
open Go.RowKit Go.Shelf

attribute [local go_sem] Oper.semAt_some

/-- a log's numbers of one, the last one first, from a number on; never more than 'fuel' -/
def chainN (rs : List R) : Nat → Nat → List Nat
  | 0, _ => []
  | _ + 1, 0 => []
  | fuel + 1, k + 1 => (k + 1) :: chainN rs fuel (recAt rs k).v.toNat
/-- the numbers of one from a number on -/
def chainC (rs : List R) (k : Nat) : List Nat := chainN rs k k
/-- in a log the record ahead has a smaller number -/
theorem step_prev (rs : List R) (n : Nat) (h : stepB rs n = true) : (recAt rs n).v.toNat ≤ n ∧ 0 ≤ (recAt rs n).v := by
  unfold stepB at h
  simp only [Bool.and_eq_true, beq_iff_eq] at h
  have := lastN_le rs (recAt rs n).t n
  omega
theorem chainN_zero (rs : List R) : ∀ fuel, chainN rs fuel 0 = []
  | 0 => rfl
  | _ + 1 => rfl
theorem chainN_fuel (rs : List R) (m : Nat) (hs : ∀ j, j < m → stepB rs j = true) : ∀ (k fuel : Nat), k ≤ fuel → k ≤ m → chainN rs fuel k = chainN rs k k := by
  intro k
  induction k using Nat.strongRecOn with
  | _ k ih =>
    intro fuel hf hm
    match k, fuel, hf with
    | 0, fuel, _ => rw [chainN_zero, chainN_zero]
    | k + 1, fuel + 1, hf =>
      have hp := (step_prev rs k (hs k (by omega))).1
      unfold chainN
      rw [ih _ (by omega) fuel (by omega) (by omega), ih _ (by omega) k (by omega) (by omega)]
theorem chainC_step (rs : List R) (k m : Nat) (hs : ∀ j, j < m → stepB rs j = true) (hk : k < m) : chainC rs (k + 1) = (k + 1) :: chainC rs (recAt rs k).v.toNat := by
  have hp := (step_prev rs k (hs k hk)).1
  show (k + 1) :: chainN rs k (recAt rs k).v.toNat = _
  rw [chainN_fuel rs m hs _ k (by omega) (by omega)]
  rfl
theorem chainN_len (rs : List R) : ∀ fuel k, (chainN rs fuel k).length ≤ fuel
  | 0, _ => Nat.le_refl _
  | _ + 1, 0 => Nat.zero_le _
  | fuel + 1, k + 1 => by
    have := chainN_len rs fuel (recAt rs k).v.toNat
    unfold chainN
    rw [List.length_cons]
    omega
/-- where a chain begins -/
def at0 (rs : List R) (t : Int) : Nat := (lastB rs t).toNat
theorem at0_le (rs : List R) (t : Int) : at0 rs t ≤ rs.length ∧ at0 rs t ≤ 150 := by
  unfold at0 lastB
  cases h : logB rs
  · simp
  · have h1 := lastN_le rs t rs.length
    have h2 : rs.length ≤ 150 := by
      unfold logB at h
      simp at h
      exact h.2
    simp
    omega
theorem at0_lastB (rs : List R) (t : Int) : lastB rs t = (at0 rs t : Int) := by
  have : 0 ≤ lastB rs t := by
    unfold lastB
    split <;> omega
  unfold at0
  omega
theorem at0_steps (rs : List R) (t : Int) : ∀ j, j < at0 rs t → stepB rs j = true := fun j hj => by
  cases h : logB rs
  · unfold at0 lastB at hj
    rw [h] at hj
    simp at hj
  · exact logB_steps rs h j (by have := (at0_le rs t).1; omega)
/-- LogChain's answer -/
def chainB (rs : List R) (t : Int) : List Int := (chainC rs (at0 rs t)).map fun n : Nat => (n : Int)
theorem chainB_len (rs : List R) (t : Int) : (chainB rs t).length ≤ 150 := by
  unfold chainB chainC
  rw [List.length_map]
  exact Nat.le_trans (chainN_len rs _ _) (at0_le rs t).2

/-- what a round keeps: all that was there ahead of the loop, but for the block Bx -/
structure Kx (n₀ Bx : Nat) (W W' : World) : Prop where
  size : W.heap.size ≤ W'.heap.size
  block : ∀ i, i < n₀ → i ≠ Bx → W'.heap[i]? = W.heap[i]?
theorem Kx.trans {n₀ Bx : Nat} {A B C : World} (h : Kx n₀ Bx A B) (k : Kx n₀ Bx B C) : Kx n₀ Bx A C :=
  ⟨Nat.le_trans h.size k.size, fun i hi hn => (k.block i hi hn).trans (h.block i hi hn)⟩
theorem kx_b {n₀ Bx : Nat} {w : World} (hn : n₀ ≤ w.heap.size) (W : World) (l : Nat) (o o' : Obj) (hl : w.heap.size ≤ l) (_ : W.heap[l]? = some o) (_ : o.isCells = false) (_ : o.isWalk = false) : Kx n₀ Bx W (W.putObj l o') :=
  ⟨(grownBy_putObj' W l o').size, fun i hi _ => World.putObj_heap_other (by omega)⟩

/-- the records that the iterator hands on, with their numbers -/
abbrev encC (rs : List R) (n : Nat) : Array Value := #[.int .i64 (n : Int), recV (recAt rs (n - 1))]
end Go.Proofs.Ytjiclphpeoffdaa.Base
