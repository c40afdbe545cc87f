/-
  Logs, as lists of records: the last record of one, which lists are logs. No conditions.
-/
import Derived.Test.YtjiclphpeoffdaaRecs
namespace Go.Proofs.Ytjiclphpeoffdaa.Base
open Go.RowKit

/-- a record of zeros -/
def R0 : R := ⟨0, 0, 0, 0, 0, 0, 0, 0⟩
/-- the record at a place -/
def recAt (rs : List R) (n : Nat) : R := rs.getD n R0
/-- a record's eight numbers lie in block g, from q on -/
structure At (w : World) (g q : Nat) (r : R) : Prop where
  k : w.cell? ⟨g, q, none⟩ = some (.int .i64 r.k)
  t : w.cell? ⟨g, q + 1, none⟩ = some (.int .i64 r.t)
  p : w.cell? ⟨g, q + 2, none⟩ = some (.int .i64 r.p)
  s : w.cell? ⟨g, q + 3, none⟩ = some (.int .i64 r.s)
  o : w.cell? ⟨g, q + 4, none⟩ = some (.int .i64 r.o)
  n : w.cell? ⟨g, q + 5, none⟩ = some (.int .i64 r.n)
  v : w.cell? ⟨g, q + 6, none⟩ = some (.int .i64 r.v)
  x : w.cell? ⟨g, q + 7, none⟩ = some (.int .i64 r.x)
/-- the records lie in block g, from o on -/
def RdR (w : World) (g o : Nat) (rs : List R) : Prop := ∀ j, j < rs.length → At w g (o + j * 8) (recAt rs j)
/-- a slice that leads to these records, below block B; with none it may be nil -/
def Recs (w : World) (B : Nat) (a : Option Addr) (rs : List R) : Prop :=
  0 < rs.length → ∃ g o, a = some ⟨g, o, none⟩ ∧ g < B ∧ RdR w g o rs

section
variable {w w' : World} {g o B : Nat} {a : Option Addr} {rs : List R}
theorem At.keep {q : Nat} {r : R} (h : At w g q r) (e : w'.heap[g]? = w.heap[g]?) : At w' g q r :=
  ⟨(World.cell?_of_block (a := ⟨g, q, none⟩) e).trans h.k, (World.cell?_of_block (a := ⟨g, q + 1, none⟩) e).trans h.t, (World.cell?_of_block (a := ⟨g, q + 2, none⟩) e).trans h.p, (World.cell?_of_block (a := ⟨g, q + 3, none⟩) e).trans h.s, (World.cell?_of_block (a := ⟨g, q + 4, none⟩) e).trans h.o, (World.cell?_of_block (a := ⟨g, q + 5, none⟩) e).trans h.n, (World.cell?_of_block (a := ⟨g, q + 6, none⟩) e).trans h.v, (World.cell?_of_block (a := ⟨g, q + 7, none⟩) e).trans h.x⟩
theorem RdR.keep (h : RdR w g o rs) (e : w'.heap[g]? = w.heap[g]?) : RdR w' g o rs := fun j hj => (h j hj).keep e
theorem RdR.below (h : RdR w g o rs) (hb : Below B w w') (hg : g < B) : RdR w' g o rs := h.keep (hb.block g hg)
theorem RdR.recs (h : RdR w g o rs) (hg : g < B) : Recs w B (some ⟨g, o, none⟩) rs := fun _ => ⟨g, o, rfl, hg, h⟩
theorem Recs.keep (h : Recs w B a rs) (hk : ∀ g, g < B → w'.heap[g]? = w.heap[g]?) : Recs w' B a rs := fun hp => by
  obtain ⟨g, o, e, hg, hr⟩ := h hp
  exact ⟨g, o, e, hg, hr.keep (hk g hg)⟩
theorem Recs.below (h : Recs w B a rs) (hb : Below B w w') : Recs w' B a rs := h.keep hb.block
theorem Recs.more {B' : Nat} (h : Recs w B a rs) (hB : B ≤ B') : Recs w B' a rs := fun hp => by
  obtain ⟨g, o, e, hg, hr⟩ := h hp
  exact ⟨g, o, e, Nat.lt_of_lt_of_le hg hB, hr⟩
theorem Recs.drewN (h : Recs w B a rs) (m : Nat) : Recs (w.drewN m) B a rs := h.keep fun _ _ => rfl
end

/-- a record behind which its transaction is not open -/
def endR (r : R) : Bool := (r.k == 4) || (r.k == 5)
/-- the number of the last record of one among the first n -/
def lastN (rs : List R) (t : Int) : Nat → Nat
  | 0 => 0
  | n + 1 => if (recAt rs n).t = t then (if endR (recAt rs n) = true then 0 else n + 1) else lastN rs t n
/-- record n follows the first n as a log asks -/
def stepB (rs : List R) (n : Nat) : Bool :=
  okR (recAt rs n) && (((recAt rs n).v == (lastN rs (recAt rs n).t n : Int)) && (decide ((recAt rs n).x ≤ (n : Int)) && (((recAt rs n).x == 0) || ((recAt rs ((recAt rs n).x - 1).toNat).t == (recAt rs n).t))))
/-- the first n are a log, but for their number -/
def logN (rs : List R) : Nat → Bool
  | 0 => true
  | n + 1 => logN rs n && stepB rs n
/-- a log -/
def logB (rs : List R) : Bool := logN rs rs.length && decide (rs.length ≤ 150)

theorem lastN_le (rs : List R) (t : Int) : ∀ n, lastN rs t n ≤ n
  | 0 => Nat.le_refl _
  | n + 1 => by
    have := lastN_le rs t n
    unfold lastN
    split
    · split <;> omega
    · omega
theorem logN_mono (rs : List R) : ∀ m n, n ≤ m → logN rs m = true → logN rs n = true
  | 0, n, h, _ => by
    obtain rfl : n = 0 := by omega
    rfl
  | m + 1, n, h, hm => by
    rcases Nat.lt_or_ge n (m + 1) with h' | h'
    · refine logN_mono rs m n (by omega) ?_
      unfold logN at hm
      simp at hm
      exact hm.1
    · obtain rfl : n = m + 1 := by omega
      exact hm
theorem logN_bad (rs : List R) (m n : Nat) (h : n < m) (hb : stepB rs n = false) : logN rs m = false := by
  cases hm : logN rs m
  · rfl
  · have := logN_mono rs m (n + 1) (by omega) hm
    unfold logN at this
    simp [hb] at this
theorem logB_bad (rs : List R) (n : Nat) (h : n < rs.length) (hb : stepB rs n = false) : logB rs = false := by
  unfold logB
  rw [logN_bad rs _ n h hb]
  rfl
theorem logB_long (rs : List R) (h : ¬ rs.length ≤ 150) : logB rs = false := by
  unfold logB
  simp [h]
theorem logB_all (rs : List R) (h : ∀ j, j < rs.length → stepB rs j = true) : logB rs = decide (rs.length ≤ 150) := by
  have : ∀ n, n ≤ rs.length → logN rs n = true := by
    intro n
    induction n with
    | zero => intro _; rfl
    | succ n ih =>
      intro hn
      unfold logN
      rw [ih (by omega), h n (by omega)]
      rfl
  unfold logB
  rw [this _ (Nat.le_refl _)]
  simp
/-- the parts of a valid record that tables are read by -/
theorem okR_tx (r : R) (h : okR r = true) : 1 ≤ r.t ∧ r.t ≤ 3 := by
  simp only [okR, inB, Bool.and_eq_true, decide_eq_true_eq] at h
  exact h.1.1
theorem okR_next (r : R) (h : okR r = true) : 0 ≤ r.x ∧ r.x ≤ 150 := by
  simp only [okR, inB, Bool.and_eq_true, decide_eq_true_eq] at h
  exact h.1.2.2
theorem okR_prev (r : R) (h : okR r = true) : 0 ≤ r.v ∧ r.v ≤ 150 := by
  simp only [okR, inB, Bool.and_eq_true, decide_eq_true_eq] at h
  exact h.1.2.1
theorem okR_page (r : R) (h : okR r = true) : 0 ≤ r.p ∧ r.p ≤ 4 := by
  simp only [okR, Bool.and_eq_true] at h
  have hf := h.2
  unfold formB at hf
  split at hf
  · simp only [ofB, inB, Bool.and_eq_true, decide_eq_true_eq] at hf; exact hf.1.1
  split at hf
  · simp only [ofB, inB, Bool.and_eq_true, decide_eq_true_eq] at hf; exact hf.1.1
  split at hf
  · simp only [ofB, inB, Bool.and_eq_true, decide_eq_true_eq] at hf; exact hf.1.1
  split at hf
  · simp only [inB, Bool.and_eq_true, decide_eq_true_eq] at hf; exact hf.1
  split at hf
  · simp only [Bool.and_eq_true, beq_iff_eq] at hf; omega
  · cases hf
end Go.Proofs.Ytjiclphpeoffdaa.Base
