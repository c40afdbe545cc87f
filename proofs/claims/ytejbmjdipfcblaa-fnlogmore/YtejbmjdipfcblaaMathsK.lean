/-
  Logs, as lists of records: the last record of one, which lists are logs. No conditions.
-/
import Derived.Test.YtejbmjdipfcblaaGroundK
import Derived.Handy
namespace Go.Proofs.Ytejbmjdipfcblaa.Base
open Go.RowKit

/-- a record of zeros -/
def R0 : R := ⟨0, 0, 0, 0, 0, 0, 0, 0⟩
/-- the record at a place -/
def recAt (rs : List R) (n : Nat) : R := rs.getD n R0
/-- a record's eight numbers lie in block g, from q on -/
structure At (w : World) (g q : Nat) (r : R) : Prop where
  k : w.cell? ⟨g, q, none⟩ = some (.int .i64 r.k)
  t : w.cell? ⟨g, q + 1, none⟩ = some (.int .i64 r.t)
  p : w.cell? ⟨g, q + 2, none⟩ = some (.int .i64 r.p)
  s : w.cell? ⟨g, q + 3, none⟩ = some (.int .i64 r.s)
  o : w.cell? ⟨g, q + 4, none⟩ = some (.int .i64 r.o)
  n : w.cell? ⟨g, q + 5, none⟩ = some (.int .i64 r.n)
  v : w.cell? ⟨g, q + 6, none⟩ = some (.int .i64 r.v)
  x : w.cell? ⟨g, q + 7, none⟩ = some (.int .i64 r.x)
/-- the records lie in block g, from o on -/
def RdR (w : World) (g o : Nat) (rs : List R) : Prop := ∀ j, j < rs.length → At w g (o + j * 8) (recAt rs j)
/-- a slice that leads to these records, below block B; with none it may be nil -/
def Recs (w : World) (B : Nat) (a : Option Addr) (rs : List R) : Prop :=
  0 < rs.length → ∃ g o, a = some ⟨g, o, none⟩ ∧ g < B ∧ RdR w g o rs

section
variable {w w' : World} {g o B : Nat} {a : Option Addr} {rs : List R}
theorem At.keep {q : Nat} {r : R} (h : At w g q r) (e : w'.heap[g]? = w.heap[g]?) : At w' g q r :=
  ⟨(World.cell?_of_block (a := ⟨g, q, none⟩) e).trans h.k, (World.cell?_of_block (a := ⟨g, q + 1, none⟩) e).trans h.t, (World.cell?_of_block (a := ⟨g, q + 2, none⟩) e).trans h.p, (World.cell?_of_block (a := ⟨g, q + 3, none⟩) e).trans h.s, (World.cell?_of_block (a := ⟨g, q + 4, none⟩) e).trans h.o, (World.cell?_of_block (a := ⟨g, q + 5, none⟩) e).trans h.n, (World.cell?_of_block (a := ⟨g, q + 6, none⟩) e).trans h.v, (World.cell?_of_block (a := ⟨g, q + 7, none⟩) e).trans h.x⟩
theorem RdR.keep (h : RdR w g o rs) (e : w'.heap[g]? = w.heap[g]?) : RdR w' g o rs := fun j hj => (h j hj).keep e
theorem RdR.below (h : RdR w g o rs) (hb : Below B w w') (hg : g < B) : RdR w' g o rs := h.keep (hb.block g hg)
theorem RdR.recs (h : RdR w g o rs) (hg : g < B) : Recs w B (some ⟨g, o, none⟩) rs := fun _ => ⟨g, o, rfl, hg, h⟩
theorem Recs.keep (h : Recs w B a rs) (hk : ∀ g, g < B → w'.heap[g]? = w.heap[g]?) : Recs w' B a rs := fun hp => by
  obtain ⟨g, o, e, hg, hr⟩ := h hp
  exact ⟨g, o, e, hg, hr.keep (hk g hg)⟩
theorem Recs.below (h : Recs w B a rs) (hb : Below B w w') : Recs w' B a rs := h.keep hb.block
theorem Recs.more {B' : Nat} (h : Recs w B a rs) (hB : B ≤ B') : Recs w B' a rs := fun hp => by
  obtain ⟨g, o, e, hg, hr⟩ := h hp
  exact ⟨g, o, e, Nat.lt_of_lt_of_le hg hB, hr⟩
theorem Recs.drewN (h : Recs w B a rs) (m : Nat) : Recs (w.drewN m) B a rs := h.keep fun _ _ => rfl
end

/-- a record behind which its transaction is not open -/
def endR (r : R) : Bool := (r.k == 4) || (r.k == 5)
/-- the number of the last record of one among the first n -/
def lastN (rs : List R) (t : Int) : Nat → Nat
  | 0 => 0
  | n + 1 => if (recAt rs n).t = t then (if endR (recAt rs n) = true then 0 else n + 1) else lastN rs t n
/-- record n follows the first n as a log asks -/
def stepB (rs : List R) (n : Nat) : Bool :=
  okR (recAt rs n) && (((recAt rs n).v == (lastN rs (recAt rs n).t n : Int)) && (decide ((recAt rs n).x ≤ (n : Int)) && (((recAt rs n).x == 0) || ((recAt rs ((recAt rs n).x - 1).toNat).t == (recAt rs n).t))))
/-- the first n are a log, but for their number -/
def logN (rs : List R) : Nat → Bool
  | 0 => true
  | n + 1 => logN rs n && stepB rs n
/-- a log -/
def logB (rs : List R) : Bool := logN rs rs.length && decide (rs.length ≤ 150)

theorem lastN_le (rs : List R) (t : Int) : ∀ n, lastN rs t n ≤ n
  | 0 => Nat.le_refl _
  | n + 1 => by
    have := lastN_le rs t n
    unfold lastN
    split
    · split <;> omega
    · omega
theorem logN_mono (rs : List R) : ∀ m n, n ≤ m → logN rs m = true → logN rs n = true
  | 0, n, h, _ => by
    obtain rfl : n = 0 := by omega
    rfl
  | m + 1, n, h, hm => by
    rcases Nat.lt_or_ge n (m + 1) with h' | h'
    · refine logN_mono rs m n (by omega) ?_
      unfold logN at hm
      simp at hm
      exact hm.1
    · obtain rfl : n = m + 1 := by omega
      exact hm
theorem logN_bad (rs : List R) (m n : Nat) (h : n < m) (hb : stepB rs n = false) : logN rs m = false := by
  cases hm : logN rs m
  · rfl
  · have := logN_mono rs m (n + 1) (by omega) hm
    unfold logN at this
    simp [hb] at this
theorem logB_bad (rs : List R) (n : Nat) (h : n < rs.length) (hb : stepB rs n = false) : logB rs = false := by
  unfold logB
  rw [logN_bad rs _ n h hb]
  rfl
theorem logB_long (rs : List R) (h : ¬ rs.length ≤ 150) : logB rs = false := by
  unfold logB
  simp [h]
theorem logB_all (rs : List R) (h : ∀ j, j < rs.length → stepB rs j = true) : logB rs = decide (rs.length ≤ 150) := by
  have : ∀ n, n ≤ rs.length → logN rs n = true := by
    intro n
    induction n with
    | zero => intro _; rfl
    | succ n ih =>
      intro hn
      unfold logN
      rw [ih (by omega), h n (by omega)]
      rfl
  unfold logB
  rw [this _ (Nat.le_refl _)]
  simp
/-- the parts of a valid record that tables are read by -/
theorem okR_tx (r : R) (h : okR r = true) : 1 ≤ r.t ∧ r.t ≤ 3 := by
  simp only [okR, inB, Bool.and_eq_true, decide_eq_true_eq] at h
  exact h.1.1
theorem okR_next (r : R) (h : okR r = true) : 0 ≤ r.x ∧ r.x ≤ 150 := by
  simp only [okR, inB, Bool.and_eq_true, decide_eq_true_eq] at h
  exact h.1.2.2
theorem okR_prev (r : R) (h : okR r = true) : 0 ≤ r.v ∧ r.v ≤ 150 := by
  simp only [okR, inB, Bool.and_eq_true, decide_eq_true_eq] at h
  exact h.1.2.1
theorem okR_page (r : R) (h : okR r = true) : 0 ≤ r.p ∧ r.p ≤ 4 := by
  simp only [okR, Bool.and_eq_true] at h
  have hf := h.2
  unfold formB at hf
  split at hf
  · simp only [ofB, inB, Bool.and_eq_true, decide_eq_true_eq] at hf; exact hf.1.1
  split at hf
  · simp only [ofB, inB, Bool.and_eq_true, decide_eq_true_eq] at hf; exact hf.1.1
  split at hf
  · simp only [ofB, inB, Bool.and_eq_true, decide_eq_true_eq] at hf; exact hf.1.1
  split at hf
  · simp only [inB, Bool.and_eq_true, decide_eq_true_eq] at hf; exact hf.1
  split at hf
  · simp only [Bool.and_eq_true, beq_iff_eq] at hf; omega
  · cases hf
end Go.Proofs.Ytejbmjdipfcblaa.Base

/-
  Logs, as lists of records: what is to be undone, how many steps it takes, and that a step takes one. No conditions.
-/
namespace Go.Proofs.Ytejbmjdipfcblaa.Base
open Go.RowKit

/-- a record that is undone -/
def undoable (r : R) : Bool := (r.k == 1) || (r.k == 2)
/-- the number of the next record to undo, from one on -/
def backF (rs : List R) : Nat → Nat → Nat
  | 0, _ => 0
  | _ + 1, 0 => 0
  | f + 1, a + 1 => if undoable (recAt rs a) then a + 1 else if (recAt rs a).k = 6 then backF rs f (recAt rs a).x.toNat else backF rs f (recAt rs a).v.toNat
def backC (rs : List R) (a : Nat) : Nat := backF rs a a
/-- how many records are to be undone, from one on -/
def undoF (rs : List R) : Nat → Nat → Nat
  | 0, _ => 0
  | _ + 1, 0 => 0
  | f + 1, a + 1 => if undoable (recAt rs a) then undoF rs f (recAt rs a).v.toNat + 1 else if (recAt rs a).k = 6 then undoF rs f (recAt rs a).x.toNat else undoF rs f (recAt rs a).v.toNat
def undoC (rs : List R) (a : Nat) : Nat := undoF rs a a
/-- each of the first m records tells of earlier ones alone -/
def Falls (rs : List R) (m : Nat) : Prop := ∀ j, j < m → (recAt rs j).v.toNat ≤ j ∧ (recAt rs j).x.toNat ≤ j
theorem backF_zero (rs : List R) : ∀ f, backF rs f 0 = 0
  | 0 => rfl
  | _ + 1 => rfl
theorem undoF_zero (rs : List R) : ∀ f, undoF rs f 0 = 0
  | 0 => rfl
  | _ + 1 => rfl
theorem backF_fuel {rs : List R} {m : Nat} (h : Falls rs m) : ∀ (a f : Nat), a ≤ m → a ≤ f → backF rs f a = backC rs a := by
  intro a
  induction a using Nat.strongRecOn with
  | ind a ih =>
    intro f hm hf
    match a, f with
    | 0, f => rw [backF_zero]; rfl
    | a + 1, 0 => omega
    | a + 1, f + 1 =>
      unfold backC
      have hj := h a (by omega)
      simp only [backF]
      rw [ih _ (by omega) f (by omega) (by omega), ih _ (by omega) f (by omega) (by omega), ih _ (by omega) a (by omega) (by omega), ih _ (by omega) a (by omega) (by omega)]
theorem undoF_fuel {rs : List R} {m : Nat} (h : Falls rs m) : ∀ (a f : Nat), a ≤ m → a ≤ f → undoF rs f a = undoC rs a := by
  intro a
  induction a using Nat.strongRecOn with
  | ind a ih =>
    intro f hm hf
    match a, f with
    | 0, f => rw [undoF_zero]; rfl
    | a + 1, 0 => omega
    | a + 1, f + 1 =>
      unfold undoC
      have hj := h a (by omega)
      simp only [undoF]
      rw [ih _ (by omega) f (by omega) (by omega), ih _ (by omega) f (by omega) (by omega), ih _ (by omega) a (by omega) (by omega), ih _ (by omega) a (by omega) (by omega)]
theorem backC_zero (rs : List R) : backC rs 0 = 0 := rfl
theorem undoC_zero (rs : List R) : undoC rs 0 = 0 := rfl
theorem backC_step {rs : List R} {m : Nat} (h : Falls rs m) {a : Nat} (ha : a < m) : backC rs (a + 1) = if undoable (recAt rs a) then a + 1 else if (recAt rs a).k = 6 then backC rs (recAt rs a).x.toNat else backC rs (recAt rs a).v.toNat := by
  have hj := h a ha
  show backF rs (a + 1) (a + 1) = _
  simp only [backF]
  rw [backF_fuel h _ a (by omega) hj.1, backF_fuel h _ a (by omega) hj.2]
theorem undoC_step {rs : List R} {m : Nat} (h : Falls rs m) {a : Nat} (ha : a < m) : undoC rs (a + 1) = if undoable (recAt rs a) then undoC rs (recAt rs a).v.toNat + 1 else if (recAt rs a).k = 6 then undoC rs (recAt rs a).x.toNat else undoC rs (recAt rs a).v.toNat := by
  have hj := h a ha
  show undoF rs (a + 1) (a + 1) = _
  simp only [undoF]
  rw [undoF_fuel h _ a (by omega) hj.1, undoF_fuel h _ a (by omega) hj.2]
theorem backC_le {rs : List R} {m : Nat} (h : Falls rs m) : ∀ a, a ≤ m → backC rs a ≤ a := by
  intro a
  induction a using Nat.strongRecOn with
  | ind a ih =>
    intro hm
    match a with
    | 0 => exact Nat.le_refl _
    | a + 1 =>
      have hj := h a (by omega)
      rw [backC_step h (by omega)]
      split
      · omega
      split
      · have := ih (recAt rs a).x.toNat (by omega) (by omega)
        omega
      · have := ih (recAt rs a).v.toNat (by omega) (by omega)
        omega
/-- the records to undo, by the next one -/
theorem undo_back {rs : List R} {m : Nat} (h : Falls rs m) : ∀ a, a ≤ m → (backC rs a = 0 ∧ undoC rs a = 0) ∨ (∃ b, backC rs a = b + 1 ∧ undoable (recAt rs b) = true ∧ b < a ∧ undoC rs a = undoC rs (recAt rs b).v.toNat + 1) := by
  intro a
  induction a using Nat.strongRecOn with
  | ind a ih =>
    intro hm
    match a with
    | 0 => exact .inl ⟨rfl, rfl⟩
    | a + 1 =>
      have hj := h a (by omega)
      rw [backC_step h (by omega), undoC_step h (by omega)]
      by_cases hu : undoable (recAt rs a) = true
      · rw [if_pos hu, if_pos hu]
        exact .inr ⟨a, rfl, hu, by omega, rfl⟩
      · rw [if_neg hu, if_neg hu]
        by_cases h6 : (recAt rs a).k = 6
        · rw [if_pos h6, if_pos h6]
          rcases ih (recAt rs a).x.toNat (by omega) (by omega) with h1 | ⟨b, h1, h2, h3, h4⟩
          · exact .inl h1
          · exact .inr ⟨b, h1, h2, by omega, h4⟩
        · rw [if_neg h6, if_neg h6]
          rcases ih (recAt rs a).v.toNat (by omega) (by omega) with h1 | ⟨b, h1, h2, h3, h4⟩
          · exact .inl h1
          · exact .inr ⟨b, h1, h2, by omega, h4⟩
theorem undoC_le {rs : List R} {m : Nat} (h : Falls rs m) : ∀ a, a ≤ m → undoC rs a ≤ a := by
  intro a
  induction a using Nat.strongRecOn with
  | ind a ih =>
    intro hm
    match a with
    | 0 => exact Nat.le_refl _
    | a + 1 =>
      have hj := h a (by omega)
      have i1 := ih (recAt rs a).v.toNat (by omega) (by omega)
      have i2 := ih (recAt rs a).x.toNat (by omega) (by omega)
      rw [undoC_step h (by omega)]
      split
      · omega
      split <;> omega

/-- one record more -/
theorem recAt_more (rs : List R) (r : R) {j : Nat} (hj : j < rs.length) : recAt (rs ++ [r]) j = recAt rs j := by
  unfold recAt
  simp [List.getD_eq_getElem?_getD, List.getElem?_append_left hj]
theorem recAt_new (rs : List R) (r : R) : recAt (rs ++ [r]) rs.length = r := by
  unfold recAt
  simp [List.getD_eq_getElem?_getD]
theorem lastN_congr {rs qs : List R} (t : Int) : ∀ n, (∀ j, j < n → recAt rs j = recAt qs j) → lastN rs t n = lastN qs t n
  | 0, _ => rfl
  | n + 1, h => by
    unfold lastN
    rw [h n (by omega), lastN_congr t n (fun j hj => h j (by omega))]
theorem undoF_congr {rs qs : List R} {m : Nat} (h : Falls rs m) (he : ∀ j, j < m → recAt rs j = recAt qs j) : ∀ (f a : Nat), a ≤ m → undoF rs f a = undoF qs f a
  | 0, _, _ => rfl
  | _ + 1, 0, _ => rfl
  | f + 1, a + 1, ha => by
    have hj := h a (by omega)
    simp only [undoF]
    rw [← he a (by omega), undoF_congr h he f _ (by omega : (recAt rs a).v.toNat ≤ m), undoF_congr h he f _ (by omega : (recAt rs a).x.toNat ≤ m)]
theorem undoC_congr {rs qs : List R} {m : Nat} (h : Falls rs m) (he : ∀ j, j < m → recAt rs j = recAt qs j) {a : Nat} (ha : a ≤ m) : undoC rs a = undoC qs a := undoF_congr h he a a ha
theorem stepB_congr {rs qs : List R} {n : Nat} (he : ∀ j, j ≤ n → recAt rs j = recAt qs j) (hx : (recAt rs n).x ≤ n) : stepB rs n = stepB qs n := by
  unfold stepB
  rw [← he n (Nat.le_refl _), lastN_congr _ n (fun j hj => he j (by omega)), he ((recAt rs n).x - 1).toNat (by omega)]

/-- what one has to undo behind the first k records, and the end -/
def needT (rs : List R) (k : Nat) (t : Int) : Nat := (if lastN rs t k = 0 then 0 else 1) + undoC rs (lastN rs t k)
/-- what all have -/
def needN (rs : List R) (k : Nat) : Nat := needT rs k 1 + (needT rs k 2 + needT rs k 3)
theorem needT_congr {rs qs : List R} {m : Nat} (h : Falls rs m) (he : ∀ j, j < m → recAt rs j = recAt qs j) {k : Nat} (hk : k ≤ m) (t : Int) : needT rs k t = needT qs k t := by
  have hl : lastN rs t k = lastN qs t k := lastN_congr t k (fun j hj => he j (by omega))
  unfold needT
  rw [← hl, undoC_congr h he (Nat.le_trans (lastN_le rs t k) hk)]
theorem needN_congr {rs qs : List R} {m : Nat} (h : Falls rs m) (he : ∀ j, j < m → recAt rs j = recAt qs j) {k : Nat} (hk : k ≤ m) : needN rs k = needN qs k := by
  unfold needN
  rw [needT_congr h he hk, needT_congr h he hk, needT_congr h he hk]
/-- behind every prefix there is room to undo all -/
def roomy (rs : List R) : Prop := ∀ k, k ≤ rs.length → k + needN rs k ≤ 150

theorem Falls.more {rs : List R} {r : R} (h : Falls rs rs.length) (hv : r.v.toNat ≤ rs.length) (hx : r.x.toNat ≤ rs.length) : Falls (rs ++ [r]) (rs.length + 1) := fun j hj => by
  rcases Nat.lt_or_ge j rs.length with h' | h'
  · rw [recAt_more rs r h']
    exact h j h'
  · obtain rfl : j = rs.length := by omega
    rw [recAt_new]
    exact ⟨hv, hx⟩
theorem last_more (rs : List R) (r : R) (t : Int) : lastN (rs ++ [r]) t (rs.length + 1) = if r.t = t then (if endR r = true then 0 else rs.length + 1) else lastN rs t rs.length := by
  show (if (recAt (rs ++ [r]) rs.length).t = t then _ else _) = _
  rw [recAt_new, lastN_congr t rs.length (fun j hj => recAt_more rs r hj)]
/-- what a record more leaves to undo -/
theorem needT_more {rs : List R} {r : R} (h : Falls rs rs.length) (hv : r.v.toNat ≤ rs.length) (hx : r.x.toNat ≤ rs.length) (t : Int) :
    needT (rs ++ [r]) (rs.length + 1) t = if r.t = t then (if endR r = true then 0 else 1 + (if undoable r then undoC rs r.v.toNat + 1 else if r.k = 6 then undoC rs r.x.toNat else undoC rs r.v.toNat)) else needT rs rs.length t := by
  have hF := h.more hv hx
  have he : ∀ j, j < rs.length → recAt rs j = recAt (rs ++ [r]) j := fun j hj => (recAt_more rs r hj).symm
  unfold needT
  rw [last_more]
  by_cases ht : r.t = t
  · rw [if_pos ht, if_pos ht]
    by_cases hend : endR r = true
    · rw [if_pos hend, if_pos hend]
      rfl
    · rw [if_neg hend, if_neg hend, if_neg (by omega), undoC_step hF (by omega), recAt_new, ← undoC_congr h he hv, ← undoC_congr h he hx]
  · rw [if_neg ht, if_neg ht, ← undoC_congr h he (lastN_le rs t rs.length)]
/-- the need behind a record more: that of its transaction alone turns -/
theorem needN_more {rs : List R} {r : R} (h : Falls rs rs.length) (hv : r.v.toNat ≤ rs.length) (hx : r.x.toNat ≤ rs.length) (h1 : 1 ≤ r.t) (h3 : r.t ≤ 3) :
    needN (rs ++ [r]) (rs.length + 1) + needT rs rs.length r.t = needN rs rs.length + needT (rs ++ [r]) (rs.length + 1) r.t := by
  have n1 := needT_more h hv hx 1
  have n2 := needT_more h hv hx 2
  have n3 := needT_more h hv hx 3
  have hr : r.t = 1 ∨ r.t = 2 ∨ r.t = 3 := by omega
  unfold needN
  rcases hr with e | e | e
  · rw [if_neg (by omega)] at n2 n3
    rw [n2, n3, e]
    omega
  · rw [if_neg (by omega)] at n1 n3
    rw [n1, n3, e]
    omega
  · rw [if_neg (by omega)] at n1 n2
    rw [n1, n2, e]
    omega
/-- an undone record takes one from the need -/
theorem need_undo {rs : List R} {r : R} {b : Nat} (h : Falls rs rs.length) (h1 : 1 ≤ r.t) (h3 : r.t ≤ 3) (hk : r.k = 6) (hv : r.v = (lastN rs r.t rs.length : Int)) (hb : backC rs (lastN rs r.t rs.length) = b + 1) (hx : r.x = (recAt rs b).v) :
    needN (rs ++ [r]) (rs.length + 1) + 1 = needN rs rs.length := by
  have hl := lastN_le rs r.t rs.length
  rcases undo_back h _ hl with ⟨h0, _⟩ | ⟨b', e1, e2, e3, e4⟩
  · omega
  · obtain rfl : b = b' := by omega
    have hxle : r.x.toNat ≤ rs.length := by
      rw [hx]
      have := (h b (by omega)).1
      omega
    have hvle : r.v.toNat ≤ rs.length := by
      rw [hv]
      simpa using hl
    have hm := needN_more h hvle hxle h1 h3
    rw [needT_more h hvle hxle, if_pos rfl, if_neg (by simp [endR, hk]), if_neg (by simp [undoable, hk]), if_pos hk, hx] at hm
    unfold needT at hm
    rw [if_neg (by omega), e4] at hm
    omega
/-- an end takes one from the need -/
theorem need_end {rs : List R} {r : R} (h : Falls rs rs.length) (h1 : 1 ≤ r.t) (h3 : r.t ≤ 3) (hk : endR r = true) (hv : r.v = (lastN rs r.t rs.length : Int)) (hx : r.x = 0) (hl : lastN rs r.t rs.length ≠ 0) :
    needN (rs ++ [r]) (rs.length + 1) + 1 + undoC rs (lastN rs r.t rs.length) = needN rs rs.length := by
  have hle := lastN_le rs r.t rs.length
  have hvle : r.v.toNat ≤ rs.length := by
    rw [hv]
    simpa using hle
  have hm := needN_more h hvle (by rw [hx]; exact Nat.zero_le _) h1 h3
  rw [needT_more h hvle (by rw [hx]; exact Nat.zero_le _), if_pos rfl, if_pos hk] at hm
  unfold needT at hm
  rw [if_neg hl] at hm
  omega
theorem roomy_more {rs : List R} {r : R} (h : Falls rs rs.length) (hr : roomy rs) (hn : rs.length + 1 + needN (rs ++ [r]) (rs.length + 1) ≤ 150) : roomy (rs ++ [r]) := fun k hk => by
  rw [List.length_append] at hk
  rcases Nat.lt_or_ge k (rs.length + 1) with h' | h'
  · rw [← needN_congr h (fun j hj => (recAt_more rs r hj).symm) (by omega : k ≤ rs.length)]
    exact hr k (by omega)
  · obtain rfl : k = rs.length + 1 := by simp at hk; omega
    exact hn
end Go.Proofs.Ytejbmjdipfcblaa.Base

/-
  Contract of frame.with: a frame with another value in a slot, or with another owner. Conditions: the slot is -1, 0, 1 or 2.
-/
namespace Go.Proofs.Ytejbmjdipfcblaa.Base
open Go.RowKit

/-- the owner behind a change of slot s (-1: the owner) to n -/
def oW (s n o : Int) : Int := if s = -1 then n else o
/-- what is in slot i behind such a change -/
def sW (i s n z : Int) : Int := if s = -1 then (if n = 0 then 0 else z) else if s = i then n else z

end Go.Proofs.Ytejbmjdipfcblaa.Base

/-
  Contracts of the model's RecOk and l2Changes, kind by kind. No conditions.
-/
namespace Go.Proofs.Ytejbmjdipfcblaa.Base
open Go.RowKit

set_option maxHeartbeats 2000000 in
theorem specRecOk_1 (t p s o n v x : Int) (w : World) : Calls Try.prog 32 #[recV ⟨1, t, p, s, o, n, v, x⟩] w (Keeps (.bool (okR ⟨1, t, p, s, o, n, v, x⟩)) w) := by
  have H : Hid (okR ⟨1, t, p, s, o, n, v, x⟩ = ((inB t 1 3 && (inB v 0 150 && inB x 0 150)) && (formB ⟨1, t, p, s, o, n, v, x⟩))) := rfl
  have F : Hid (formB ⟨1, t, p, s, o, n, v, x⟩ = (ofB ⟨1, t, p, s, o, n, v, x⟩ && (decide (0 ≤ s) && (x == 0)))) := by
    show formB ⟨1, t, p, s, o, n, v, x⟩ = (ofB ⟨1, t, p, s, o, n, v, x⟩ && (decide (0 ≤ s) && (x == 0)))
    simp [formB]
  go_enter Try.func32, Try.ntmps32
  go_wp2_with (first
    | (go_at_call 43; refine (l6In_any _ _ _ _).mono ?_; rintro e w1 ⟨rfl, rfl⟩)
    | (go_at_call 44; refine (l2Of_any ⟨1, t, p, s, o, n, v, x⟩ _).mono ?_; rintro e w1 ⟨rfl, b1⟩; have q1 := (Has.new w 27 #[.int .i64 1, .int .i64 t, .int .i64 p, .int .i64 s, .int .i64 o, .int .i64 n, .int .i64 v, .int .i64 x]).below b1 (by simp); obtain ⟨c0, c1, c2, c3, c4, c5, c6, c7⟩ := eight q1; have B1 := Lib.hid b1; clear b1 q1))
  all_goals
    go_ret
    exact ⟨ret_bool (by rw [H.out, F.out]; first | (simp_all; done) | (simp_all; omega)), by first | exact below_one _ _ | exact (below_one _ _).trans (B1.out.mono (by simp))⟩

set_option maxHeartbeats 2000000 in
theorem specRecOk_2 (t p s o n v x : Int) (w : World) : Calls Try.prog 32 #[recV ⟨2, t, p, s, o, n, v, x⟩] w (Keeps (.bool (okR ⟨2, t, p, s, o, n, v, x⟩)) w) := by
  have H : Hid (okR ⟨2, t, p, s, o, n, v, x⟩ = ((inB t 1 3 && (inB v 0 150 && inB x 0 150)) && (formB ⟨2, t, p, s, o, n, v, x⟩))) := rfl
  have F : Hid (formB ⟨2, t, p, s, o, n, v, x⟩ = (ofB ⟨2, t, p, s, o, n, v, x⟩ && (decide (s < 0) && (x == 0)))) := by
    show formB ⟨2, t, p, s, o, n, v, x⟩ = (ofB ⟨2, t, p, s, o, n, v, x⟩ && (decide (s < 0) && (x == 0)))
    simp [formB]
  go_enter Try.func32, Try.ntmps32
  go_wp2_with (first
    | (go_at_call 43; refine (l6In_any _ _ _ _).mono ?_; rintro e w1 ⟨rfl, rfl⟩)
    | (go_at_call 44; refine (l2Of_any ⟨2, t, p, s, o, n, v, x⟩ _).mono ?_; rintro e w1 ⟨rfl, b1⟩; have q1 := (Has.new w 27 #[.int .i64 2, .int .i64 t, .int .i64 p, .int .i64 s, .int .i64 o, .int .i64 n, .int .i64 v, .int .i64 x]).below b1 (by simp); obtain ⟨c0, c1, c2, c3, c4, c5, c6, c7⟩ := eight q1; have B1 := Lib.hid b1; clear b1 q1))
  all_goals
    go_ret
    exact ⟨ret_bool (by rw [H.out, F.out]; first | (simp_all; done) | (simp_all; omega)), by first | exact below_one _ _ | exact (below_one _ _).trans (B1.out.mono (by simp))⟩

set_option maxHeartbeats 2000000 in
theorem specRecOk_6 (t p s o n v x : Int) (w : World) : Calls Try.prog 32 #[recV ⟨6, t, p, s, o, n, v, x⟩] w (Keeps (.bool (okR ⟨6, t, p, s, o, n, v, x⟩)) w) := by
  have H : Hid (okR ⟨6, t, p, s, o, n, v, x⟩ = ((inB t 1 3 && (inB v 0 150 && inB x 0 150)) && (formB ⟨6, t, p, s, o, n, v, x⟩))) := rfl
  have F : Hid (formB ⟨6, t, p, s, o, n, v, x⟩ = (ofB ⟨6, t, p, s, o, n, v, x⟩ && (o == 0))) := by
    show formB ⟨6, t, p, s, o, n, v, x⟩ = (ofB ⟨6, t, p, s, o, n, v, x⟩ && (o == 0))
    simp [formB]
  go_enter Try.func32, Try.ntmps32
  go_wp2_with (first
    | (go_at_call 43; refine (l6In_any _ _ _ _).mono ?_; rintro e w1 ⟨rfl, rfl⟩)
    | (go_at_call 44; refine (l2Of_any ⟨6, t, p, s, o, n, v, x⟩ _).mono ?_; rintro e w1 ⟨rfl, b1⟩; have q1 := (Has.new w 27 #[.int .i64 6, .int .i64 t, .int .i64 p, .int .i64 s, .int .i64 o, .int .i64 n, .int .i64 v, .int .i64 x]).below b1 (by simp); obtain ⟨c0, c1, c2, c3, c4, c5, c6, c7⟩ := eight q1; have B1 := Lib.hid b1; clear b1 q1))
  all_goals
    go_ret
    exact ⟨ret_bool (by rw [H.out, F.out]; first | (simp_all; done) | (simp_all; omega)), by first | exact below_one _ _ | exact (below_one _ _).trans (B1.out.mono (by simp))⟩

set_option maxHeartbeats 2000000 in
theorem specRecOk_3 (t p s o n v x : Int) (w : World) : Calls Try.prog 32 #[recV ⟨3, t, p, s, o, n, v, x⟩] w (Keeps (.bool (okR ⟨3, t, p, s, o, n, v, x⟩)) w) := by
  have H : Hid (okR ⟨3, t, p, s, o, n, v, x⟩ = ((inB t 1 3 && (inB v 0 150 && inB x 0 150)) && (formB ⟨3, t, p, s, o, n, v, x⟩))) := rfl
  have F : Hid (formB ⟨3, t, p, s, o, n, v, x⟩ = (inB p 0 4 && ((s == 0) && ((o == 0) && ((n == 0) && (x == 0)))))) := by
    show formB ⟨3, t, p, s, o, n, v, x⟩ = (inB p 0 4 && ((s == 0) && ((o == 0) && ((n == 0) && (x == 0)))))
    simp [formB]
  go_enter Try.func32, Try.ntmps32
  go_wp2_with (first
    | (go_at_call 43; refine (l6In_any _ _ _ _).mono ?_; rintro e w1 ⟨rfl, rfl⟩)
    | (go_at_call 44; refine (l2Of_any ⟨3, t, p, s, o, n, v, x⟩ _).mono ?_; rintro e w1 ⟨rfl, b1⟩; obtain ⟨c0, c1, c2, c3, c4, c5, c6, c7⟩ := ((Has.new w _ _).below b1 (by simp)).eight; have B1 := Lib.hid b1; clear b1))
  all_goals
    go_ret
    exact ⟨ret_bool (by rw [H.out, F.out]; first | (simp_all; done) | (simp_all; omega)), by first | exact below_one _ _ | exact (below_one _ _).trans (B1.out.mono (by simp))⟩

set_option maxHeartbeats 2000000 in
theorem specRecOk_4 (t p s o n v x : Int) (w : World) : Calls Try.prog 32 #[recV ⟨4, t, p, s, o, n, v, x⟩] w (Keeps (.bool (okR ⟨4, t, p, s, o, n, v, x⟩)) w) := by
  have H : Hid (okR ⟨4, t, p, s, o, n, v, x⟩ = ((inB t 1 3 && (inB v 0 150 && inB x 0 150)) && (formB ⟨4, t, p, s, o, n, v, x⟩))) := rfl
  have F : Hid (formB ⟨4, t, p, s, o, n, v, x⟩ = ((p == 0) && ((s == 0) && ((o == 0) && ((n == 0) && (x == 0)))))) := by
    show formB ⟨4, t, p, s, o, n, v, x⟩ = ((p == 0) && ((s == 0) && ((o == 0) && ((n == 0) && (x == 0)))))
    simp [formB]
  go_enter Try.func32, Try.ntmps32
  go_wp2_with (first
    | (go_at_call 43; refine (l6In_any _ _ _ _).mono ?_; rintro e w1 ⟨rfl, rfl⟩)
    | (go_at_call 44; refine (l2Of_any ⟨4, t, p, s, o, n, v, x⟩ _).mono ?_; rintro e w1 ⟨rfl, b1⟩; obtain ⟨c0, c1, c2, c3, c4, c5, c6, c7⟩ := ((Has.new w _ _).below b1 (by simp)).eight; have B1 := Lib.hid b1; clear b1))
  all_goals
    go_ret
    exact ⟨ret_bool (by rw [H.out, F.out]; first | (simp_all; done) | (simp_all; omega)), by first | exact below_one _ _ | exact (below_one _ _).trans (B1.out.mono (by simp))⟩

set_option maxHeartbeats 2000000 in
theorem specRecOk_5 (t p s o n v x : Int) (w : World) : Calls Try.prog 32 #[recV ⟨5, t, p, s, o, n, v, x⟩] w (Keeps (.bool (okR ⟨5, t, p, s, o, n, v, x⟩)) w) := by
  have H : Hid (okR ⟨5, t, p, s, o, n, v, x⟩ = ((inB t 1 3 && (inB v 0 150 && inB x 0 150)) && (formB ⟨5, t, p, s, o, n, v, x⟩))) := rfl
  have F : Hid (formB ⟨5, t, p, s, o, n, v, x⟩ = ((p == 0) && ((s == 0) && ((o == 0) && ((n == 0) && (x == 0)))))) := by
    show formB ⟨5, t, p, s, o, n, v, x⟩ = ((p == 0) && ((s == 0) && ((o == 0) && ((n == 0) && (x == 0)))))
    simp [formB]
  go_enter Try.func32, Try.ntmps32
  go_wp2_with (first
    | (go_at_call 43; refine (l6In_any _ _ _ _).mono ?_; rintro e w1 ⟨rfl, rfl⟩)
    | (go_at_call 44; refine (l2Of_any ⟨5, t, p, s, o, n, v, x⟩ _).mono ?_; rintro e w1 ⟨rfl, b1⟩; obtain ⟨c0, c1, c2, c3, c4, c5, c6, c7⟩ := ((Has.new w _ _).below b1 (by simp)).eight; have B1 := Lib.hid b1; clear b1))
  all_goals
    go_ret
    exact ⟨ret_bool (by rw [H.out, F.out]; first | (simp_all; done) | (simp_all; omega)), by first | exact below_one _ _ | exact (below_one _ _).trans (B1.out.mono (by simp))⟩

theorem formB_other (r : R) (h1 : r.k ≠ 1) (h2 : r.k ≠ 2) (h3 : r.k ≠ 3) (h4 : r.k ≠ 4) (h5 : r.k ≠ 5) (h6 : r.k ≠ 6) : formB r = false := by
  simp [formB, h1, h2, h3, h4, h5, h6]

set_option maxHeartbeats 2000000 in
theorem specRecOk_0 (r : R) (w : World) (h1 : r.k ≠ 1) (h2 : r.k ≠ 2) (h3 : r.k ≠ 3) (h4 : r.k ≠ 4) (h5 : r.k ≠ 5) (h6 : r.k ≠ 6) : Calls Try.prog 32 #[recV r] w (Keeps (.bool (okR r)) w) := by
  have H : Hid (okR r = false) := by show okR r = false; simp [okR, formB_other r h1 h2 h3 h4 h5 h6]
  have b1 : (r.k == 1) = false := by simpa using h1
  have b2 : (r.k == 2) = false := by simpa using h2
  have b3 : (r.k == 3) = false := by simpa using h3
  have b4 : (r.k == 4) = false := by simpa using h4
  have b5 : (r.k == 5) = false := by simpa using h5
  have b6 : (r.k == 6) = false := by simpa using h6
  clear h1 h2 h3 h4 h5 h6
  go_enter Try.func32, Try.ntmps32
  go_wp2_with (go_at_call 43; refine (l6In_any _ _ _ _).mono ?_; rintro e w1 ⟨rfl, rfl⟩)
  all_goals
    go_ret
    exact ⟨ret_bool H.out.symm, below_one _ _⟩

theorem specRecOk_any (r : R) (w : World) : Calls Try.prog 32 #[recV r] w (Keeps (.bool (okR r)) w) := by
  by_cases h1 : r.k = 1
  · obtain ⟨k, t, p, s, o, n, v, x⟩ := r
    subst h1
    exact specRecOk_1 t p s o n v x w
  by_cases h2 : r.k = 2
  · obtain ⟨k, t, p, s, o, n, v, x⟩ := r
    subst h2
    exact specRecOk_2 t p s o n v x w
  by_cases h3 : r.k = 3
  · obtain ⟨k, t, p, s, o, n, v, x⟩ := r
    subst h3
    exact specRecOk_3 t p s o n v x w
  by_cases h4 : r.k = 4
  · obtain ⟨k, t, p, s, o, n, v, x⟩ := r
    subst h4
    exact specRecOk_4 t p s o n v x w
  by_cases h5 : r.k = 5
  · obtain ⟨k, t, p, s, o, n, v, x⟩ := r
    subst h5
    exact specRecOk_5 t p s o n v x w
  by_cases h6 : r.k = 6
  · obtain ⟨k, t, p, s, o, n, v, x⟩ := r
    subst h6
    exact specRecOk_6 t p s o n v x w
  exact specRecOk_0 r w h1 h2 h3 h4 h5 h6

/-- kinds that change a page -/
def chg (k : Int) : Bool := (k == 1) || ((k == 2) || (k == 6))

set_option maxHeartbeats 1000000 in
theorem l2Changes_any (k : Int) (w : World) : Calls Try.prog 94 #[.int .i64 k] w fun e w' => e = .returned (.bool (chg k)) ∧ w = w' := by
  cases b1 : (k == 1) <;> cases b2 : (k == 2) <;> cases b6 : (k == 6)
  all_goals
    go_enter Try.func94, Try.ntmps94
    go_wp2
    go_ret
    exact ⟨ret_bool (by simp [chg, b1, b2, b6]), rfl⟩

end Go.Proofs.Ytejbmjdipfcblaa.Base

/-
  When a record can be applied to a page, and what then is in the page. No program in it.
-/
namespace Go.Proofs.Ytejbmjdipfcblaa.Base
open Go.RowKit

/-- the slots behind record r -/
def newZ (r : R) (zs : List Int) : List Int := [sW 0 r.s r.n (zs.getD 0 0), sW 1 r.s r.n (zs.getD 1 0), sW 2 r.s r.n (zs.getD 2 0)]
/-- whether record r with the number lsn can be applied to a page -/
def doB (l o : Int) (zs : List Int) (r : R) (lsn : Int) : Bool := okP l o zs && (okR r && (chg r.k && (inB lsn (l + 1) 150 && okP lsn (oW r.s r.n o) (newZ r zs))))

/-- what RecDo leaves: the page behind the record, in new memory, or none -/
structure DoP (b : Bool) (lsn o : Int) (zs : List Int) (w : World) (e : Ending) (w' : World) : Prop where
  kept : Below w.heap.size w w'
  no : b = false → e = .returned (.tuple #[pageV 0 0 none 0 0, .bool false])
  yes : b = true → ∃ g q cap, e = .returned (.tuple #[pageV lsn o (some ⟨g, q, none⟩) 3 cap, .bool true]) ∧ w.heap.size ≤ g ∧ Rd .i64 w' g q zs ∧ Wr w' g q 3 ∧ 3 ≤ cap

/-- three cells, stored -/
abbrev put3 (w : World) (b : Nat) (x y z : Value) : World := ((w.setCell ⟨b, 0, none⟩ x).setCell ⟨b, 1, none⟩ y).setCell ⟨b, 2, none⟩ z
section
variable {w w0 : World} {b g B o : Nat} {T : TypeId} {cs : Array Value} {zs : List Int}
theorem put3_far (h : Has w g T cs) (hg : g ≠ b) (x y z : Value) : Has (put3 w b x y z) g T cs := ((h.far hg _).far hg _).far hg _
theorem put3_below (h : Below B w0 w) (hb : B ≤ b) (x y z : Value) : Below B w0 (put3 w b x y z) := ((h.setCell hb _).setCell hb _).setCell hb _
theorem put3_rd {k : IntKind} (h : Rd k w g o zs) (hg : g ≠ b) (x y z : Value) : Rd k (put3 w b x y z) g o zs :=
  h.keep (by rw [put3, Below.heap_setCell _ _ _ _ (by simpa using hg), Below.heap_setCell _ _ _ _ (by simpa using hg), Below.heap_setCell _ _ _ _ (by simpa using hg)])
theorem put3_wr {n : Nat} (h : Wr w g o n) (x y z : Value) : Wr (put3 w b x y z) g o n := ((h.set _ _).set _ _).set _ _
end

theorem ok_three {l o : Int} {zs : List Int} (h : okP l o zs = true) : ∃ x y z, zs = [x, y, z] := by
  have h3 : zs.length = 3 := by
    cases h' : (zs.length == 3)
    · simp only [okP, h', Bool.false_and] at h
      cases h
    · simpa using h'
  match zs, h3 with
  | [x, y, z], _ => exact ⟨x, y, z, rfl⟩
end Go.Proofs.Ytejbmjdipfcblaa.Base

/-
  The model's engine as pure data, and what holds of it throughout a play: five pages each, a log, room to undo behind every prefix. No conditions.
-/
namespace Go.Proofs.Ytejbmjdipfcblaa.Base
open Go.RowKit

theorem logN_congr {rs qs : List R} : ∀ n, (∀ j, j < n → recAt rs j = recAt qs j) → logN rs n = true → logN qs n = true
  | 0, _, _ => rfl
  | n + 1, h, hl => by
    unfold logN at hl ⊢
    simp only [Bool.and_eq_true] at hl ⊢
    refine ⟨logN_congr n (fun j hj => h j (by omega)) hl.1, ?_⟩
    have hs := hl.2
    have hx : (recAt rs n).x ≤ n := by
      unfold stepB at hs
      simp only [Bool.and_eq_true, decide_eq_true_eq] at hs
      exact hs.2.2.1
    rw [← stepB_congr (fun j hj => h j (by omega)) hx]
    exact hs
/-- a log with one record more -/
theorem logB_more {rs : List R} {r : R} (h : logB rs = true) (hr : okR r = true) (hv : r.v = (lastN rs r.t rs.length : Int)) (hx : r.x ≤ rs.length) (ht : r.x = 0 ∨ (recAt rs (r.x - 1).toNat).t = r.t) (hl : rs.length + 1 ≤ 150) : logB (rs ++ [r]) = true := by
  unfold logB at h ⊢
  simp only [Bool.and_eq_true, decide_eq_true_eq, List.length_append, List.length_cons, List.length_nil, Nat.zero_add] at h ⊢
  refine ⟨?_, by omega⟩
  show (logN (rs ++ [r]) rs.length && stepB (rs ++ [r]) rs.length) = true
  rw [Bool.and_eq_true]
  refine ⟨logN_congr rs.length (fun j hj => (recAt_more rs r hj).symm) h.1, ?_⟩
  unfold stepB
  have hx0 := (okR_next _ hr).1
  rw [recAt_new, lastN_congr r.t rs.length (fun j hj => recAt_more rs r hj), hr, ← hv]
  simp only [beq_self_eq_true, Bool.true_and, Bool.and_eq_true, decide_eq_true_eq, Bool.or_eq_true, beq_iff_eq]
  refine ⟨hx, ?_⟩
  by_cases h0 : r.x = 0
  · exact .inl h0
  · rcases ht with ht | ht
    · exact absurd ht h0
    · refine .inr ?_
      rw [recAt_more rs r (by omega)]
      exact ht
/-- the first records of a log are one -/
theorem recAt_take (rs : List R) {k j : Nat} (hj : j < k) : recAt (rs.take k) j = recAt rs j := by
  unfold recAt
  simp [List.getD_eq_getElem?_getD, hj]
theorem logB_take {rs : List R} (h : logB rs = true) (k : Nat) (hk : k ≤ rs.length) : logB (rs.take k) = true := by
  unfold logB at h ⊢
  simp only [Bool.and_eq_true, decide_eq_true_eq] at h ⊢
  rw [List.length_take, Nat.min_eq_left hk]
  exact ⟨logN_congr k (fun j hj => (recAt_take rs hj).symm) (logN_mono rs rs.length k hk h.1), by omega⟩
theorem roomy_take {rs : List R} (hf : Falls rs rs.length) (h : roomy rs) (k : Nat) (hk : k ≤ rs.length) : roomy (rs.take k) := fun j hj => by
  rw [List.length_take, Nat.min_eq_left hk] at hj
  rw [← needN_congr (m := k) (fun i hi => hf i (by omega)) (fun i hi => (recAt_take rs hi).symm) hj]
  exact h j (by omega)

/-- a page: its number, its owner, its slots -/
abbrev PP := Int × Int × List Int
/-- an engine -/
structure EE where
  disk : List PP
  mem : List PP
  log : List R
  safe : Int
  down : Bool
/-- a page whose slots are three values -/
structure okPP (p : PP) : Prop where
  l : 0 ≤ p.1
  o : 0 ≤ p.2.1 ∧ p.2.1 ≤ 3
  n : p.2.2.length = 3
  z : ∀ z ∈ p.2.2, 0 ≤ z ∧ z ≤ 9
/-- what holds throughout a play -/
structure Inv (e : EE) : Prop where
  d5 : e.disk.length = 5
  m5 : e.mem.length = 5
  d : ∀ p ∈ e.disk, okPP p ∧ p.1 ≤ e.safe
  m : ∀ p ∈ e.mem, okPP p ∧ p.1 ≤ e.log.length
  log : logB e.log = true
  room : roomy e.log
  s0 : 0 ≤ e.safe
  s1 : e.safe ≤ e.log.length
/-- a page behind a record -/
def doPP (p : PP) (r : R) (n : Int) : PP := (n, oW r.s r.n p.2.1, newZ r p.2.2)
/-- what a record that changes a page asks of its slot and value -/
def fitR (r : R) : Prop := (r.s = -1 ∧ 0 ≤ r.n ∧ r.n ≤ 3) ∨ ((0 ≤ r.s ∧ r.s ≤ 2) ∧ 0 ≤ r.n ∧ r.n ≤ 9)
theorem okPP_do {p : PP} {r : R} {n : Int} (hp : okPP p) (hr : fitR r) (hn : 0 ≤ n) : okPP (doPP p r n) := by
  obtain ⟨l, o, zs⟩ := p
  obtain ⟨hl, ho, h3, hz⟩ := hp
  simp only at hl ho h3 hz
  match zs, h3 with
  | [x, y, z], _ =>
    have hx := hz x (by simp)
    have hy := hz y (by simp)
    have hzz := hz z (by simp)
    refine ⟨hn, ?_, rfl, fun u hu => ?_⟩
    · show 0 ≤ oW r.s r.n o ∧ oW r.s r.n o ≤ 3
      unfold oW
      rcases hr with ⟨h1, h2, h3⟩ | ⟨⟨h1, h2⟩, h3, h4⟩
      · rw [if_pos h1]
        exact ⟨h2, h3⟩
      · rw [if_neg (by omega)]
        exact ho
    · simp only [doPP, newZ, sW, List.mem_cons, List.not_mem_nil, or_false] at hu
      simp at hu
      rcases hr with ⟨h1, h2, h3⟩ | ⟨⟨h1, h2⟩, h3, h4⟩
      · simp only [if_pos h1] at hu
        rcases hu with rfl | rfl | rfl <;> split <;> omega
      · have hne : ¬ r.s = -1 := by omega
        simp only [if_neg hne] at hu
        rcases hu with rfl | rfl | rfl <;> split <;> omega
end Go.Proofs.Ytejbmjdipfcblaa.Base
