/-
  The text of a record, as bytes, and that two valid records have the same text just if they are the same. No conditions.
-/
import Derived.Test.YtoihdbcdlodkgaaGreatDoorRecs
import Derived.Lib.ItoaNum
namespace Go.Proofs.YtoihdbcdlodkgaaGreatDoor.Base
open Go.RowKit

/-- the name of a kind -/
def nameL (k : Int) : List UInt8 :=
  if k = 1 then [112, 117, 116] else if k = 2 then [111, 119, 110] else if k = 3 then [108, 111, 97, 100]
  else if k = 4 then [100, 111, 110, 101] else if k = 5 then [101, 110, 100] else if k = 6 then [117, 110, 100, 111] else []
/-- a word and what follows, a blank between -/
def blank (a b : List UInt8) : List UInt8 := a ++ ([32] ++ b)
/-- the text of a valid record -/
def recT (r : R) : List UInt8 :=
  blank (nameL r.k) (blank (Lib.itoa r.t) (blank (Lib.itoa r.p) (blank (Lib.itoa r.s) (blank (Lib.itoa r.o) (blank (Lib.itoa r.n) (blank (Lib.itoa r.v) (Lib.itoa r.x)))))))
/-- the text of a record: empty where it is not valid -/
def textR (r : R) : List UInt8 := if okR r then recT r else []

theorem okR_kind {r : R} (h : okR r = true) : r.k = 1 ∨ r.k = 2 ∨ r.k = 3 ∨ r.k = 4 ∨ r.k = 5 ∨ r.k = 6 := by
  simp only [okR, Bool.and_eq_true] at h
  have h2 := h.2
  unfold formB at h2
  repeat' split at h2
  all_goals first | omega | (cases h2)

theorem inB_le {n a b : Int} (h : inB n a b = true) : a ≤ n ∧ n ≤ b := by
  simpa [inB] using h

/-- the numbers of a valid record are small -/
theorem okR_bounds {r : R} (h : okR r = true) : (0 ≤ r.t ∧ r.t ≤ 3) ∧ (0 ≤ r.p ∧ r.p ≤ 4) ∧ (-1 ≤ r.s ∧ r.s ≤ 2) ∧ (0 ≤ r.o ∧ r.o ≤ 9) ∧ (0 ≤ r.n ∧ r.n ≤ 9) ∧ (0 ≤ r.v ∧ r.v ≤ 150) ∧ (0 ≤ r.x ∧ r.x ≤ 150) := by
  have hk := okR_kind h
  simp only [okR, Bool.and_eq_true] at h
  obtain ⟨⟨ht, hv, hx⟩, hf⟩ := h
  have ht := inB_le ht
  have hv := inB_le hv
  have hx := inB_le hx
  have hof : ofB r = true → (0 ≤ r.p ∧ r.p ≤ 4) ∧ (-1 ≤ r.s ∧ r.s ≤ 2) ∧ (0 ≤ r.o ∧ r.o ≤ 9) ∧ (0 ≤ r.n ∧ r.n ≤ 9) := fun h => by
    simp only [ofB, Bool.and_eq_true] at h
    obtain ⟨h1, h2, h3, h4⟩ := h
    have h1 := inB_le h1
    have h2 := inB_le h2
    have h3 := inB_le h3
    have h4 := inB_le h4
    have hm : most r.s ≤ 9 := by unfold most; split <;> omega
    omega
  unfold formB at hf
  repeat' split at hf
  · simp only [Bool.and_eq_true] at hf
    have := hof hf.1
    omega
  · simp only [Bool.and_eq_true] at hf
    have := hof hf.1
    omega
  · simp only [Bool.and_eq_true] at hf
    have := hof hf.1
    omega
  · simp only [Bool.and_eq_true, beq_iff_eq] at hf
    have := inB_le hf.1
    omega
  · simp only [Bool.and_eq_true, beq_iff_eq] at hf
    omega
  · cases hf

theorem dec_len (n : Nat) : (Lib.decDigits n).length ≤ n + 1 := by
  induction n using Nat.strongRecOn with
  | _ n ih =>
    rw [Lib.decDigits]
    split
    · simp
    · have := ih (n / 10) (by omega)
      simp
      omega
theorem dec_digit (n : Nat) : ∀ c ∈ Lib.decDigits n, 48 ≤ c.toNat ∧ c.toNat ≤ 57 := by
  induction n using Nat.strongRecOn with
  | _ n ih =>
    rw [Lib.decDigits]
    split
    · intro c hc
      simp only [List.mem_singleton] at hc
      subst hc
      rw [UInt8.toNat_ofNat_of_lt' (by simp [UInt8.size]; omega)]
      omega
    · intro c hc
      simp only [List.mem_append, List.mem_singleton] at hc
      rcases hc with hc | hc
      · exact ih (n / 10) (by omega) c hc
      · subst hc
        rw [UInt8.toNat_ofNat_of_lt' (by simp [UInt8.size]; omega)]
        omega
theorem itoa_no_blank (n : Int) : ∀ c ∈ Lib.itoa n, c ≠ 32 := by
  intro c hc e
  subst e
  unfold Lib.itoa at hc
  split at hc
  · simp only [List.mem_cons] at hc
    rcases hc with hc | hc
    · exact absurd hc (by decide)
    · have := dec_digit _ _ hc
      simp at this
  · have := dec_digit _ _ hc
    simp at this
/-- digits, read as a number -/
def valL (l : List UInt8) : Nat := l.foldl (fun n c => 10 * n + (c.toNat - 48)) 0
theorem val_dec (n : Nat) : valL (Lib.decDigits n) = n := by
  induction n using Nat.strongRecOn with
  | _ n ih =>
    rw [Lib.decDigits]
    split
    · simp only [valL, List.foldl_cons, List.foldl_nil]
      rw [UInt8.toNat_ofNat_of_lt' (by simp [UInt8.size]; omega)]
      omega
    · have := ih (n / 10) (by omega)
      unfold valL at this ⊢
      rw [List.foldl_append, this]
      simp only [List.foldl_cons, List.foldl_nil]
      rw [UInt8.toNat_ofNat_of_lt' (by simp [UInt8.size]; omega)]
      omega
theorem dec_ne (n : Nat) : Lib.decDigits n ≠ [] := by
  rw [Lib.decDigits]
  split <;> simp
theorem itoa_inj {m n : Int} (h : Lib.itoa m = Lib.itoa n) : m = n := by
  have key : ∀ a b : Nat, (45 : UInt8) :: Lib.decDigits a ≠ Lib.decDigits b := fun a b e => by
    have := dec_digit b 45 (by rw [← e]; simp)
    simp at this
  unfold Lib.itoa at h
  split at h <;> split at h
  · injection h with _ h
    have := congrArg valL h
    rw [val_dec, val_dec] at this
    omega
  · exact absurd h (key _ _)
  · exact absurd h.symm (key _ _)
  · have := congrArg valL h
    rw [val_dec, val_dec] at this
    omega
theorem blank_inj {a b c d : List UInt8} (ha : ∀ x ∈ a, x ≠ 32) (hc : ∀ x ∈ c, x ≠ 32) (h : blank a b = blank c d) : a = c ∧ b = d := by
  induction a generalizing c with
  | nil =>
    cases c with
    | nil => exact ⟨rfl, by simpa [blank] using h⟩
    | cons y c =>
      exfalso
      simp only [blank, List.nil_append, List.cons_append, List.cons.injEq] at h
      exact hc y (by simp) h.1.symm
  | cons x a ih =>
    cases c with
    | nil =>
      exfalso
      simp only [blank, List.nil_append, List.cons_append, List.cons.injEq] at h
      exact ha x (by simp) h.1
    | cons y c =>
      simp only [blank, List.cons_append, List.cons.injEq] at h
      obtain ⟨rfl, h⟩ := h
      obtain ⟨rfl, e⟩ := ih (c := c) (fun z hz => ha z (List.mem_cons_of_mem _ hz)) (fun z hz => hc z (List.mem_cons_of_mem _ hz)) (by simpa [blank] using h)
      exact ⟨rfl, e⟩
theorem name_no_blank {k : Int} : ∀ c ∈ nameL k, c ≠ 32 := by
  intro c hc e
  subst e
  unfold nameL at hc
  repeat' split at hc
  all_goals (revert hc; decide)
theorem name_inj {j k : Int} (hj : j = 1 ∨ j = 2 ∨ j = 3 ∨ j = 4 ∨ j = 5 ∨ j = 6) (hk : k = 1 ∨ k = 2 ∨ k = 3 ∨ k = 4 ∨ k = 5 ∨ k = 6) (h : nameL j = nameL k) : j = k := by
  rcases hj with rfl | rfl | rfl | rfl | rfl | rfl <;> rcases hk with rfl | rfl | rfl | rfl | rfl | rfl <;> first | rfl | exact absurd h (by decide)
theorem recT_inj {a b : R} (ha : okR a = true) (hb : okR b = true) (h : recT a = recT b) : a = b := by
  have ka := okR_kind ha
  have kb := okR_kind hb
  obtain ⟨e0, h⟩ := blank_inj name_no_blank name_no_blank h
  obtain ⟨e1, h⟩ := blank_inj (itoa_no_blank _) (itoa_no_blank _) h
  obtain ⟨e2, h⟩ := blank_inj (itoa_no_blank _) (itoa_no_blank _) h
  obtain ⟨e3, h⟩ := blank_inj (itoa_no_blank _) (itoa_no_blank _) h
  obtain ⟨e4, h⟩ := blank_inj (itoa_no_blank _) (itoa_no_blank _) h
  obtain ⟨e5, h⟩ := blank_inj (itoa_no_blank _) (itoa_no_blank _) h
  obtain ⟨e6, e7⟩ := blank_inj (itoa_no_blank _) (itoa_no_blank _) h
  have e0 := name_inj ka kb e0
  have e1 := itoa_inj e1
  have e2 := itoa_inj e2
  have e3 := itoa_inj e3
  have e4 := itoa_inj e4
  have e5 := itoa_inj e5
  have e6 := itoa_inj e6
  have e7 := itoa_inj e7
  cases a
  cases b
  simp_all
theorem recT_ne {r : R} : recT r ≠ [] := by
  unfold recT blank
  simp
/-- an equal text, of valid records: just where they are the same -/
theorem recT_eq {a b : R} (ha : okR a = true) (hb : okR b = true) : (recT a = recT b) ↔ eqR a b = true := by
  rw [eqR_iff]
  exact ⟨recT_inj ha hb, fun h => by rw [h]⟩
end Go.Proofs.YtoihdbcdlodkgaaGreatDoor.Base
