/-
  Sorted, then compacted: just the numbers that are there, ascending. No program in it.
-/
import Derived.Test.YtjiclphpeoffdaaLogPS
import Derived.Lib.SlicesCompact
namespace Go.Proofs.Ytjiclphpeoffdaa.Base
open Go.RowKit

/-- two ascending lists with the same members are one -/
theorem asc_ext : ∀ (l m : List Int), l.Pairwise (· < ·) → m.Pairwise (· < ·) → (∀ x, x ∈ l ↔ x ∈ m) → l = m
  | [], [], _, _, _ => rfl
  | [], b :: m, _, _, h => absurd ((h b).2 (by simp)) (by simp)
  | a :: l, [], _, _, h => absurd ((h a).1 (by simp)) (by simp)
  | a :: l, b :: m, hl, hm, h => by
    obtain ⟨hl1, hl2⟩ := List.pairwise_cons.1 hl
    obtain ⟨hm1, hm2⟩ := List.pairwise_cons.1 hm
    have hab : a = b := by
      rcases List.mem_cons.1 ((h a).1 (by simp)) with e | e
      · exact e
      · rcases List.mem_cons.1 ((h b).2 (by simp)) with e' | e'
        · exact e'.symm
        · have := hm1 a e
          have := hl1 b e'
          omega
    subst hab
    have hr : ∀ x, x ∈ l ↔ x ∈ m := fun x => by
      constructor
      · intro hx
        have h1 := hl1 x hx
        rcases List.mem_cons.1 ((h x).1 (by simp [hx])) with e | e
        · omega
        · exact e
      · intro hx
        have h1 := hm1 x hx
        rcases List.mem_cons.1 ((h x).2 (by simp [hx])) with e | e
        · omega
        · exact e
    rw [asc_ext l m hl2 hm2 hr]

theorem get_bang (l : List Int) (m : Nat) (h : m < l.length) : l.toArray[m]! = l[m] := by
  rw [getElem!_pos _ m (by simpa using h)]
  simp

theorem compact_asc (l : List Int) (hl : l.Pairwise (· ≤ ·)) : ∀ m, m ≤ l.length → (Lib.compactUpTo l.toArray m).Pairwise (· < ·) ∧ ∀ x, x ∈ Lib.compactUpTo l.toArray m ↔ x ∈ l.take m
  | 0, _ => by simp [Lib.compactUpTo]
  | m + 1, hm => by
    obtain ⟨h1, h2⟩ := compact_asc l hl m (by omega)
    have hlt : m < l.length := by omega
    rw [Lib.compactUpTo_succ, get_bang l m hlt, List.take_succ_eq_append_getElem hlt]
    have hle : ∀ x, x ∈ l.take m → x ≤ l[m] := fun x hx => by
      obtain ⟨i, hi, rfl⟩ := List.mem_iff_getElem.1 hx
      rw [List.length_take] at hi
      rw [List.getElem_take]
      exact List.pairwise_iff_getElem.1 hl i m (by omega) hlt (by omega)
    cases hk : Lib.keeps l.toArray m
    · have hm0 : m ≠ 0 := fun e => by subst e; simp [Lib.keeps] at hk
      have he : l[m] = l[m - 1] := by
        unfold Lib.keeps at hk
        simp only [get_bang l m hlt, get_bang l (m - 1) (by omega)] at hk
        simp [hm0] at hk
        exact hk
      refine ⟨by simpa using h1, fun x => ?_⟩
      have hin : l[m] ∈ l.take m := by
        rw [he]
        exact List.mem_iff_getElem.2 ⟨m - 1, by rw [List.length_take]; omega, by rw [List.getElem_take]⟩
      simp only [Bool.false_eq_true, if_false, List.append_nil, List.mem_append, List.mem_singleton]
      rw [h2 x]
      constructor
      · exact .inl
      · rintro (h | rfl)
        · exact h
        · exact hin
    · refine ⟨?_, fun x => ?_⟩
      · simp only [if_true]
        rw [List.pairwise_append]
        refine ⟨h1, by simp, fun x hx y hy => ?_⟩
        simp only [List.mem_singleton] at hy
        subst hy
        have hx' := (h2 x).1 hx
        have hxl := hle x hx'
        by_cases hm0 : m = 0
        · subst hm0
          simp at hx'
        · have hne : l[m] ≠ l[m - 1] := by
            unfold Lib.keeps at hk
            simp only [get_bang l m hlt, get_bang l (m - 1) (by omega)] at hk
            simp [hm0] at hk
            exact hk
          have h3 : x ≤ l[m - 1] := by
            obtain ⟨i, hi, rfl⟩ := List.mem_iff_getElem.1 hx'
            rw [List.length_take] at hi
            rw [List.getElem_take]
            by_cases e : i = m - 1
            · subst e
              exact Int.le_refl _
            · exact List.pairwise_iff_getElem.1 hl i (m - 1) (by omega) (by omega) (by omega)
          have h4 : l[m - 1] ≤ l[m] := List.pairwise_iff_getElem.1 hl (m - 1) m (by omega) hlt (by omega)
          omega
      · simp only [if_true, List.mem_append, List.mem_singleton]
        rw [h2 x]

/-- the pages of a chain, as its records have them -/
def pageL (rs : List R) (t : Int) : List Int := (chainC rs (at0 rs t)).map fun n => (recAt rs (n - 1)).p
theorem pagesN_spec (rs : List R) (t : Int) : ∀ k : Nat, (pagesN rs t k).Pairwise (· < ·) ∧ ∀ x, x ∈ pagesN rs t k ↔ (0 ≤ x ∧ x < (k : Int)) ∧ hasB rs t x = true
  | 0 => ⟨by simp [pagesN], fun x => by simp [pagesN]; omega⟩
  | k + 1 => by
    obtain ⟨h1, h2⟩ := pagesN_spec rs t k
    unfold pagesN
    cases hh : hasB rs t (k : Int)
    · refine ⟨by simpa using h1, fun x => ?_⟩
      simp only [Bool.false_eq_true, if_false, List.append_nil]
      rw [h2 x]
      constructor
      · rintro ⟨⟨a, b⟩, c⟩
        exact ⟨⟨a, by omega⟩, c⟩
      · rintro ⟨⟨a, b⟩, c⟩
        have hne : x ≠ (k : Int) := fun e => by rw [e, hh] at c; cases c
        exact ⟨⟨a, by omega⟩, c⟩
    · refine ⟨?_, fun x => ?_⟩
      · simp only [if_true]
        rw [List.pairwise_append]
        refine ⟨h1, by simp, fun x hx y hy => ?_⟩
        simp only [List.mem_singleton] at hy
        subst hy
        exact ((h2 x).1 hx).1.2
      · simp only [if_true, List.mem_append, List.mem_singleton]
        rw [h2 x]
        constructor
        · rintro (⟨⟨a, b⟩, c⟩ | rfl)
          · exact ⟨⟨a, by omega⟩, c⟩
          · exact ⟨⟨by omega, by omega⟩, hh⟩
        · rintro ⟨⟨a, b⟩, c⟩
          by_cases e : x = (k : Int)
          · exact .inr e
          · exact .inl ⟨⟨a, by omega⟩, c⟩
theorem mem_pageL (rs : List R) (t x : Int) : x ∈ pageL rs t ↔ hasB rs t x = true := by
  unfold pageL hasB hasIn
  rw [List.mem_map, List.any_eq_true]
  constructor
  · rintro ⟨n, hn, rfl⟩
    exact ⟨n, hn, by simp⟩
  · rintro ⟨n, hn, h⟩
    exact ⟨n, hn, by simpa using h⟩
/-- a number of a chain is the number of a record of the log -/
theorem chain_mem (rs : List R) (m : Nat) (hs : ∀ j, j < m → stepB rs j = true) : ∀ (k : Nat), k ≤ m → ∀ n, n ∈ chainC rs k → 1 ≤ n ∧ n ≤ m := by
  intro k
  induction k using Nat.strongRecOn with
  | _ k ih =>
    intro hk n hn
    match k, hk, hn with
    | 0, _, hn => simp [chainC, chainN] at hn
    | k + 1, hk, hn =>
      have hp := (step_prev rs k (hs k (by omega))).1
      rw [chainC_step rs k m hs (by omega)] at hn
      rcases List.mem_cons.1 hn with rfl | hn
      · omega
      · exact ih _ (by omega) (by omega) n hn
theorem pageL_range (rs : List R) (t x : Int) (h : x ∈ pageL rs t) : 0 ≤ x ∧ x < 5 := by
  obtain ⟨n, hn, rfl⟩ := List.mem_map.1 h
  obtain ⟨h1, h2⟩ := chain_mem rs (at0 rs t) (at0_steps rs t) (at0 rs t) (Nat.le_refl _) n hn
  have hs := at0_steps rs t (n - 1) (by omega)
  unfold stepB at hs
  rw [Bool.and_eq_true] at hs
  have := okR_page _ hs.1
  omega
/-- sorted and compacted, the pages are the answer -/
theorem pages_sorted (rs : List R) (t : Int) : Lib.compact ((pageL rs t).mergeSort fun x y => decide (x ≤ y)) = pagesB rs t := by
  have hp := List.mergeSort_perm (pageL rs t) (fun x y => decide (x ≤ y))
  have hsrt : ((pageL rs t).mergeSort fun x y => decide (x ≤ y)).Pairwise (· ≤ ·) := by
    have := List.pairwise_mergeSort (le := fun x y : Int => decide (x ≤ y)) (fun a b c h1 h2 => by simp at *; omega) (fun a b => by simp; omega) (pageL rs t)
    exact this.imp fun h => by simpa using h
  obtain ⟨h1, h2⟩ := compact_asc _ hsrt _ (Nat.le_refl _)
  obtain ⟨h3, h4⟩ := pagesN_spec rs t 5
  refine asc_ext _ _ h1 h3 fun x => ?_
  show x ∈ Lib.compactUpTo _ _ ↔ x ∈ pagesN rs t 5
  rw [h2 x, List.take_length, hp.mem_iff, mem_pageL, h4 x]
  constructor
  · intro h
    have := pageL_range rs t x ((mem_pageL rs t x).2 h)
    exact ⟨⟨this.1, by omega⟩, h⟩
  · exact fun h => h.2
theorem pageL_len (rs : List R) (t : Int) : (pageL rs t).length ≤ 150 := by
  unfold pageL chainC
  rw [List.length_map]
  exact Nat.le_trans (chainN_len rs _ _) (at0_le rs t).2
end Go.Proofs.Ytjiclphpeoffdaa.Base
