/-
  A text cut at blanks, numbers read back, and which record a text is of. No conditions.
-/
import Derived.Test.YtoihdbcdlodkgaaGreatDoorTxMath
import Derived.Lib.SplitLaws
import Derived.Lib.AtoiAll
namespace Go.Proofs.YtoihdbcdlodkgaaGreatDoor.Base
open Go.RowKit

/-- a text cut at each blank -/
def cutW : List UInt8 → List (List UInt8)
  | [] => [[]]
  | c :: l => if c = 32 then [] :: cutW l else
    match cutW l with
    | [] => [[c]]
    | a :: r => (c :: a) :: r
theorem cutW_ne : ∀ l, cutW l ≠ []
  | [] => by simp [cutW]
  | c :: l => by
    unfold cutW
    split
    · simp
    · split <;> simp
theorem cutW_split : ∀ s : List UInt8, Lib.splitK [32] 0 (Lib.count s [32]) s = cutW s
  | [] => by
    rw [Lib.count_one]
    rfl
  | c :: l => by
    have ih := cutW_split l
    by_cases hc : c = 32
    · subst hc
      have hix : Lib.index ((32 : UInt8) :: l) [32] = 0 := by rw [Lib.index]; simp [List.isPrefixOf]
      rw [Lib.count_cons_eq, Nat.add_comm, Lib.splitK, hix]
      simp only [cutW, if_true]
      rw [← ih]
      rfl
    · have hp : ([32] : List UInt8).isPrefixOf (c :: l) = false := by simp [List.isPrefixOf, Ne.symm hc]
      have hix : Lib.index (c :: l) [32] = if Lib.index l [32] == -1 then -1 else Lib.index l [32] + 1 := by rw [Lib.index, hp]; simp
      rw [Lib.count_cons_ne c 32 l hc]
      unfold cutW
      rw [if_neg hc, ← ih]
      by_cases hm : Lib.index l [32] = -1
      · have h0 : Lib.count l [32] = 0 := Lib.count_miss hm
        rw [h0]
        rfl
      · have hge := Lib.index_ge l [32]
        obtain ⟨j, hj⟩ : ∃ j : Nat, Lib.index l [32] = j := ⟨(Lib.index l [32]).toNat, by omega⟩
        have hix' : Lib.index (c :: l) [32] = ((j + 1 : Nat) : Int) := by rw [hix, if_neg (fun e => hm (beq_iff_eq.1 e)), hj]; omega
        obtain ⟨k, hk⟩ : ∃ k, Lib.count l [32] = k + 1 := by
          rw [Lib.count_hit (by simp) hj]
          exact ⟨_, Nat.add_comm _ _⟩
        rw [hk]
        have b1 : ((((j + 1 : Nat) : Int)) == -1) = false := by
          rw [beq_eq_false_iff_ne]; omega
        have b2 : (((j : Nat) : Int) == -1) = false := by
          rw [beq_eq_false_iff_ne]; omega
        have e1 : (((j + 1 : Nat) : Int)).toNat = j + 1 := rfl
        have e2 : (((j : Nat) : Int)).toNat = j := rfl
        simp only [Lib.splitK, hix', hj, b1, b2, e1, e2]
        simp
/-- one byte more -/
theorem cutW_blank_end : ∀ l, cutW (l ++ [32]) = cutW l ++ [[]]
  | [] => rfl
  | c :: l => by
    have ih := cutW_blank_end l
    simp only [List.cons_append, cutW]
    split
    · rw [ih]; rfl
    · rw [ih]
      cases h : cutW l with
      | nil => exact absurd h (cutW_ne l)
      | cons a r => rfl
/-- the last word with one byte more -/
def moreW (ws : List (List UInt8)) (c : UInt8) : List (List UInt8) := ws.dropLast ++ [ws.getLastD [] ++ [c]]
theorem moreW_cons (a : List UInt8) (r : List (List UInt8)) (h : r ≠ []) (c : UInt8) : moreW (a :: r) c = a :: moreW r c := by
  cases r with
  | nil => exact absurd rfl h
  | cons b r => simp [moreW]
theorem cutW_more (x : UInt8) (hx : x ≠ 32) : ∀ l, cutW (l ++ [x]) = moreW (cutW l) x
  | [] => by
    show cutW [x] = _
    simp only [cutW, if_neg hx]
    rfl
  | c :: l => by
    have ih := cutW_more x hx l
    simp only [List.cons_append, cutW]
    split
    · rw [ih, moreW_cons _ _ (cutW_ne l)]
    · rw [ih]
      cases h : cutW l with
      | nil => exact absurd h (cutW_ne l)
      | cons a r =>
        cases r with
        | nil => simp [moreW]
        | cons b r =>
          rw [moreW_cons a (b :: r) (by simp), moreW_cons (c :: a) (b :: r) (by simp)]
theorem cutW_word : ∀ (a : List UInt8), (∀ c ∈ a, c ≠ 32) → cutW a = [a]
  | [], _ => rfl
  | c :: a, h => by
    have ih := cutW_word a fun x hx => h x (List.mem_cons_of_mem _ hx)
    simp only [cutW, if_neg (h c (by simp)), ih]
theorem cutW_blank : ∀ (a b : List UInt8), (∀ c ∈ a, c ≠ 32) → cutW (blank a b) = a :: cutW b
  | [], b, _ => by simp [blank, cutW]
  | c :: a, b, h => by
    have ih := cutW_blank a b fun x hx => h x (List.mem_cons_of_mem _ hx)
    have e : blank (c :: a) b = c :: blank a b := by simp [blank]
    rw [e]
    simp only [cutW, if_neg (h c (by simp)), ih]
/-- the words of a record's text -/
def wordsL (r : R) : List (List UInt8) := [nameL r.k, Lib.itoa r.t, Lib.itoa r.p, Lib.itoa r.s, Lib.itoa r.o, Lib.itoa r.n, Lib.itoa r.v, Lib.itoa r.x]
theorem cutW_rec (r : R) : cutW (recT r) = wordsL r := by
  unfold recT
  rw [cutW_blank _ _ name_no_blank, cutW_blank _ _ (itoa_no_blank _), cutW_blank _ _ (itoa_no_blank _), cutW_blank _ _ (itoa_no_blank _), cutW_blank _ _ (itoa_no_blank _), cutW_blank _ _ (itoa_no_blank _), cutW_blank _ _ (itoa_no_blank _), cutW_word _ (itoa_no_blank _)]
  rfl

/-- the digits of a number below 1000, written out -/
def dec3 (n : Nat) : List UInt8 :=
  if n < 10 then [UInt8.ofNat (48 + n)] else if n < 100 then [UInt8.ofNat (48 + n / 10), UInt8.ofNat (48 + n % 10)]
  else [UInt8.ofNat (48 + n / 100), UInt8.ofNat (48 + n / 10 % 10), UInt8.ofNat (48 + n % 10)]
theorem dec3_eq (n : Nat) (h : n < 1000) : Lib.decDigits n = dec3 n := by
  unfold dec3
  split
  · next h1 => exact Lib.decDigits_one h1
  split
  · next h1 h2 => exact Lib.decDigits_two h1 h2
  · next h1 h2 =>
    rw [Lib.decDigits, dif_neg h1, Lib.decDigits_two (by omega) (by omega)]
    simp only [List.cons_append, List.nil_append]
    rw [show n / 10 / 10 = n / 100 by omega]
theorem itoa_eq (n : Nat) (h : n < 1000) : Lib.itoa (n : Int) = dec3 n := by
  unfold Lib.itoa
  rw [if_neg (by omega), ← dec3_eq n h]
  rfl
theorem itoa_minus : Lib.itoa (-1) = [45, 49] := by
  show (45 : UInt8) :: Lib.decDigits 1 = _
  rw [dec3_eq 1 (by omega)]
  rfl
theorem atoi_dec : ∀ n : Fin 151, Lib.atoiAll (dec3 n.1) = .ok (n.1 : Int) := by decide +kernel
/-- a number's text is read as the number -/
theorem atoi_itoa {n : Int} (h0 : -1 ≤ n) (h1 : n ≤ 150) : Lib.atoiAll (Lib.itoa n) = .ok n := by
  by_cases h : n = -1
  · subst h
    rw [itoa_minus]
    decide +kernel
  · obtain ⟨m, rfl⟩ : ∃ m : Nat, n = m := ⟨n.toNat, by omega⟩
    rw [itoa_eq m (by omega)]
    exact atoi_dec ⟨m, by omega⟩

/-- a text of a valid record -/
def IsText (s : List UInt8) (r : R) : Prop := okR r = true ∧ recT r = s
theorem isText_one {s : List UInt8} {a b : R} (ha : IsText s a) (hb : IsText s b) : a = b := recT_inj ha.1 hb.1 (ha.2.trans hb.2.symm)
open Classical in
/-- the record of a text; zeros where there is none -/
noncomputable def readR (s : List UInt8) : R := if h : ∃ r, IsText s r then h.choose else ⟨0, 0, 0, 0, 0, 0, 0, 0⟩
open Classical in
/-- whether a text is of a record -/
noncomputable def readB (s : List UInt8) : Bool := decide (∃ r, IsText s r)
theorem readR_of {s : List UInt8} {r : R} (h : IsText s r) : readR s = r ∧ readB s = true := by
  have hx : ∃ r, IsText s r := ⟨r, h⟩
  unfold readR readB
  rw [dif_pos hx]
  exact ⟨isText_one hx.choose_spec h, by simpa using hx⟩
theorem readR_none {s : List UInt8} (h : ∀ r, ¬ IsText s r) : readR s = ⟨0, 0, 0, 0, 0, 0, 0, 0⟩ ∧ readB s = false := by
  have hx : ¬ ∃ r, IsText s r := fun ⟨r, hr⟩ => h r hr
  unfold readR readB
  rw [dif_neg hx]
  exact ⟨rfl, by simpa using hx⟩
/-- a text that a record gives is of that record; an empty one of none -/
theorem isText_of {s : List UInt8} {r : R} (h : textR r = s) (hs : s ≠ []) : IsText s r := by
  unfold textR at h
  cases hk : okR r
  · rw [hk] at h
    exact absurd h.symm hs
  · rw [hk] at h
    exact ⟨hk, h⟩
set_option maxHeartbeats 2000000 in
theorem isText_len {s : List UInt8} {r : R} (h : IsText s r) : s.length ≤ 30 ∧ s ≠ [] ∧ cutW s = wordsL r := by
  obtain ⟨hk, rfl⟩ := h
  refine ⟨?_, recT_ne, cutW_rec r⟩
  obtain ⟨⟨t0, t1⟩, ⟨p0, p1⟩, ⟨s0, s1⟩, ⟨o0, o1⟩, ⟨n0, n1⟩, ⟨v0, v1⟩, x0, x1⟩ := okR_bounds hk
  have small : ∀ n : Int, -1 ≤ n → n ≤ 9 → (Lib.itoa n).length ≤ 2 := fun n a b => by
    by_cases h : n = -1
    · subst h; rw [itoa_minus]; decide
    · obtain ⟨m, rfl⟩ : ∃ m : Nat, n = m := ⟨n.toNat, by omega⟩
      rw [itoa_eq m (by omega)]
      unfold dec3
      split
      · simp
      · omega
  have big : ∀ n : Int, 0 ≤ n → n ≤ 150 → (Lib.itoa n).length ≤ 3 := fun n a b => by
    obtain ⟨m, rfl⟩ : ∃ m : Nat, n = m := ⟨n.toNat, by omega⟩
    rw [itoa_eq m (by omega)]
    unfold dec3
    repeat' split
    all_goals simp
  have hn : (nameL r.k).length ≤ 4 := by
    unfold nameL
    repeat' split
    all_goals decide
  have := small r.t (by omega) (by omega)
  have := small r.p (by omega) (by omega)
  have := small r.s (by omega) (by omega)
  have := small r.o (by omega) (by omega)
  have := small r.n (by omega) (by omega)
  have := big r.v v0 v1
  have := big r.x x0 x1
  unfold recT blank
  simp only [List.length_append, List.length_cons, List.length_nil]
  omega

/-- the kind of a name; 0 of what is none -/
def kindW (a : List UInt8) : Int :=
  if a = [112, 117, 116] then 1 else if a = [111, 119, 110] then 2 else if a = [108, 111, 97, 100] then 3
  else if a = [100, 111, 110, 101] then 4 else if a = [101, 110, 100] then 5 else if a = [117, 110, 100, 111] then 6 else 0
theorem kind_name {k : Int} (h : k = 1 ∨ k = 2 ∨ k = 3 ∨ k = 4 ∨ k = 5 ∨ k = 6) : kindW (nameL k) = k := by
  rcases h with rfl | rfl | rfl | rfl | rfl | rfl <;> decide
end Go.Proofs.YtoihdbcdlodkgaaGreatDoor.Base
