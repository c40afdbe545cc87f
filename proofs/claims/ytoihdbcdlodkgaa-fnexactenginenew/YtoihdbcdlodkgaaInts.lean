/-
  Contracts of the laws' helpers on []int: eqIntS, markIntS, heldIntS, szIntS, toIntS. Conditions: the slices lead to numbers (Words); what is added stays within int.
-/
import Derived.Test.YtoihdbcdlodkgaaBase
namespace Go.Proofs.Ytoihdbcdlodkgaa.Base
open Go.RowKit

theorem getD_ne (xs ys : List Int) (k : Nat) (hne : xs.getD k 0 ≠ ys.getD k 0) : (xs == ys) = false := by
  rw [beq_eq_false_iff_ne]
  rintro rfl
  exact hne rfl
theorem eq_of_getD (xs ys : List Int) (hl : xs.length = ys.length) (h : ∀ j, j < xs.length → xs.getD j 0 = ys.getD j 0) : xs = ys := by
  apply List.ext_getElem hl
  intro i h1 h2
  have := h i h1
  simpa [List.getD_eq_getElem?_getD, List.getElem?_eq_getElem h1, List.getElem?_eq_getElem h2] using this

theorem ret_bool {a b : Bool} (h : a = b) : Ending.returned (.bool a) = .returned (.bool b) := by rw [h]
theorem ret_int {a b : Int} (h : a = b) : Ending.returned (.int .i64 a) = .returned (.int .i64 b) := by rw [h]
/-- it answers v, and has only drawn -/
def Quiet (v : Value) (w : World) (e : Ending) (w' : World) : Prop := e = .returned v ∧ ∃ m, w' = w.drewN m

set_option maxHeartbeats 1000000 in
theorem eqIntS_any (xs ys : List Int) (a b : Option Addr) (ca cb B : Nat) (w : World) (hx : Ints .i64 w B a xs) (hy : Ints .i64 w B b ys) (mx : xs.length ≤ 1000000000) (my : ys.length ≤ 1000000000) :
    Calls Try.prog 25 #[.slice a xs.length ca, .slice b ys.length cb] w (Quiet (.bool (xs == ys)) w) := by
  by_cases hl : xs.length = ys.length
  · have Hx := Lib.hid hx
    have Hy := Lib.hid hy
    have hd : ((xs.length : Int) != (ys.length : Int)) = false := by simp [hl]
    clear hx hy
    have Hl := Lib.hid hl
    have hle : ys.length ≤ xs.length := by omega
    have hle' : xs.length ≤ ys.length := by omega
    clear hl
    go_enter Try.func25, Try.ntmps25
    go_wp2
    go_loopw [5] (fun i w1 => ∃ k m : Nat, k ≤ xs.length ∧ i = .int .i64 k ∧ w1 = w.drewN m ∧ ∀ j, j < k → xs.getD j 0 = ys.getD j 0) (fun i _ => xs.length - (intOf i).toNat)
    case atStart => exact ⟨0, 0, Nat.zero_le _, rfl, rfl, fun j hj => absurd hj (by omega)⟩
    case round =>
      obtain ⟨k, m, hk, rfl, rfl, heq⟩ := hrel
      have Heq := Lib.hid heq
      clear heq
      by_cases hlt : k < xs.length
      · obtain ⟨g, o, rfl, _, hr⟩ := Hx.out (by omega)
        obtain ⟨g', o', rfl, _, hr'⟩ := Hy.out (by omega)
        have c1 := hr k hlt
        have c2 := hr' k (by omega)
        clear hr hr'
        by_cases he : xs.getD k 0 = ys.getD k 0
        · have hb : (xs.getD k 0 != ys.getD k 0) = false := by rw [he]; simp
          have He := Lib.hid he
          clear he
          generalize xs.getD k 0 = u at c1 hb
          generalize ys.getD k 0 = v at c2 hb
          have hlt2 : k < ys.length := by omega
          go_wp2
          go_quiet (fail)
          go_wp2
          exact ⟨⟨k + 1, _, by omega, by go_num, rfl, fun j hj => by
            rcases Nat.lt_succ_iff_lt_or_eq.1 hj with h | rfl
            · exact Heq.out j h
            · exact He.out⟩, by simp [intOf]; omega⟩
        · have hb : (xs.getD k 0 != ys.getD k 0) = true := by simpa using he
          have He := Lib.hid (getD_ne xs ys k he)
          clear he
          generalize xs.getD k 0 = u at c1 hb
          generalize ys.getD k 0 = v at c2 hb
          have hlt2 : k < ys.length := by omega
          go_wp2
          go_quiet (fail)
          go_wp2
          go_ret
          exact ⟨ret_bool He.out.symm, _, World.drewN_drewN _ _ _⟩
      · go_wp2
        go_ret
        have e : xs = ys := eq_of_getD xs ys Hl.out (fun j hj => Heq.out j (by omega))
        exact ⟨ret_bool (by rw [e]; simp), m, rfl⟩
  · have hd : ((xs.length : Int) != (ys.length : Int)) = true := by simp; omega
    have He : Hid ((xs == ys) = false) := by
      show (xs == ys) = false
      rw [beq_eq_false_iff_ne]
      rintro rfl
      exact hl rfl
    clear hx hy hl
    go_enter Try.func25, Try.ntmps25
    go_wp2
    go_ret
    exact ⟨ret_bool He.out.symm, 0, rfl⟩

/-- k, k + 1, .. : n numbers -/
def marks (k : Int) (n : Nat) : List Int := (List.range n).map fun i => k + (i : Nat)
theorem marks_len (k : Int) (n : Nat) : (marks k n).length = n := by simp [marks]
theorem marks_get (k : Int) (n j : Nat) (h : j < n) : (marks k n).getD j 0 = k + j := by
  simp [marks, List.getD_eq_getElem?_getD, h]

/-- what markIntS leaves: the numbers k, k + 1, .. in its slice; no other block has turned -/
def Marked (k : Int) (g o n : Nat) (w : World) (e : Ending) (w' : World) : Prop :=
  e = .returned (.int .i64 (k + n)) ∧ w.grownBy w' (some g) ∧ w'.heap.size = w.heap.size ∧ Rd .i64 w' g o (marks k n) ∧ Wr w' g o n

set_option maxHeartbeats 1000000 in
theorem markIntS_any (zs : List Int) (g o cap : Nat) (k : Int) (w : World) (hr : Rd .i64 w g o zs) (hw : Wr w g o zs.length) (k0 : 0 ≤ k) (k1 : k ≤ 1000000000000) (mx : zs.length ≤ 1000000000) :
    Calls Try.prog 22 #[.slice (some ⟨g, o, none⟩) zs.length cap, .int .i64 k] w (Marked k g o zs.length w) := by
  have Hr := Lib.hid hr
  have Hw := Lib.hid hw
  clear hr hw
  go_enter Try.func22, Try.ntmps22
  go_wp2
  go_loopw [1, 5] (fun q i w1 => ∃ t : Nat, t ≤ zs.length ∧ i = .int .i64 t ∧ q = .int .i64 (k + t) ∧ w.grownBy w1 (some g) ∧ w1.heap.size = w.heap.size ∧ (∀ j, j < zs.length → ∃ u, w1.cell? ⟨g, o + j, none⟩ = some (.int .i64 u)) ∧ Wr w1 g o zs.length ∧ Rd .i64 w1 g o (marks k t)) (fun _ i _ => zs.length - (intOf i).toNat)
  case atStart => exact ⟨0, Nat.zero_le _, rfl, by simp, World.grownBy.refl _ _, rfl, fun j hj => ⟨_, Hr.out j hj⟩, Hw.out, fun j hj => absurd hj (by simp [marks])⟩
  case round =>
    obtain ⟨t, ht, rfl, rfl, hg, hs, hc, hwr, hm⟩ := hrel
    by_cases hlt : t < zs.length
    · obtain ⟨u, hu⟩ := hc t hlt
      have hf := hwr.2 t hlt
      have Hg := Lib.hid hg
      have Hs := Lib.hid hs
      have Hc := Lib.hid hc
      have Hw := Lib.hid hwr
      have Hm := Lib.hid hm
      clear hg hs hc hwr hm
      go_wp2
      refine ⟨⟨t + 1, by omega, by go_num, by go_num, grown_set Hg.out _, (size_set _ _ _).trans Hs.out, fun j hj => ?_, Hw.out.set _ _, fun j hj => ?_⟩, by simp [intOf]; omega⟩
      · rw [cell_set _ _ _ _ _ _ _ hu]
        by_cases e : j = t
        · exact ⟨_, if_pos e⟩
        · rw [if_neg e]
          exact Hc.out j hj
      · rw [marks_len] at hj
        rw [cell_set _ _ _ _ _ _ _ hu, marks_get _ _ _ hj]
        by_cases e : j = t
        · rw [if_pos e, e]
        · rw [if_neg e]
          have := Hm.out j (by rw [marks_len]; omega)
          rwa [marks_get _ _ _ (by omega)] at this
    · obtain rfl : t = zs.length := by omega
      have Hg := Lib.hid hg
      have Hs := Lib.hid hs
      have Hw := Lib.hid hwr
      have Hm := Lib.hid hm
      clear hg hs hc hwr hm
      go_wp2
      go_ret
      exact ⟨rfl, Hg.out, Hs.out, Hm.out, Hw.out⟩

set_option maxHeartbeats 1000000 in
theorem heldIntS_any (n : Nat) (a : Option Addr) (cap B : Nat) (k : Int) (w : World) (hr : Ints .i64 w B a (marks k n)) (k0 : 0 ≤ k) (k1 : k ≤ 1000000000000) (mx : n ≤ 1000000000) :
    Calls Try.prog 23 #[.slice a n cap, .int .i64 k] w fun e w' => e = .returned (.int .i64 (k + n)) ∧ w = w' := by
  have Hr := Lib.hid hr
  clear hr
  go_enter Try.func23, Try.ntmps23
  go_wp2
  go_loop [1, 5] (fun q i => ∃ t : Nat, t ≤ n ∧ i = .int .i64 t ∧ q = .int .i64 (k + t)) (fun _ i => n - (intOf i).toNat)
  case atStart => exact ⟨0, Nat.zero_le _, rfl, by simp⟩
  case round =>
    obtain ⟨t, ht, rfl, rfl⟩ := hrel
    by_cases hlt : t < n
    · obtain ⟨g, o, rfl, _, hrr⟩ := Hr.out (by rw [marks_len]; omega)
      have hu := hrr t (by rw [marks_len]; omega)
      rw [marks_get _ _ _ hlt] at hu
      clear hrr
      have hb : (k + (t : Int) != k + (t : Int)) = false := by simp
      go_wp2
      exact ⟨⟨t + 1, by omega, by go_num, by go_num⟩, by simp [intOf]; omega⟩
    · obtain rfl : t = n := by omega
      go_wp2
      go_ret
      exact ⟨rfl, rfl⟩

end Go.Proofs.Ytoihdbcdlodkgaa.Base
