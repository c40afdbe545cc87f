/-
  Contracts of the laws' helpers that measure and copy an argument: szPage, toIntS, toPage. Conditions: the page's slots lead to numbers.
-/
import Derived.Test.YtloglnekjhgfgabSpec
namespace Go.Proofs.Ytloglnekjhgfgab.Base
open Go.RowKit

set_option maxHeartbeats 400000 in
theorem szPage_any (l o : Int) (a : Option Addr) (n cap : Nat) (left : Int) (w : World) (l0 : -1 ≤ left) (l1 : left ≤ 1000000000000) (mx : n ≤ maxLen) :
    Calls Try.prog 5 #[pageV l o a n cap, .int .i64 left] w (Keeps (.int .i64 (leftOf left n)) w) := by
  go_enter Try.func5, Try.ntmps5
  go_wp2_with fail
  refine (szIntS_any a n cap left _ l0 l1 mx).mono ?_
  rintro e w1 ⟨rfl, rfl⟩
  by_cases h : leftOf left n < 0
  · have h' : leftOf left n = -1 := by
      unfold leftOf at h ⊢
      split
      · rfl
      · rename_i hn
        rw [if_neg hn] at h
        omega
    have H := Lib.hid h'
    rw [h'] at h ⊢
    clear h'
    go_wp2
    go_ret
    exact ⟨ret_int H.out.symm, below_one _ _⟩
  · generalize leftOf left n = q at *
    go_wp2
    go_ret
    exact ⟨rfl, below_one _ _⟩

/-- what toIntS leaves: the numbers, in a new block -/
def Copied (zs : List Int) (w : World) (e : Ending) (w' : World) : Prop :=
  e = .returned (.slice (some ⟨w.heap.size, 0, none⟩) zs.length zs.length) ∧ Below w.heap.size w w' ∧ Rd .i64 w' w.heap.size 0 zs ∧ Wr w' w.heap.size 0 zs.length

theorem makeN (n : Nat) (hn : n ≤ 1000000000) (w : World) : (Instr.makeSlice 22 (.int .i64 (n : Int)) (.int .i64 (n : Int))).run Try.prog w = .ok (.slice (some ⟨w.heap.size, 0, none⟩) n n) (w.alloc (.cells (Array.replicate n (.int .i64 0)) 3)) := by
  obtain ⟨i0, hi, hz, hs, hb⟩ := info_parts infoInt
  rw [run_make w _ _ i0 _ Try.underlying22 hi hz .i64 .i64 n n (by omega) (by omega) (by rw [hb]; omega) (by omega), hs, Int.toNat_natCast, madeInts]

set_option maxHeartbeats 1000000 in
theorem toIntS_any (zs : List Int) (a : Option Addr) (cap B : Nat) (w : World) (hB : B ≤ w.heap.size) (hz : Ints .i64 w B a zs) (mx : zs.length ≤ 1000000000) :
    Calls Try.prog 22 #[.slice a zs.length cap] w (Copied zs w) := by
  have Hz := Lib.hid hz
  clear hz
  have hmk := fun W => makeN zs.length mx W
  go_enter Try.func22, Try.ntmps22
  go_wp2
  clear hmk
  go_loopw [4] (fun i w1 => ∃ t : Nat, t ≤ zs.length ∧ i = .int .i64 t ∧ Below w.heap.size w w1 ∧ w1.heap.size = w.heap.size + 1 ∧ (∀ j, j < zs.length → ∃ u, w1.cell? ⟨w.heap.size, j, none⟩ = some (.int .i64 u)) ∧ Wr w1 w.heap.size 0 zs.length ∧ ∀ j, j < t → w1.cell? ⟨w.heap.size, j, none⟩ = some (.int .i64 (zs.getD j 0))) (fun i _ => zs.length - (intOf i).toNat)
  case atStart =>
    have hn := Has.new w 3 (Array.replicate zs.length (.int .i64 0))
    exact ⟨0, Nat.zero_le _, rfl, below_one _ _, by simp, fun j hj => ⟨0, by rw [hn.cell]; simp [hj]⟩, hn.wr _ _, fun j hj => absurd hj (by omega)⟩
  case round =>
    obtain ⟨t, ht, rfl, hb, hs, hc, hwr, hm⟩ := hrel
    by_cases hlt : t < zs.length
    · obtain ⟨g, o, rfl, hg, hrd⟩ := (Hz.out.below (hb.mono hB)) (by omega)
      have c1 := hrd t hlt
      obtain ⟨u, hu⟩ := hc t hlt
      have hf := hwr.2 t hlt
      rw [Nat.zero_add] at hf
      have hne : g < w.heap.size := by omega
      have Hb := Lib.hid hb
      have Hs := Lib.hid hs
      have Hc := Lib.hid hc
      have Hw := Lib.hid hwr
      have Hm := Lib.hid hm
      clear hb hs hc hwr hm hrd
      have hv : Hid (zs.getD t 0 = zs.getD t 0) := rfl
      generalize hq : zs.getD t 0 = v at c1
      have Hq := Lib.hid hq
      clear hq
      go_wp2
      refine ⟨⟨t + 1, by omega, by go_num, Hb.out.setCell (by simp) _, (size_set _ _ _).trans Hs.out, fun j hj => ?_, Hw.out.set _ _, fun j hj => ?_⟩, by simp [intOf]; omega⟩
      · have := cell_set _ w.heap.size 0 j t (.int .i64 v) _ (by rw [Nat.zero_add]; exact hu)
        rw [Nat.zero_add, Nat.zero_add] at this
        rw [this]
        by_cases e : j = t
        · exact ⟨_, if_pos e⟩
        · rw [if_neg e]
          exact Hc.out j hj
      · have := cell_set _ w.heap.size 0 j t (.int .i64 v) _ (by rw [Nat.zero_add]; exact hu)
        rw [Nat.zero_add, Nat.zero_add] at this
        rw [this]
        by_cases e : j = t
        · rw [if_pos e, e, Hq.out]
        · rw [if_neg e]
          exact Hm.out j (by omega)
    · have Hb := Lib.hid hb
      have Hw := Lib.hid hwr
      have Hm := Lib.hid hm
      clear hb hs hc hwr hm
      go_wp2
      go_ret
      exact ⟨rfl, Hb.out, fun j hj => by rw [Nat.zero_add]; exact Hm.out j (by omega), Hw.out⟩

/-- what toPage leaves: the page anew, its slots in a new block -/
def CopiedP (l o : Int) (zs : List Int) (w : World) (e : Ending) (w' : World) : Prop :=
  ∃ g, e = .returned (pageV l o (some ⟨g, 0, none⟩) zs.length zs.length) ∧ Below w.heap.size w w' ∧ w.heap.size ≤ g ∧ Rd .i64 w' g 0 zs ∧ Wr w' g 0 zs.length

set_option maxHeartbeats 1000000 in
theorem toPage_any (l o : Int) (zs : List Int) (a : Option Addr) (cap B : Nat) (w : World) (hB : B ≤ w.heap.size) (hz : Ints .i64 w B a zs) (mx : zs.length ≤ 1000000000) :
    Calls Try.prog 7 #[pageV l o a zs.length cap] w (CopiedP l o zs w) := by
  have Hz := Lib.hid hz
  clear hz
  go_enter Try.func7, Try.ntmps7
  go_wp2_with fail
  refine (toIntS_any zs a cap B _ (by simp; omega) (Hz.out.below (((below_two _ _ _).alloc (by simp; omega) _).mono hB)) mx).mono ?_
  rintro e w1 ⟨rfl, b1, r1, x1⟩
  have q1 := ((Has.new (w.alloc (.cells #[.int .i64 l, .int .i64 o, .slice a zs.length cap] 24)) 28 #[.int .i64 0, .int .i64 0, .slice none 0 0]).alloc (.cells #[.int .i64 l, .int .i64 o, .slice none 0 0] 28)).below b1 (by simp)
  have q2 := (Has.new ((w.alloc (.cells #[.int .i64 l, .int .i64 o, .slice a zs.length cap] 24)).alloc (.cells #[.int .i64 0, .int .i64 0, .slice none 0 0] 28)) 28 #[.int .i64 l, .int .i64 o, .slice none 0 0]).below b1 (by simp)
  simp only [World.size_alloc] at q1 q2 r1 x1
  obtain ⟨c0, c1, c2⟩ := q1.three
  obtain ⟨d0, d1, d2⟩ := q2.three
  have f0 := q1.frozen 0
  have f1 := q1.frozen 1
  have f2 := q1.frozen 2
  have f3 := q2.frozen 2
  have B1 : Hid (Below w.heap.size w w1) := ((below_two _ _ _).alloc (by simp; omega) _).trans (b1.mono (by simp; omega))
  have R1 := Lib.hid r1
  have X1 := Lib.hid x1
  clear b1 r1 x1 q1 q2
  simp only [World.size_alloc]
  go_wp2
  refine bodyPost_ret (v := pageV l o (some ⟨w.heap.size + 1 + 1 + 1, 0, none⟩) zs.length zs.length) (by simp [results, Try.results7, go_sem, c0, c1, c2]) rfl ⟨w.heap.size + 1 + 1 + 1, rfl, ?_, by omega, ?_, ?_⟩
  · exact (((B1.out.setCell (by simp; omega) _).setCell (by simp) _).setCell (by simp) _).setCell (by simp) _
  · refine R1.out.keep ?_
    rw [Below.heap_setCell _ _ _ _ (by simp <;> omega), Below.heap_setCell _ _ _ _ (by simp <;> omega), Below.heap_setCell _ _ _ _ (by simp <;> omega), Below.heap_setCell _ _ _ _ (by simp <;> omega)]
  · exact (((X1.out.set _ _).set _ _).set _ _).set _ _
end Go.Proofs.Ytloglnekjhgfgab.Base
