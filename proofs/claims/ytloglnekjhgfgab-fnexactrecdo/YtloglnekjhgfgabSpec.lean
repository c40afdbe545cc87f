/-
  Contracts of PageOk and PageEmpty, of the program and of the model. Conditions: the page's slots lead to numbers.
-/
import Derived.Test.YtloglnekjhgfgabFrame
namespace Go.Proofs.Ytloglnekjhgfgab.Base
open Go.RowKit

/-- a value that a page of this owner may have -/
def goodV (o v : Int) : Bool := inB v 0 9 && ((o != 0) || (v == 0))
theorem okF_good (l o a b c : Int) : okF l o a b c = (inB l 0 150 && (inB o 0 3 && (goodV o a && (goodV o b && goodV o c)))) := by
  unfold okF goodV
  cases inB l 0 150 <;> cases inB o 0 3 <;> cases inB a 0 9 <;> cases inB b 0 9 <;> cases inB c 0 9 <;> cases (o != 0) <;> simp

set_option maxHeartbeats 4000000 in
theorem specPageOk_any (l o : Int) (zs : List Int) (a : Option Addr) (cap B : Nat) (w : World) (hB : B ≤ w.heap.size) (hz : Ints .i64 w B a zs) (mx : zs.length ≤ 1000000000) :
    Calls Try.prog 17 #[pageV l o a zs.length cap] w (Keeps (.bool (okP l o zs)) w) := by
  have Hz := Lib.hid hz
  clear hz
  cases h1 : inB l 0 150
  · have H1 := Lib.hid h1
    clear h1
    go_enter Try.func17, Try.ntmps17
    go_wp2_with fail
    refine (l6In_any _ _ _ _).mono ?_
    rintro e w1 ⟨rfl, rfl⟩
    rw [H1.out]
    go_wp2
    go_ret
    exact ⟨ret_bool (by simp [okP, okF, H1.out]), below_one _ _⟩
  have H1 := Lib.hid h1
  clear h1
  cases h2 : inB o 0 3
  · have H2 := Lib.hid h2
    clear h2
    go_enter Try.func17, Try.ntmps17
    go_wp2_with fail
    refine (l6In_any _ _ _ _).mono ?_
    rintro e w1 ⟨rfl, rfl⟩
    rw [H1.out]
    go_wp2_with fail
    refine (l6In_any _ _ _ _).mono ?_
    rintro e w1 ⟨rfl, rfl⟩
    rw [H2.out]
    go_wp2
    go_ret
    exact ⟨ret_bool (by simp [okP, okF, H2.out]), below_one _ _⟩
  have H2 := Lib.hid h2
  clear h2
  by_cases h3 : zs.length = 3
  · have b3 : ((zs.length : Int) != 3) = false := by simp [h3]
    have l3 : zs.length ≤ 3 := by omega
    have g3 : 3 ≤ zs.length := by omega
    have H3 := Lib.hid h3
    clear h3
    go_enter Try.func17, Try.ntmps17
    go_wp2_with fail
    refine (l6In_any _ _ _ _).mono ?_
    rintro e w1 ⟨rfl, rfl⟩
    rw [H1.out]
    go_wp2_with fail
    refine (l6In_any _ _ _ _).mono ?_
    rintro e w1 ⟨rfl, rfl⟩
    rw [H2.out]
    go_wp2_with fail
    go_loop [3] (fun i => ∃ t : Nat, t ≤ zs.length ∧ i = .int .i64 t ∧ ∀ j, j < t → goodV o (zs.getD j 0) = true) (fun i => zs.length - (intOf i).toNat)
    case atStart => exact ⟨0, Nat.zero_le _, rfl, fun j hj => absurd hj (by omega)⟩
    case round =>
      obtain ⟨t, ht, rfl, hgood⟩ := hrel
      have Hg := Lib.hid hgood
      clear hgood
      by_cases hlt : t < zs.length
      · obtain ⟨g, o', rfl, hgB, hr⟩ := Hz.out (by omega)
        have hgs : g < w.heap.size := by omega
        have c1 := hr t hlt
        clear hr
        cases h4 : goodV o (zs.getD t 0)
        · have Hbad : Hid (okP l o zs = false) := by
            show okP l o zs = false
            unfold okP
            rw [okF_good]
            have : t = 0 ∨ t = 1 ∨ t = 2 := by omega
            rcases this with rfl | rfl | rfl <;> (rw [h4]; simp)
          generalize zs.getD t 0 = v at c1 h4
          unfold goodV at h4
          cases h5 : inB v 0 9
          · have H5 := Lib.hid h5
            clear h4 h5
            go_wp2_with ((go_at_call 20; refine (l6In_any _ _ _ _).mono ?_; rintro e w1 ⟨rfl, rfl⟩; rw [H5.out]))
            go_ret
            exact ⟨ret_bool Hbad.out.symm, below_one _ _⟩
          · have H5 := Lib.hid h5
            rw [h5] at h4
            have h6 : o = 0 ∧ v ≠ 0 := by simpa using h4
            have b6 : (o == 0) = true := by simp [h6.1]
            have b7 : (v != 0) = true := by simp [h6.2]
            clear h4 h5 h6
            go_wp2_with ((go_at_call 20; refine (l6In_any _ _ _ _).mono ?_; rintro e w1 ⟨rfl, rfl⟩; rw [H5.out]))
            go_ret
            exact ⟨ret_bool Hbad.out.symm, below_one _ _⟩
        · have H4 := Lib.hid h4
          generalize zs.getD t 0 = v at c1 h4
          unfold goodV at h4
          have h5 : inB v 0 9 = true := by
            cases h : inB v 0 9
            · rw [h] at h4; simp at h4
            · rfl
          have H5 := Lib.hid h5
          rw [h5] at h4
          by_cases h6 : o = 0
          · have b6 : (o == 0) = true := by simp [h6]
            have b7 : (v != 0) = false := by simpa [h6] using h4
            clear h4 h5 h6
            go_wp2_with ((go_at_call 20; refine (l6In_any _ _ _ _).mono ?_; rintro e w1 ⟨rfl, rfl⟩; rw [H5.out]))
            exact ⟨⟨t + 1, by omega, by go_num, fun j hj => by
              rcases Nat.lt_succ_iff_lt_or_eq.1 hj with h | rfl
              · exact Hg.out j h
              · exact H4.out⟩, by simp [intOf]; omega⟩
          · have b6 : (o == 0) = false := by simp [h6]
            clear h4 h5 h6
            go_wp2_with ((go_at_call 20; refine (l6In_any _ _ _ _).mono ?_; rintro e w1 ⟨rfl, rfl⟩; rw [H5.out]))
            exact ⟨⟨t + 1, by omega, by go_num, fun j hj => by
              rcases Nat.lt_succ_iff_lt_or_eq.1 hj with h | rfl
              · exact Hg.out j h
              · exact H4.out⟩, by simp [intOf]; omega⟩
      · go_wp2
        go_ret
        have hgd := Hg.out
        exact ⟨ret_bool (by unfold okP; rw [okF_good, H1.out, H2.out, H3.out, hgd 0 (by omega), hgd 1 (by omega), hgd 2 (by omega)]; rfl), below_one _ _⟩
  · have b3 : ((zs.length : Int) != 3) = true := by simp; omega
    have H3 : Hid (okP l o zs = false) := by show okP l o zs = false; simp [okP, h3]
    clear h3
    go_enter Try.func17, Try.ntmps17
    go_wp2_with fail
    refine (l6In_any _ _ _ _).mono ?_
    rintro e w1 ⟨rfl, rfl⟩
    rw [H1.out]
    go_wp2_with fail
    refine (l6In_any _ _ _ _).mono ?_
    rintro e w1 ⟨rfl, rfl⟩
    rw [H2.out]
    go_wp2
    go_ret
    exact ⟨ret_bool H3.out.symm, below_one _ _⟩

/-- no value is there -/
def zerosB (zs : List Int) : Bool := zs.all (· == 0)
theorem zeros_of (zs : List Int) (h : ∀ j, j < zs.length → zs.getD j 0 = 0) : zerosB zs = true := by
  unfold zerosB
  rw [List.all_eq_true]
  intro x hx
  obtain ⟨i, hi, rfl⟩ := List.mem_iff_getElem.1 hx
  have := h i hi
  rw [List.getD_eq_getElem?_getD, List.getElem?_eq_getElem hi] at this
  simpa using this
theorem zeros_not (zs : List Int) (j : Nat) (hj : j < zs.length) (h : zs.getD j 0 ≠ 0) : zerosB zs = false := by
  unfold zerosB
  rw [List.all_eq_false]
  refine ⟨zs[j], List.getElem_mem hj, ?_⟩
  rw [List.getD_eq_getElem?_getD, List.getElem?_eq_getElem hj] at h
  simpa using h

theorem okP_zeros (l o : Int) (zs : List Int) : (okP l o zs && zerosB zs) = (okP l o zs && (zs.getD 0 0 == 0 && (zs.getD 1 0 == 0 && zs.getD 2 0 == 0))) := by
  by_cases h : zs.length = 3
  · match zs, h with
    | [x, y, z], _ => simp [zerosB]
  · have h' : (zs.length == 3) = false := by simpa using h
    simp [okP, h']

end Go.Proofs.Ytloglnekjhgfgab.Base
