/-
  Contracts of PageOk and PageEmpty, of the program and of the model. Conditions: the page's slots lead to numbers.
-/
import Derived.Test.YtoihdbcdlodkgaaGreatDoorFrame
namespace Go.Proofs.YtoihdbcdlodkgaaGreatDoor.Base
open Go.RowKit

/-- a value that a page of this owner may have -/
def goodV (o v : Int) : Bool := inB v 0 9 && ((o != 0) || (v == 0))
theorem okF_good (l o a b c : Int) : okF l o a b c = (inB l 0 150 && (inB o 0 3 && (goodV o a && (goodV o b && goodV o c)))) := by
  unfold okF goodV
  cases inB l 0 150 <;> cases inB o 0 3 <;> cases inB a 0 9 <;> cases inB b 0 9 <;> cases inB c 0 9 <;> cases (o != 0) <;> simp

/-- no value is there -/
def zerosB (zs : List Int) : Bool := zs.all (· == 0)
theorem zeros_of (zs : List Int) (h : ∀ j, j < zs.length → zs.getD j 0 = 0) : zerosB zs = true := by
  unfold zerosB
  rw [List.all_eq_true]
  intro x hx
  obtain ⟨i, hi, rfl⟩ := List.mem_iff_getElem.1 hx
  have := h i hi
  rw [List.getD_eq_getElem?_getD, List.getElem?_eq_getElem hi] at this
  simpa using this
theorem zeros_not (zs : List Int) (j : Nat) (hj : j < zs.length) (h : zs.getD j 0 ≠ 0) : zerosB zs = false := by
  unfold zerosB
  rw [List.all_eq_false]
  refine ⟨zs[j], List.getElem_mem hj, ?_⟩
  rw [List.getD_eq_getElem?_getD, List.getElem?_eq_getElem hj] at h
  simpa using h

theorem okP_zeros (l o : Int) (zs : List Int) : (okP l o zs && zerosB zs) = (okP l o zs && (zs.getD 0 0 == 0 && (zs.getD 1 0 == 0 && zs.getD 2 0 == 0))) := by
  by_cases h : zs.length = 3
  · match zs, h with
    | [x, y, z], _ => simp [zerosB]
  · have h' : (zs.length == 3) = false := by simpa using h
    simp [okP, h']

end Go.Proofs.YtoihdbcdlodkgaaGreatDoor.Base
