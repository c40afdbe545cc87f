/-
  A code that came in as an argument: a slice of bytes, read out of the row's own reading. No conditions.
-/
import Derived.Test.YtoihdbcdlodkgaaGreatDoorDrawP
import Derived.OpenShut
namespace Go.Proofs.YtoihdbcdlodkgaaGreatDoor.Base
open Go.ChangeShapes Go.WideShapes Go.ChangeAt Go.RowKit

theorem take_get (zs : List Int) (n j : Nat) (h : j < n) : (zs.take n).getD j 0 = zs.getD j 0 := by
  simp [List.getD_eq_getElem?_getD, h]

theorem openBytes {H : Type} {enc : TypeId × Value → H} {P : Program} {W : World} {r : Reach} {b0 : Nat} {t e : TypeId} {v : Value} {d : DataW H} {p : List MemPlace}
    (ht : P.underlying t = some (.slice e)) (he : P.underlying e = some (.int .u8)) (hC : P.cellsOf e = 1) (hv : Value.okWide P W r b0 t v) (h : DataW.Trod enc P W 0 (fun _ => true) true t v d p) :
    ∃ (a : Option Addr) (cs : List Int) (cap : Nat), v = .slice a cs.length cap ∧ Bytes W W.heap.size a cs cap := by
  obtain ⟨a0, len0, cap0, rfl⟩ := okWide_slice ht hv
  obtain ⟨fuel, hf⟩ := h
  rcases open_ints ht he hC hf with ⟨hcs, _⟩ | ⟨x, l, c, zs, hcs, _, hl, hm, hz, _, hcell, hwz⟩
  · simp [Value.cells] at hcs
    obtain ⟨rfl, rfl, rfl⟩ := hcs
    exact ⟨none, [], 0, rfl, fun h => absurd h (by simp), fun j hj => absurd hj (by simp), by simp, by simp [maxLen]⟩
  · simp [Value.cells] at hcs
    obtain ⟨rfl, rfl, rfl⟩ := hcs
    simp at hz
    refine ⟨some x, zs.take len0, cap0, ?_, fun hp => ?_, fun j hj => ?_, ?_, hm⟩
    · simp [Nat.min_eq_left (by omega : len0 ≤ zs.length)]
    · have hp' : 0 < zs.length := by
        rw [List.length_take] at hp
        omega
      obtain ⟨b, off, rfl, hc'⟩ := ints_at hcell hp'
      refine ⟨b, off, rfl, World.block_lt_of_cell? W ⟨b, off + 0, none⟩ (hc' 0 hp'), fun j hj => ?_⟩
      rw [List.length_take] at hj
      rw [hc' j (by omega), take_get zs len0 j (by omega)]
    · rw [List.length_take] at hj
      rw [take_get zs len0 j (by omega)]
      have := range_u8 hwz j
      rwa [← List.getD_eq_getElem?_getD] at this
    · rw [List.length_take]
      omega
end Go.Proofs.YtoihdbcdlodkgaaGreatDoor.Base
