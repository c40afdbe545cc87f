/-
  A page that came in as an argument, read out of the row's own reading. No conditions.
-/
import Derived.Test.YtloglnekjhgfgabBase
import Derived.OpenShut
import Derived.Lib.SmallJoins
namespace Go.Proofs.Ytloglnekjhgfgab.Base
open Go.ChangeShapes Go.WideShapes Go.ChangeAt Go.RowKit

theorem openPage {H : Type} {enc : TypeId × Value → H} {W : World} {r : Reach} {b0 : Nat} {v0 : Value} {d : DataW H} {p : List MemPlace} (hv : Value.okWide Try.prog W r b0 24 v0) (h : DataW.Trod enc Try.prog W 0 (fun _ => true) true 24 v0 d p) :
    ∃ (l o : Int) (zs : List Int) (a : Option Addr) (cap : Nat), v0 = pageV l o a zs.length cap ∧ Ints .i64 W W.heap.size a zs ∧ zs.length ≤ cap ∧ cap ≤ maxLen := by
  obtain ⟨c0, c1, c2, y0, y1, y2, m, rfl, rfl, rfl, hy0, hy1, hy2⟩ := Go.Joins.open_agg3 Try.underlying24 (by kernel_rfl) (by kernel_rfl) hv h
  obtain ⟨l, e0, _, _⟩ := DataW.trod_int Try.underlying3 hy0
  obtain ⟨o, e1, _, _⟩ := DataW.trod_int Try.underlying3 hy1
  simp at e0 e1
  subst e0 e1
  have hf := hy2
  rcases open_ints Try.underlying22 Try.underlying3 (by kernel_rfl) hf with ⟨hcs, _⟩ | ⟨x, l', c, zs, hcs, _, hl, hm, hz, hx, hcell, hwz⟩
  · simp at hcs
    subst hcs
    exact ⟨l, o, [], none, 0, rfl, fun h => absurd h (by simp), by simp, by simp [maxLen]⟩
  · simp at hcs
    subst hcs
    refine ⟨l, o, zs.take l', some x, c, ?_, ?_, ?_, hm⟩
    · simp at hz
      simp [Nat.min_eq_left (by omega : l' ≤ zs.length)]
    · intro hp
      simp at hz
      have hp' : 0 < zs.length := by
        rw [List.length_take] at hp
        omega
      obtain ⟨b, off, rfl, hc'⟩ := ints_at hcell hp'
      refine ⟨b, off, rfl, ?_, fun j hj => ?_⟩
      · exact World.block_lt_of_cell? W ⟨b, off + 0, none⟩ (hc' 0 hp')
      · rw [List.length_take] at hj
        rw [hc' j (by omega)]
        simp [List.getD_eq_getElem?_getD, show j < l' by omega]
    · rw [List.length_take]
      omega
end Go.Proofs.Ytloglnekjhgfgab.Base
