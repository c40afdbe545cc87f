/-
  A row of the call's own, sorted and compacted: the library's contracts in this work's words. No conditions but those in each.
-/
import Derived.Test.YtejbmjdipfcblaaChainsK
import Derived.Test.YtejbmjdipfcblaaShelfK
namespace Go.Proofs.Ytejbmjdipfcblaa.Base
open Go.RowKit Go.Sort

/-- numbers in memory as the library's contracts want them -/
theorem holds_of {w : World} {g : Nat} {zs : List Int} (hr : Rd .i64 w g 0 zs) (hw : Wr w g 0 zs.length) : Holds (Value.int .i64) w g 0 zs.toArray := fun j hj => by
  have hj' : j < zs.length := by simpa using hj
  refine ⟨?_, hw.2 j hj'⟩
  rw [hr j hj', get_bang zs j hj']
  simp [List.getD, List.getElem?_eq_getElem hj']
theorem of_holds {w : World} {g : Nat} {zs : List Int} (hg : g < w.heap.size) (h : Holds (Value.int .i64) w g 0 zs.toArray) : Rd .i64 w g 0 zs ∧ Wr w g 0 zs.length := by
  refine ⟨fun j hj => ?_, hg, fun j hj => (h j (by simpa using hj)).2⟩
  rw [(h j (by simpa using hj)).1, get_bang zs j hj]
  simp [List.getD, List.getElem?_eq_getElem hj]
/-- another row of the same length is laid over it: this block alone has turned -/
theorem row_put {w : World} {g : Nat} {zs : List Int} (n : Nat) (os : Array Obj) (ys : List Int) (hg : g < w.heap.size) (h : Holds (Value.int .i64) w g 0 zs.toArray) (hl : ys.length = zs.length) :
    w.grownBy (grow (putRow (Value.int .i64) (Sort.ahead w n) g 0 ys.toArray) os) (some g) ∧ Rd .i64 (grow (putRow (Value.int .i64) (Sort.ahead w n) g 0 ys.toArray) os) g 0 ys ∧ Wr (grow (putRow (Value.int .i64) (Sort.ahead w n) g 0 ys.toArray) os) g 0 ys.length := by
  refine ⟨⟨rfl, rfl, rfl, by simp, fun i hi hne => ?_⟩, of_holds (by simp; omega) (holds_grow _ _ _ _ _ _ (by simpa using hg) (holds_putRow _ _ _ _ zs.toArray _ (holds_ahead _ _ _ _ _ _ h) (by simp [hl])))⟩
  rw [heap_grow_old _ _ (by simpa using hi)]
  have hgi : g ≠ i := fun e => hne (by rw [e])
  simp [putRow, mapBlock, Array.getElem?_modify, hgi]

theorem sort_any (g cap : Nat) (zs : List Int) (w : World) (hr : Rd .i64 w g 0 zs) (hw : Wr w g 0 zs.length) (hn : zs.length ≤ 1000000) :
    Calls Try.prog 36 #[.slice (some ⟨g, 0, none⟩) zs.length cap] w fun e w' =>
      e = .returned (.tuple #[]) ∧ w.grownBy w' (some g) ∧ Rd .i64 w' g 0 (zs.mergeSort fun x y => decide (x ≤ y)) ∧ Wr w' g 0 zs.length := by
  refine (Try.slices_Sort_int g 0 cap zs w (holds_of hr hw) hw.1 (by omega)).mono ?_
  rintro e w' ⟨he, n, os, rfl⟩
  have hl : (zs.mergeSort fun x y => decide (x ≤ y)).length = zs.length := List.length_mergeSort _
  obtain ⟨h1, h2, h3⟩ := row_put n os _ hw.1 (holds_of hr hw) hl
  rw [hl] at h3
  exact ⟨he, h1, h2, h3⟩

theorem compact_any (g cap : Nat) (zs : List Int) (w : World) (hr : Rd .i64 w g 0 zs) (hw : Wr w g 0 zs.length) (hn : zs.length ≤ 1000000) (hc : zs.length ≤ cap) :
    Calls Try.prog 37 #[.slice (some ⟨g, 0, none⟩) zs.length cap] w fun e w' =>
      e = .returned (.slice (some ⟨g, 0, none⟩) (Lib.compact zs).length cap) ∧ w.grownBy w' (some g) ∧ Rd .i64 w' g 0 (Lib.compact zs) ∧ Wr w' g 0 (Lib.compact zs).length := by
  refine (Try.slices_Compact_int g 0 cap zs w (holds_of hr hw) (by omega) hc).mono ?_
  rintro e w' ⟨he, q, rfl⟩
  have hle : (Lib.compact zs).length ≤ zs.length := by
    unfold Lib.compact Lib.compactUpTo
    rw [List.length_map]
    exact Nat.le_trans (List.length_filter_le _ _) (by simp)
  have hl : (Lib.compact zs ++ List.replicate (zs.length - (Lib.compact zs).length) 0).length = zs.length := by
    rw [List.length_append, List.length_replicate]
    omega
  obtain ⟨h1, h2, h3⟩ := row_put q #[] _ hw.1 (holds_of hr hw) hl
  rw [grow_empty] at h1 h2 h3
  refine ⟨he, h1, fun j hj => ?_, h3.1, fun j hj => h3.2 j (by rw [hl]; omega)⟩
  rw [h2 j (by rw [hl]; omega)]
  simp [List.getD, List.getElem?_append, hj]
end Go.Proofs.Ytejbmjdipfcblaa.Base
