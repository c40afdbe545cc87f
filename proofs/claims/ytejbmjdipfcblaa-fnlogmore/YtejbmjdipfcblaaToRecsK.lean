/-
  Contracts of the laws' helpers on lists of records: szRecS, toRecS, eqRec, eqRecS. Conditions: the slices lead to records.
-/
import Derived.Test.YtejbmjdipfcblaaMathsK
import Derived.Test.YtejbmjdipfcblaaRecOkIK
import Derived.Test.YtejbmjdipfcblaaLogs2K
import Derived.Deep.RegionHeld3
namespace Go.Proofs.Ytejbmjdipfcblaa.Base
open Go.RowKit

/-- n cells of block g are there -/
def Ex (w : World) (g n : Nat) : Prop := ∀ i, i < n → ∃ u, w.cell? ⟨g, i, none⟩ = some u
section
variable {w : World} {g n p q : Nat} {u : Value} {r : R}
theorem put_cell (h : Ex w g n) (hp : p < n) (i : Nat) : (w.setCell ⟨g, p, none⟩ u).cell? ⟨g, i, none⟩ = if i = p then some u else w.cell? ⟨g, i, none⟩ := by
  obtain ⟨v, hv⟩ := h p hp
  have := cell_set w g 0 i p u v (by rw [Nat.zero_add]; exact hv)
  simpa only [Nat.zero_add] using this
theorem Ex.put (h : Ex w g n) (hp : p < n) : Ex (w.setCell ⟨g, p, none⟩ u) g n := fun i hi => by
  rw [put_cell h hp]
  by_cases e : i = p
  · exact ⟨u, if_pos e⟩
  · rw [if_neg e]
    exact h i hi
/-- a record, stored whole at q -/
abbrev stA (w : World) (g q : Nat) (r : R) : World := (((((((w.setCell ⟨g, q, none⟩ (.int .i64 r.k)).setCell ⟨g, q + 1, none⟩ (.int .i64 r.t)).setCell ⟨g, q + 2, none⟩ (.int .i64 r.p)).setCell ⟨g, q + 3, none⟩ (.int .i64 r.s)).setCell ⟨g, q + 4, none⟩ (.int .i64 r.o)).setCell ⟨g, q + 5, none⟩ (.int .i64 r.n)).setCell ⟨g, q + 6, none⟩ (.int .i64 r.v)).setCell ⟨g, q + 7, none⟩ (.int .i64 r.x)
theorem Ex.st (h : Ex w g n) (hq : q + 7 < n) : Ex (stA w g q r) g n :=
  (((((((h.put (by omega)).put (by omega)).put (by omega)).put (by omega)).put (by omega)).put (by omega)).put (by omega)).put hq
theorem st_cell (h : Ex w g n) (hq : q + 7 < n) (i : Nat) : (stA w g q r).cell? ⟨g, i, none⟩ =
    if i = q + 7 then some (.int .i64 r.x) else if i = q + 6 then some (.int .i64 r.v) else if i = q + 5 then some (.int .i64 r.n) else if i = q + 4 then some (.int .i64 r.o) else if i = q + 3 then some (.int .i64 r.s) else if i = q + 2 then some (.int .i64 r.p) else if i = q + 1 then some (.int .i64 r.t) else if i = q then some (.int .i64 r.k) else w.cell? ⟨g, i, none⟩ := by
  have h1 := h.put (u := .int .i64 r.k) (p := q) (by omega)
  have h2 := h1.put (u := .int .i64 r.t) (p := q + 1) (by omega)
  have h3 := h2.put (u := .int .i64 r.p) (p := q + 2) (by omega)
  have h4 := h3.put (u := .int .i64 r.s) (p := q + 3) (by omega)
  have h5 := h4.put (u := .int .i64 r.o) (p := q + 4) (by omega)
  have h6 := h5.put (u := .int .i64 r.n) (p := q + 5) (by omega)
  have h7 := h6.put (u := .int .i64 r.v) (p := q + 6) (by omega)
  rw [put_cell h7 hq, put_cell h6 (by omega), put_cell h5 (by omega), put_cell h4 (by omega), put_cell h3 (by omega), put_cell h2 (by omega), put_cell h1 (by omega), put_cell h (by omega)]
theorem st_at (h : Ex w g n) (hq : q + 7 < n) : At (stA w g q r) g q r := by
  refine ⟨?_, ?_, ?_, ?_, ?_, ?_, ?_, ?_⟩ <;> rw [st_cell h hq] <;> simp
theorem st_far (h : Ex w g n) (hq : q + 7 < n) (i : Nat) (hi : i < q ∨ q + 7 < i) : (stA w g q r).cell? ⟨g, i, none⟩ = w.cell? ⟨g, i, none⟩ := by
  rw [st_cell h hq, if_neg (by omega), if_neg (by omega), if_neg (by omega), if_neg (by omega), if_neg (by omega), if_neg (by omega), if_neg (by omega), if_neg (by omega)]
theorem At.st {p : Nat} {r' : R} (a : At w g p r') (h : Ex w g n) (hq : q + 7 < n) (hp : p + 7 < q ∨ q + 7 < p) : At (stA w g q r) g p r' :=
  ⟨(st_far h hq _ (by omega)).trans a.k, (st_far h hq _ (by omega)).trans a.t, (st_far h hq _ (by omega)).trans a.p, (st_far h hq _ (by omega)).trans a.s, (st_far h hq _ (by omega)).trans a.o, (st_far h hq _ (by omega)).trans a.n, (st_far h hq _ (by omega)).trans a.v, (st_far h hq _ (by omega)).trans a.x⟩
theorem below_st {B : Nat} {w0 : World} (h : Below B w0 w) (hb : B ≤ g) : Below B w0 (stA w g q r) :=
  (((((((h.setCell hb _).setCell hb _).setCell hb _).setCell hb _).setCell hb _).setCell hb _).setCell hb _).setCell hb _
theorem wr_st {o m : Nat} (h : Wr w g o m) : Wr (stA w g q r) g o m :=
  (((((((h.set _ _).set _ _).set _ _).set _ _).set _ _).set _ _).set _ _).set _ _
theorem size_st : (stA w g q r).heap.size = w.heap.size := by simp
end

theorem infoRec : (Try.prog.info? 27).map (fun i => (i.zero, i.size, i.bytes)) = some (some (.agg #[.int .i64 0, .int .i64 0, .int .i64 0, .int .i64 0, .int .i64 0, .int .i64 0, .int .i64 0, .int .i64 0]), 8, 64) := by kernel_rfl

/-- the cells of new records -/
def newR (n : Nat) : Array Value := madeCells (Value.agg #[.int .i64 0, .int .i64 0, .int .i64 0, .int .i64 0, .int .i64 0, .int .i64 0, .int .i64 0, .int .i64 0]).cells (n * 8)
theorem newR_get (n i : Nat) (h : i < n * 8) : ∃ u, (newR n)[i]? = some u := by
  have : i < (newR n).size := by simpa [newR, madeCells] using h
  exact ⟨_, Array.getElem?_eq_getElem this⟩

theorem makeR (n : Nat) (hn : n ≤ 1000000000) (w : World) : (Instr.makeSlice 23 (.int .i64 (n : Int)) (.int .i64 (n : Int))).run Try.prog w = .ok (.slice (some ⟨w.heap.size, 0, none⟩) n n) (w.alloc (.cells (newR n) 27)) := by
  obtain ⟨i0, hi, hz, hs, hb⟩ := info_parts infoRec
  rw [run_make w _ _ i0 _ Try.underlying23 hi hz .i64 .i64 n n (by omega) (by omega) (by rw [hb]; omega) (by omega), hs, Int.toNat_natCast]
  rfl

/-- what toRecS leaves: the records, in a new block -/
def CopiedR (rs : List R) (w : World) (e : Ending) (w' : World) : Prop :=
  e = .returned (.slice (some ⟨w.heap.size, 0, none⟩) rs.length rs.length) ∧ Below w.heap.size w w' ∧ RdR w' w.heap.size 0 rs ∧ Wr w' w.heap.size 0 (rs.length * 8)

end Go.Proofs.Ytejbmjdipfcblaa.Base
