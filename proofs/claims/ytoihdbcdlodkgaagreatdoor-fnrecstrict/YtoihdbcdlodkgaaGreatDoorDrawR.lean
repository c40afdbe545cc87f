/-
  Contract of the model's drawing of a record: l71Rec. Only that it is a record in new memory is said, not which one. Conditions: the reader stands at a place that is not too far.
-/
import Derived.Test.YtoihdbcdlodkgaaGreatDoorDraw
import Derived.Test.YtoihdbcdlodkgaaGreatDoorRecs
namespace Go.Proofs.YtoihdbcdlodkgaaGreatDoor.Base
open Go.RowKit

/-- a record's cells -/
abbrev recC (r : R) : Array Value := #[.int .i64 r.k, .int .i64 r.t, .int .i64 r.p, .int .i64 r.s, .int .i64 r.o, .int .i64 r.n, .int .i64 r.v, .int .i64 r.x]

theorem rec_set {w : World} {g : Nat} {T : TypeId} {r : R} (h : Has w g T (recC r)) (i : Nat) (u : Int) (hi : i < 8) : ∃ r' : R, Has (w.setCell ⟨g, i, none⟩ (.int .i64 u)) g T (recC r') := by
  have h' := h.set i (.int .i64 u)
  match i, hi, h' with
  | 0, _, h' => exact ⟨⟨u, r.t, r.p, r.s, r.o, r.n, r.v, r.x⟩, h'⟩
  | 1, _, h' => exact ⟨⟨r.k, u, r.p, r.s, r.o, r.n, r.v, r.x⟩, h'⟩
  | 2, _, h' => exact ⟨⟨r.k, r.t, u, r.s, r.o, r.n, r.v, r.x⟩, h'⟩
  | 3, _, h' => exact ⟨⟨r.k, r.t, r.p, u, r.o, r.n, r.v, r.x⟩, h'⟩
  | 4, _, h' => exact ⟨⟨r.k, r.t, r.p, r.s, u, r.n, r.v, r.x⟩, h'⟩
  | 5, _, h' => exact ⟨⟨r.k, r.t, r.p, r.s, r.o, u, r.v, r.x⟩, h'⟩
  | 6, _, h' => exact ⟨⟨r.k, r.t, r.p, r.s, r.o, r.n, u, r.x⟩, h'⟩
  | 7, _, h' => exact ⟨⟨r.k, r.t, r.p, r.s, r.o, r.n, r.v, u⟩, h'⟩

/-- where a drawing of a record stands: the reader in block g; the result's block rb, still empty; the record in block pb; of what was there in w0 only the reader has turned -/
structure SR (w0 w : World) (g : Nat) (a : Option Addr) (bs : List Int) (cap B rb pb : Nat) (p : Int) : Prop where
  rdr : Rdr w g a bs cap p B
  res : Has w rb 23 #[.int .i64 0, .int .i64 0, .int .i64 0, .int .i64 0, .int .i64 0, .int .i64 0, .int .i64 0, .int .i64 0]
  box : ∃ r : R, Has w pb 23 (recC r)
  base : B ≤ rb
  low : w0.heap.size ≤ rb
  ord : rb < pb ∧ rb ≠ g ∧ g < pb
  grown : w0.grownBy w (some g)

section
variable {w0 w w' : World} {g : Nat} {a : Option Addr} {bs : List Int} {cap B rb pb : Nat} {p : Int}
theorem SR.pick (h : SR w0 w g a bs cap B rb pb p) {p' : Int} (hg : w.grownBy w' (some g)) (hr : Rdr w' g a bs cap p' B) : SR w0 w' g a bs cap B rb pb p' := by
  have ho := h.ord
  obtain ⟨r, hb⟩ := h.box
  exact ⟨hr, h.res.grown hg (fun e => by injection e; omega), ⟨r, hb.grown hg (fun e => by injection e; omega)⟩, h.base, h.low, h.ord, grown_two h.grown hg⟩
theorem SR.store (h : SR w0 w g a bs cap B rb pb p) (i : Nat) (u : Int) (hi : i < 8) : SR w0 (w.setCell ⟨pb, i, none⟩ (.int .i64 u)) g a bs cap B rb pb p := by
  have ho := h.ord
  have h1 := h.low
  have h2 := h.base
  obtain ⟨r, hb⟩ := h.box
  exact ⟨h.rdr.keep (Below.heap_setCell w _ _ _ (by simp; omega)) (fun i hi => Below.heap_setCell w _ _ i (by simp; omega)), h.res.far (by simp; omega) _, rec_set hb i u hi, h.base, h.low, h.ord, grown_far h.grown (by omega) _⟩
end

/-- a record, stored whole -/
abbrev put8 (w : World) (b : Nat) (r : R) : World := (((((((w.setCell ⟨b, 0, none⟩ (.int .i64 r.k)).setCell ⟨b, 1, none⟩ (.int .i64 r.t)).setCell ⟨b, 2, none⟩ (.int .i64 r.p)).setCell ⟨b, 3, none⟩ (.int .i64 r.s)).setCell ⟨b, 4, none⟩ (.int .i64 r.o)).setCell ⟨b, 5, none⟩ (.int .i64 r.n)).setCell ⟨b, 6, none⟩ (.int .i64 r.v)).setCell ⟨b, 7, none⟩ (.int .i64 r.x)
theorem put8_far (w : World) (b : Nat) (r : R) (i : Nat) (h : i ≠ b) : (put8 w b r).heap[i]? = w.heap[i]? := by
  have e : ∀ (W : World) (j : Nat) (u : Value), (W.setCell ⟨b, j, none⟩ u).heap[i]? = W.heap[i]? := fun W j u => Below.heap_setCell W _ u i (by simpa using h)
  rw [put8, e, e, e, e, e, e, e, e]
theorem grown_put8 {x y : World} {q : Option Nat} (h : x.grownBy y q) {b : Nat} (hb : x.heap.size ≤ b) (r : R) : x.grownBy (put8 y b r) q :=
  grown_far (grown_far (grown_far (grown_far (grown_far (grown_far (grown_far (grown_far h hb _) hb _) hb _) hb _) hb _) hb _) hb _) hb _
theorem put8_has {w : World} {b : Nat} {T : TypeId} {s : R} (h : Has w b T (recC s)) (r : R) : Has (put8 w b r) b T (recC r) := by
  have h0 : Has (w.setCell ⟨b, 0, none⟩ (.int .i64 r.k)) b T #[.int .i64 r.k, .int .i64 s.t, .int .i64 s.p, .int .i64 s.s, .int .i64 s.o, .int .i64 s.n, .int .i64 s.v, .int .i64 s.x] := h.set 0 _
  have h1 : Has ((w.setCell ⟨b, 0, none⟩ (.int .i64 r.k)).setCell ⟨b, 1, none⟩ (.int .i64 r.t)) b T #[.int .i64 r.k, .int .i64 r.t, .int .i64 s.p, .int .i64 s.s, .int .i64 s.o, .int .i64 s.n, .int .i64 s.v, .int .i64 s.x] := h0.set 1 _
  have h2 : Has (((w.setCell ⟨b, 0, none⟩ (.int .i64 r.k)).setCell ⟨b, 1, none⟩ (.int .i64 r.t)).setCell ⟨b, 2, none⟩ (.int .i64 r.p)) b T #[.int .i64 r.k, .int .i64 r.t, .int .i64 r.p, .int .i64 s.s, .int .i64 s.o, .int .i64 s.n, .int .i64 s.v, .int .i64 s.x] := h1.set 2 _
  have h3 : Has ((((w.setCell ⟨b, 0, none⟩ (.int .i64 r.k)).setCell ⟨b, 1, none⟩ (.int .i64 r.t)).setCell ⟨b, 2, none⟩ (.int .i64 r.p)).setCell ⟨b, 3, none⟩ (.int .i64 r.s)) b T #[.int .i64 r.k, .int .i64 r.t, .int .i64 r.p, .int .i64 r.s, .int .i64 s.o, .int .i64 s.n, .int .i64 s.v, .int .i64 s.x] := h2.set 3 _
  have h4 : Has (((((w.setCell ⟨b, 0, none⟩ (.int .i64 r.k)).setCell ⟨b, 1, none⟩ (.int .i64 r.t)).setCell ⟨b, 2, none⟩ (.int .i64 r.p)).setCell ⟨b, 3, none⟩ (.int .i64 r.s)).setCell ⟨b, 4, none⟩ (.int .i64 r.o)) b T #[.int .i64 r.k, .int .i64 r.t, .int .i64 r.p, .int .i64 r.s, .int .i64 r.o, .int .i64 s.n, .int .i64 s.v, .int .i64 s.x] := h3.set 4 _
  have h5 : Has ((((((w.setCell ⟨b, 0, none⟩ (.int .i64 r.k)).setCell ⟨b, 1, none⟩ (.int .i64 r.t)).setCell ⟨b, 2, none⟩ (.int .i64 r.p)).setCell ⟨b, 3, none⟩ (.int .i64 r.s)).setCell ⟨b, 4, none⟩ (.int .i64 r.o)).setCell ⟨b, 5, none⟩ (.int .i64 r.n)) b T #[.int .i64 r.k, .int .i64 r.t, .int .i64 r.p, .int .i64 r.s, .int .i64 r.o, .int .i64 r.n, .int .i64 s.v, .int .i64 s.x] := h4.set 5 _
  have h6 : Has (((((((w.setCell ⟨b, 0, none⟩ (.int .i64 r.k)).setCell ⟨b, 1, none⟩ (.int .i64 r.t)).setCell ⟨b, 2, none⟩ (.int .i64 r.p)).setCell ⟨b, 3, none⟩ (.int .i64 r.s)).setCell ⟨b, 4, none⟩ (.int .i64 r.o)).setCell ⟨b, 5, none⟩ (.int .i64 r.n)).setCell ⟨b, 6, none⟩ (.int .i64 r.v)) b T #[.int .i64 r.k, .int .i64 r.t, .int .i64 r.p, .int .i64 r.s, .int .i64 r.o, .int .i64 r.n, .int .i64 r.v, .int .i64 s.x] := h5.set 6 _
  have h7 : Has ((((((((w.setCell ⟨b, 0, none⟩ (.int .i64 r.k)).setCell ⟨b, 1, none⟩ (.int .i64 r.t)).setCell ⟨b, 2, none⟩ (.int .i64 r.p)).setCell ⟨b, 3, none⟩ (.int .i64 r.s)).setCell ⟨b, 4, none⟩ (.int .i64 r.o)).setCell ⟨b, 5, none⟩ (.int .i64 r.n)).setCell ⟨b, 6, none⟩ (.int .i64 r.v)).setCell ⟨b, 7, none⟩ (.int .i64 r.x)) b T #[.int .i64 r.k, .int .i64 r.t, .int .i64 r.p, .int .i64 r.s, .int .i64 r.o, .int .i64 r.n, .int .i64 r.v, .int .i64 r.x] := h6.set 7 _
  exact h7

/-- what l71Rec leaves: a record; the reader has gone on -/
def DrawnR (g : Nat) (a : Option Addr) (bs : List Int) (cap B : Nat) (m : Int) (w : World) (e : Ending) (w' : World) : Prop :=
  ∃ r : R, e = .returned (recV r) ∧ w.grownBy w' (some g) ∧ ∃ p, p ≤ m ∧ Rdr w' g a bs cap p B
end Go.Proofs.YtoihdbcdlodkgaaGreatDoor.Base
