/-
  Words on memory, of no one function: rows of integers that a slice leads to, read ('Ints') or owned by the call ('Own'). No conditions.
-/
import Derived.WalkKit
import Derived.ProofKit
import Derived.Below
import Derived.Deep.Draws
import Derived.Laws.AppendOwn
import Derived.Laws.MakeOwn
namespace Go.Proofs.YtoihdbcdlodkgaaGreatDoor
open Go.RowKit

/-- the numbers zs lie in block g from o on -/
def Rd (k : IntKind) (w : World) (g o : Nat) (zs : List Int) : Prop :=
  ∀ j, j < zs.length → w.cell? ⟨g, o + j, none⟩ = some (.int k (zs.getD j 0))
/-- a slice that leads to the numbers zs, below block B; with no numbers it may be nil -/
def Ints (k : IntKind) (w : World) (B : Nat) (a : Option Addr) (zs : List Int) : Prop :=
  0 < zs.length → ∃ g o, a = some ⟨g, o, none⟩ ∧ g < B ∧ Rd k w g o zs
/-- n cells of block g, from o on, may be written -/
def Wr (w : World) (g o n : Nat) : Prop := g < w.heap.size ∧ ∀ j, j < n → w.frozen? ⟨g, o + j, none⟩ = false

section
variable {k : IntKind} {w w' : World} {g o B n : Nat} {a : Option Addr} {zs : List Int}

theorem Rd.keep (h : Rd k w g o zs) (e : w'.heap[g]? = w.heap[g]?) : Rd k w' g o zs :=
  fun j hj => (World.cell?_of_block (a := ⟨g, o + j, none⟩) e).trans (h j hj)
theorem Wr.keep (h : Wr w g o n) (hs : w.heap.size ≤ w'.heap.size) (e : w'.heap[g]? = w.heap[g]?) : Wr w' g o n :=
  ⟨Nat.lt_of_lt_of_le h.1 hs, fun j hj => (World.frozen?_of_block (a := ⟨g, o + j, none⟩) e).trans (h.2 j hj)⟩
theorem Rd.below (h : Rd k w g o zs) (hb : Below B w w') (hg : g < B) : Rd k w' g o zs := h.keep (hb.block g hg)
theorem Wr.below (h : Wr w g o n) (hb : Below B w w') (hg : g < B) : Wr w' g o n := h.keep hb.size (hb.block g hg)
theorem Rd.grown {row : Option Nat} (h : Rd k w g o zs) (hb : w.grownBy w' row) (hg : g < w.heap.size) (hr : some g ≠ row) : Rd k w' g o zs := h.keep (hb.block g hg hr)
theorem Wr.grown {row : Option Nat} (h : Wr w g o n) (hb : w.grownBy w' row) (hr : some g ≠ row) : Wr w' g o n := h.keep hb.size (hb.block g h.1 hr)
theorem Rd.ints (h : Rd k w g o zs) (hg : g < B) : Ints k w B (some ⟨g, o, none⟩) zs := fun _ => ⟨g, o, rfl, hg, h⟩
theorem Ints.keep (h : Ints k w B a zs) (hk : ∀ g, g < B → w'.heap[g]? = w.heap[g]?) : Ints k w' B a zs := fun hp => by
  obtain ⟨g, o, e, hg, hr⟩ := h hp
  exact ⟨g, o, e, hg, hr.keep (hk g hg)⟩
theorem Ints.below (h : Ints k w B a zs) (hb : Below B w w') : Ints k w' B a zs := h.keep hb.block
theorem Ints.more {B' : Nat} (h : Ints k w B a zs) (hB : B ≤ B') : Ints k w B' a zs := fun hp => by
  obtain ⟨g, o, e, hg, hr⟩ := h hp
  exact ⟨g, o, e, Nat.lt_of_lt_of_le hg hB, hr⟩
theorem Rd.drew (h : Rd k w g o zs) : Rd k w.drew g o zs := h
theorem Rd.drewN (h : Rd k w g o zs) (m : Nat) : Rd k (w.drewN m) g o zs := h
theorem Ints.drewN (h : Ints k w B a zs) (m : Nat) : Ints k (w.drewN m) B a zs := h
end

theorem Ints.take {k : IntKind} {w : World} {B : Nat} {a : Option Addr} {zs : List Int} (h : Ints k w B a zs) (n : Nat) : Ints k w B a (zs.take n) := fun hp => by
  rw [List.length_take] at hp
  obtain ⟨g, o, e, hg, hr⟩ := h (by omega)
  refine ⟨g, o, e, hg, fun j hj => ?_⟩
  rw [List.length_take] at hj
  rw [hr j (by omega)]
  simp [List.getD_eq_getElem?_getD, show j < n by omega]

/-- block g is just these cells, none of them shared with a string -/
def Has (w : World) (g : Nat) (t : TypeId) (cs : Array Value) : Prop := w.heap[g]? = some (.cells cs t (0, 0))
section
variable {w w' : World} {g : Nat} {t : TypeId} {cs : Array Value}
theorem Has.lt (h : Has w g t cs) : g < w.heap.size := (Array.getElem?_eq_some_iff.1 h).1
theorem Has.cell (h : Has w g t cs) (i : Nat) : w.cell? ⟨g, i, none⟩ = cs[i]? := cell_of_row w g i cs t (0, 0) h
theorem Has.frozen (h : Has w g t cs) (i : Nat) : w.frozen? ⟨g, i, none⟩ = false := by
  unfold Has at h
  simp [World.frozen?, h]
theorem Has.new (w : World) (t : TypeId) (cs : Array Value) : Has (w.alloc (.cells cs t)) w.heap.size t cs := heap_alloc_new w _
theorem Has.keep (h : Has w g t cs) (e : w'.heap[g]? = w.heap[g]?) : Has w' g t cs := e.trans h
theorem Has.below {B : Nat} (h : Has w g t cs) (hb : Below B w w') (hg : g < B) : Has w' g t cs := h.keep (hb.block g hg)
theorem Has.grown {row : Option Nat} (h : Has w g t cs) (hb : w.grownBy w' row) (hr : some g ≠ row) : Has w' g t cs := h.keep (hb.block g h.lt hr)
theorem Has.alloc (h : Has w g t cs) (o : Obj) : Has (w.alloc o) g t cs := h.keep (Below.heap_alloc w o g h.lt)
theorem Has.far (h : Has w g t cs) {p : Addr} (hp : g ≠ p.block) (u : Value) : Has (w.setCell p u) g t cs := h.keep (Below.heap_setCell w p u g hp)
theorem Has.set (h : Has w g t cs) (i : Nat) (u : Value) : Has (w.setCell ⟨g, i, none⟩ u) g t (cs.setIfInBounds i u) := by
  unfold Has at h ⊢
  simp [World.setCell, Array.getElem?_modify, h]
theorem Has.drew (h : Has w g t cs) : Has w.drew g t cs := h
theorem Has.drewN (h : Has w g t cs) (n : Nat) : Has (w.drewN n) g t cs := h
theorem Has.five {x y z u v : Value} (h : Has w g t #[x, y, z, u, v]) : w.cell? ⟨g, 0, none⟩ = some x ∧ w.cell? ⟨g, 1, none⟩ = some y ∧ w.cell? ⟨g, 2, none⟩ = some z ∧ w.cell? ⟨g, 3, none⟩ = some u ∧ w.cell? ⟨g, 4, none⟩ = some v := ⟨h.cell 0, h.cell 1, h.cell 2, h.cell 3, h.cell 4⟩
theorem Has.three {x y z : Value} (h : Has w g t #[x, y, z]) : w.cell? ⟨g, 0, none⟩ = some x ∧ w.cell? ⟨g, 1, none⟩ = some y ∧ w.cell? ⟨g, 2, none⟩ = some z := ⟨h.cell 0, h.cell 1, h.cell 2⟩
theorem three_keep {B : Nat} {x y z : Value} (hb : Below B w w') (hg : g < B) (h : w.cell? ⟨g, 0, none⟩ = some x ∧ w.cell? ⟨g, 1, none⟩ = some y ∧ w.cell? ⟨g, 2, none⟩ = some z) :
    w'.cell? ⟨g, 0, none⟩ = some x ∧ w'.cell? ⟨g, 1, none⟩ = some y ∧ w'.cell? ⟨g, 2, none⟩ = some z :=
  ⟨(hb.cell (p := ⟨g, 0, none⟩) hg).trans h.1, (hb.cell (p := ⟨g, 1, none⟩) hg).trans h.2.1, (hb.cell (p := ⟨g, 2, none⟩) hg).trans h.2.2⟩
theorem Has.wr (h : Has w g t cs) (o n : Nat) : Wr w g o n := ⟨h.lt, fun j _ => h.frozen (o + j)⟩
end

theorem madeInts (n : Nat) : madeCells (Value.int .i64 0).cells (n * 1) = Array.replicate n (.int .i64 0) := by
  apply Array.ext
  · simp [madeCells]
  · intro i h1 h2
    simp [madeCells, Value.cells, Nat.mod_one]

theorem size_set (w : World) (p : Addr) (u : Value) : (w.setCell p u).heap.size = w.heap.size := by simp [World.setCell]
theorem cell_set (w : World) (g o j t : Nat) (u v : Value) (h : w.cell? ⟨g, o + t, none⟩ = some v) :
    (w.setCell ⟨g, o + t, none⟩ u).cell? ⟨g, o + j, none⟩ = if j = t then some u else w.cell? ⟨g, o + j, none⟩ := by
  by_cases e : j = t
  · subst e
    rw [if_pos rfl]
    exact World.cell?_setCell_same w _ u h
  · rw [if_neg e]
    exact World.cell?_setCell_other w _ _ u (fun e' => e (by injection e'; omega))
theorem Wr.set {w : World} {g o n : Nat} (h : Wr w g o n) (p : Addr) (u : Value) : Wr (w.setCell p u) g o n :=
  ⟨by rw [size_set]; exact h.1, fun j hj => by rw [World.frozen?_setCell]; exact h.2 j hj⟩
theorem grown_set {a w : World} {g i : Nat} (h : a.grownBy w (some g)) (u : Value) : a.grownBy (w.setCell ⟨g, i, none⟩ u) (some g) :=
  ⟨h.os, h.tape, h.output, by rw [size_set]; exact h.size, fun k hk hn => (Below.heap_setCell w _ u k (fun e => hn (by rw [e]))).trans (h.block k hk hn)⟩

/-- nothing below B has turned, behind further draws -/
theorem below_draws {B : Nat} {a w : World} (h : Below B a w) (m : Nat) : Below B a (w.drewN m) := ⟨h.os, h.tape, h.output, h.size, h.block⟩
/-- a row that only the call's own block has turned leaves all below as it was -/
theorem below_grown {B g : Nat} {w w' : World} (h : w.grownBy w' (some g)) (hB : B ≤ g) (hs : B ≤ w.heap.size) : Below B w w' :=
  ⟨h.os, h.tape, h.output, h.size, fun i hi => h.block i (by omega) (fun e => by injection e; omega)⟩
end Go.Proofs.YtoihdbcdlodkgaaGreatDoor
