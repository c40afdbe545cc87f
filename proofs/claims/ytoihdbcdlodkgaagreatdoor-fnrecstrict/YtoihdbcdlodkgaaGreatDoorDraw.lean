/-
  Contracts of the model's drawing of pages: l71Page, DrawPageOk, DrawPageEmpty. Only the form of a drawn page is said. Conditions: the code is a slice of bytes.
-/
import Derived.Test.YtoihdbcdlodkgaaGreatDoorPick
import Derived.Deep.RegionHeld3
import Derived.Deep.DeepCutAuto
namespace Go.Proofs.YtoihdbcdlodkgaaGreatDoor.Base
open Go.RowKit

/-- the numbers of a drawn page: two or three values, all small -/
structure Small (l o : Int) (zs : List Int) : Prop where
  most : zs.length ≤ 3
  least : 2 ≤ zs.length
  vals : ∀ j, j < zs.length → -1 ≤ zs.getD j 0 ∧ zs.getD j 0 ≤ 12
  lsn : -1 ≤ l ∧ l ≤ 151
  own : -1 ≤ o ∧ o ≤ 4

/-- a page that lies in memory of the call's own: its slots in block g from q on -/
def Drawn (B : Nat) (e : Ending) (w' : World) : Prop :=
  ∃ (l o : Int) (zs : List Int) (g q cap : Nat), e = .returned (pageV l o (some ⟨g, q, none⟩) zs.length cap) ∧ Rd .i64 w' g q zs ∧ Wr w' g q zs.length ∧ B ≤ g ∧ zs.length ≤ cap ∧ cap ≤ 3 ∧ Small l o zs

/-- what l71Page leaves: a drawn page; the reader has gone on -/
def DrawnBy (g : Nat) (a : Option Addr) (bs : List Int) (cap : Nat) (B : Nat) (m : Int) (w : World) (e : Ending) (w' : World) : Prop :=
  Drawn w.heap.size e w' ∧ w.grownBy w' (some g) ∧ ∃ p, p ≤ m ∧ Rdr w' g a bs cap p B

section
variable {w0 w w' : World} {g : Nat} {a : Option Addr} {bs : List Int} {cap B R pb g1 q c : Nat} {l o : Int} {zs : List Int} {p : Int}
theorem grown_two {x y z : World} {r : Option Nat} (h : x.grownBy y r) (k : y.grownBy z r) : x.grownBy z r :=
  ⟨k.os.trans h.os, k.tape.trans h.tape, k.output.trans h.output, Nat.le_trans h.size k.size, fun i hi hn => (k.block i (Nat.lt_of_lt_of_le hi h.size) hn).trans (h.block i hi hn)⟩
theorem grown_draws {x y : World} {r : Option Nat} (h : x.grownBy y r) (m : Nat) : x.grownBy (y.drewN m) r := ⟨h.os, h.tape, h.output, h.size, h.block⟩
theorem grown_far {x y : World} {r : Option Nat} (h : x.grownBy y r) {i b : Nat} (hb : x.heap.size ≤ b) (u : Value) : x.grownBy (y.setCell ⟨b, i, none⟩ u) r :=
  ⟨h.os, h.tape, h.output, by rw [size_set]; exact h.size, fun k hk hn => (Below.heap_setCell y _ u k (by simp; omega)).trans (h.block k hk hn)⟩
theorem grown_alloc {x y : World} {r : Option Nat} (h : x.grownBy y r) (ob : Obj) : x.grownBy (y.alloc ob) r :=
  ⟨h.os, h.tape, h.output, Nat.le_trans h.size (by simp), fun k hk hn => (Below.heap_alloc y ob k (Nat.lt_of_lt_of_le hk h.size)).trans (h.block k hk hn)⟩
theorem grown_below {x y : World} (h : Below x.heap.size x y) (r : Option Nat) : x.grownBy y r := ⟨h.os, h.tape, h.output, h.size, fun i hi _ => h.block i hi⟩
theorem Rdr.keep (h : Rdr w g a bs cap p B) (e : w'.heap[g]? = w.heap[g]?) (e' : ∀ i, i < B → w'.heap[i]? = w.heap[i]?) : Rdr w' g a bs cap p B :=
  ⟨h.has.keep e, h.ints.keep e', h.apart, h.bytes, h.short, h.low⟩
theorem Rdr.drewN (h : Rdr w g a bs cap p B) (m : Nat) : Rdr (w.drewN m) g a bs cap p B := h.keep rfl fun _ _ => rfl
theorem Rdr.below (h : Rdr w g a bs cap p B) {N : Nat} (hb : Below N w w') (hg : g < N) : Rdr w' g a bs cap p B := h.keep (hb.block g hg) fun i hi => hb.block i (by have := h.apart; omega)

theorem getD_set (zs : List Int) (t j : Nat) (v : Int) (hj : j < zs.length) : (zs.set t v).getD j 0 = if j = t then v else zs.getD j 0 := by
  simp only [List.getD_eq_getElem?_getD, List.getElem?_set]
  by_cases e : j = t
  · subst e; simp [hj]
  · simp [e, Ne.symm e]
theorem Small.set (h : Small l o zs) (t : Nat) (v : Int) (h0 : -1 ≤ v) (h1 : v ≤ 12) : Small l o (zs.set t v) :=
  ⟨by simpa using h.most, by simpa using h.least, fun j hj => by
    rw [List.length_set] at hj
    rw [getD_set zs t j v hj]
    split
    · exact ⟨h0, h1⟩
    · exact h.vals j hj, h.lsn, h.own⟩

end

end Go.Proofs.YtoihdbcdlodkgaaGreatDoor.Base
