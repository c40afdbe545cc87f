/-
  Words on memory, of no one function: rows of integers that a slice leads to, read ('Ints') or owned by the call ('Own'). No conditions.
-/
import Derived.WalkKit
import Derived.ProofKit
import Derived.Below
import Derived.Deep.Draws
import Derived.Laws.AppendOwn
import Derived.Laws.MakeOwn
import Derived.Test.YtejbmjdipfcblaaRows
import Derived.RegionTactic
import Derived.ChangeAlike
import Derived.ChangeKeysEq
import Derived.Deep.QuietTactic
import Derived.BigQuiet
import Derived.StillTailTactics
import Derived.Lib.Hide
import Derived.Laws.Cover3
import Derived.Laws.StructEq
import Derived.Handy
namespace Go.Proofs.Ytejbmjdipfcblaa
open Go.RowKit

/-- the numbers zs lie in block g from o on -/
def Rd (k : IntKind) (w : World) (g o : Nat) (zs : List Int) : Prop :=
  ∀ j, j < zs.length → w.cell? ⟨g, o + j, none⟩ = some (.int k (zs.getD j 0))
/-- a slice that leads to the numbers zs, below block B; with no numbers it may be nil -/
def Ints (k : IntKind) (w : World) (B : Nat) (a : Option Addr) (zs : List Int) : Prop :=
  0 < zs.length → ∃ g o, a = some ⟨g, o, none⟩ ∧ g < B ∧ Rd k w g o zs
/-- n cells of block g, from o on, may be written -/
def Wr (w : World) (g o n : Nat) : Prop := g < w.heap.size ∧ ∀ j, j < n → w.frozen? ⟨g, o + j, none⟩ = false

section
variable {k : IntKind} {w w' : World} {g o B n : Nat} {a : Option Addr} {zs : List Int}

theorem Rd.keep (h : Rd k w g o zs) (e : w'.heap[g]? = w.heap[g]?) : Rd k w' g o zs :=
  fun j hj => (World.cell?_of_block (a := ⟨g, o + j, none⟩) e).trans (h j hj)
theorem Wr.keep (h : Wr w g o n) (hs : w.heap.size ≤ w'.heap.size) (e : w'.heap[g]? = w.heap[g]?) : Wr w' g o n :=
  ⟨Nat.lt_of_lt_of_le h.1 hs, fun j hj => (World.frozen?_of_block (a := ⟨g, o + j, none⟩) e).trans (h.2 j hj)⟩
theorem Rd.below (h : Rd k w g o zs) (hb : Below B w w') (hg : g < B) : Rd k w' g o zs := h.keep (hb.block g hg)
theorem Wr.below (h : Wr w g o n) (hb : Below B w w') (hg : g < B) : Wr w' g o n := h.keep hb.size (hb.block g hg)
theorem Rd.grown {row : Option Nat} (h : Rd k w g o zs) (hb : w.grownBy w' row) (hg : g < w.heap.size) (hr : some g ≠ row) : Rd k w' g o zs := h.keep (hb.block g hg hr)
theorem Wr.grown {row : Option Nat} (h : Wr w g o n) (hb : w.grownBy w' row) (hr : some g ≠ row) : Wr w' g o n := h.keep hb.size (hb.block g h.1 hr)
theorem Rd.ints (h : Rd k w g o zs) (hg : g < B) : Ints k w B (some ⟨g, o, none⟩) zs := fun _ => ⟨g, o, rfl, hg, h⟩
theorem Ints.keep (h : Ints k w B a zs) (hk : ∀ g, g < B → w'.heap[g]? = w.heap[g]?) : Ints k w' B a zs := fun hp => by
  obtain ⟨g, o, e, hg, hr⟩ := h hp
  exact ⟨g, o, e, hg, hr.keep (hk g hg)⟩
theorem Ints.below (h : Ints k w B a zs) (hb : Below B w w') : Ints k w' B a zs := h.keep hb.block
theorem Ints.more {B' : Nat} (h : Ints k w B a zs) (hB : B ≤ B') : Ints k w B' a zs := fun hp => by
  obtain ⟨g, o, e, hg, hr⟩ := h hp
  exact ⟨g, o, e, Nat.lt_of_lt_of_le hg hB, hr⟩
theorem Rd.drew (h : Rd k w g o zs) : Rd k w.drew g o zs := h
theorem Rd.drewN (h : Rd k w g o zs) (m : Nat) : Rd k (w.drewN m) g o zs := h
theorem Ints.drewN (h : Ints k w B a zs) (m : Nat) : Ints k (w.drewN m) B a zs := h
end

theorem Ints.take {k : IntKind} {w : World} {B : Nat} {a : Option Addr} {zs : List Int} (h : Ints k w B a zs) (n : Nat) : Ints k w B a (zs.take n) := fun hp => by
  rw [List.length_take] at hp
  obtain ⟨g, o, e, hg, hr⟩ := h (by omega)
  refine ⟨g, o, e, hg, fun j hj => ?_⟩
  rw [List.length_take] at hj
  rw [hr j (by omega)]
  simp [List.getD_eq_getElem?_getD, show j < n by omega]

/-- block g is just these cells, none of them shared with a string -/
def Has (w : World) (g : Nat) (t : TypeId) (cs : Array Value) : Prop := w.heap[g]? = some (.cells cs t (0, 0))
section
variable {w w' : World} {g : Nat} {t : TypeId} {cs : Array Value}
theorem Has.lt (h : Has w g t cs) : g < w.heap.size := (Array.getElem?_eq_some_iff.1 h).1
theorem Has.cell (h : Has w g t cs) (i : Nat) : w.cell? ⟨g, i, none⟩ = cs[i]? := cell_of_row w g i cs t (0, 0) h
theorem Has.frozen (h : Has w g t cs) (i : Nat) : w.frozen? ⟨g, i, none⟩ = false := by
  unfold Has at h
  simp [World.frozen?, h]
theorem Has.new (w : World) (t : TypeId) (cs : Array Value) : Has (w.alloc (.cells cs t)) w.heap.size t cs := heap_alloc_new w _
theorem Has.keep (h : Has w g t cs) (e : w'.heap[g]? = w.heap[g]?) : Has w' g t cs := e.trans h
theorem Has.below {B : Nat} (h : Has w g t cs) (hb : Below B w w') (hg : g < B) : Has w' g t cs := h.keep (hb.block g hg)
theorem Has.grown {row : Option Nat} (h : Has w g t cs) (hb : w.grownBy w' row) (hr : some g ≠ row) : Has w' g t cs := h.keep (hb.block g h.lt hr)
theorem Has.alloc (h : Has w g t cs) (o : Obj) : Has (w.alloc o) g t cs := h.keep (Below.heap_alloc w o g h.lt)
theorem Has.far (h : Has w g t cs) {p : Addr} (hp : g ≠ p.block) (u : Value) : Has (w.setCell p u) g t cs := h.keep (Below.heap_setCell w p u g hp)
theorem Has.set (h : Has w g t cs) (i : Nat) (u : Value) : Has (w.setCell ⟨g, i, none⟩ u) g t (cs.setIfInBounds i u) := by
  unfold Has at h ⊢
  simp [World.setCell, Array.getElem?_modify, h]
theorem Has.drew (h : Has w g t cs) : Has w.drew g t cs := h
theorem Has.drewN (h : Has w g t cs) (n : Nat) : Has (w.drewN n) g t cs := h
theorem Has.five {x y z u v : Value} (h : Has w g t #[x, y, z, u, v]) : w.cell? ⟨g, 0, none⟩ = some x ∧ w.cell? ⟨g, 1, none⟩ = some y ∧ w.cell? ⟨g, 2, none⟩ = some z ∧ w.cell? ⟨g, 3, none⟩ = some u ∧ w.cell? ⟨g, 4, none⟩ = some v := ⟨h.cell 0, h.cell 1, h.cell 2, h.cell 3, h.cell 4⟩
theorem Has.three {x y z : Value} (h : Has w g t #[x, y, z]) : w.cell? ⟨g, 0, none⟩ = some x ∧ w.cell? ⟨g, 1, none⟩ = some y ∧ w.cell? ⟨g, 2, none⟩ = some z := ⟨h.cell 0, h.cell 1, h.cell 2⟩
theorem three_keep {B : Nat} {x y z : Value} (hb : Below B w w') (hg : g < B) (h : w.cell? ⟨g, 0, none⟩ = some x ∧ w.cell? ⟨g, 1, none⟩ = some y ∧ w.cell? ⟨g, 2, none⟩ = some z) :
    w'.cell? ⟨g, 0, none⟩ = some x ∧ w'.cell? ⟨g, 1, none⟩ = some y ∧ w'.cell? ⟨g, 2, none⟩ = some z :=
  ⟨(hb.cell (p := ⟨g, 0, none⟩) hg).trans h.1, (hb.cell (p := ⟨g, 1, none⟩) hg).trans h.2.1, (hb.cell (p := ⟨g, 2, none⟩) hg).trans h.2.2⟩
theorem Has.wr (h : Has w g t cs) (o n : Nat) : Wr w g o n := ⟨h.lt, fun j _ => h.frozen (o + j)⟩
end

theorem madeInts (n : Nat) : madeCells (Value.int .i64 0).cells (n * 1) = Array.replicate n (.int .i64 0) := by
  apply Array.ext
  · simp [madeCells]
  · intro i h1 h2
    simp [madeCells, Value.cells, Nat.mod_one]

theorem size_set (w : World) (p : Addr) (u : Value) : (w.setCell p u).heap.size = w.heap.size := by simp [World.setCell]
theorem cell_set (w : World) (g o j t : Nat) (u v : Value) (h : w.cell? ⟨g, o + t, none⟩ = some v) :
    (w.setCell ⟨g, o + t, none⟩ u).cell? ⟨g, o + j, none⟩ = if j = t then some u else w.cell? ⟨g, o + j, none⟩ := by
  by_cases e : j = t
  · subst e
    rw [if_pos rfl]
    exact World.cell?_setCell_same w _ u h
  · rw [if_neg e]
    exact World.cell?_setCell_other w _ _ u (fun e' => e (by injection e'; omega))
theorem Wr.set {w : World} {g o n : Nat} (h : Wr w g o n) (p : Addr) (u : Value) : Wr (w.setCell p u) g o n :=
  ⟨by rw [size_set]; exact h.1, fun j hj => by rw [World.frozen?_setCell]; exact h.2 j hj⟩
theorem grown_set {a w : World} {g i : Nat} (h : a.grownBy w (some g)) (u : Value) : a.grownBy (w.setCell ⟨g, i, none⟩ u) (some g) :=
  ⟨h.os, h.tape, h.output, by rw [size_set]; exact h.size, fun k hk hn => (Below.heap_setCell w _ u k (fun e => hn (by rw [e]))).trans (h.block k hk hn)⟩

/-- nothing below B has turned, behind further draws -/
theorem below_draws {B : Nat} {a w : World} (h : Below B a w) (m : Nat) : Below B a (w.drewN m) := ⟨h.os, h.tape, h.output, h.size, h.block⟩
/-- a row that only the call's own block has turned leaves all below as it was -/
theorem below_grown {B g : Nat} {w w' : World} (h : w.grownBy w' (some g)) (hB : B ≤ g) (hs : B ≤ w.heap.size) : Below B w w' :=
  ⟨h.os, h.tape, h.output, h.size, fun i hi => h.block i (by omega) (fun e => by injection e; omega)⟩
end Go.Proofs.Ytejbmjdipfcblaa

/-
  Contracts of the small functions of pages: within, l6In, frame.empty, frame.page, PageNew (of the program and of the model). No conditions.
-/
namespace Go.Proofs.Ytejbmjdipfcblaa.Base
open Go.RowKit

/-- a number from low to high, as a Bool -/
def inB (n low high : Int) : Bool := decide (low ≤ n) && decide (n ≤ high)

set_option maxHeartbeats 400000 in
theorem within_any (n k : Int) (w : World) :
    Calls Try.prog 35 #[.int .i64 n, .int .i64 k] w fun e w' => e = .returned (.bool (inB n 0 k)) ∧ w = w' := by
  by_cases h1 : 0 ≤ n
  · go_enter Try.func35, Try.ntmps35
    go_wp2
    go_ret
    exact ⟨by simp [inB, h1], rfl⟩
  · go_enter Try.func35, Try.ntmps35
    go_wp2
    go_ret
    exact ⟨by simp [inB]; omega, rfl⟩

set_option maxHeartbeats 400000 in
theorem l6In_any (n l k : Int) (w : World) :
    Calls Try.prog 43 #[.int .i64 n, .int .i64 l, .int .i64 k] w fun e w' => e = .returned (.bool (inB n l k)) ∧ w = w' := by
  by_cases h1 : l ≤ n
  · go_enter Try.func43, Try.ntmps43
    go_wp2
    go_ret
    exact ⟨by simp [inB, h1], rfl⟩
  · go_enter Try.func43, Try.ntmps43
    go_wp2
    go_ret
    exact ⟨by simp [inB]; omega, rfl⟩

theorem infoInt : (Try.prog.info? 3).map (fun i => (i.zero, i.size, i.bytes)) = some (some (.int .i64 0), 1, 8) := by kernel_rfl

/-- a frame, as a value -/
abbrev frameV (l o a b c : Int) : Value := .agg #[.int .i64 l, .int .i64 o, .int .i64 a, .int .i64 b, .int .i64 c]
/-- a page, as a value: its slots lie at the address 's', 'n' of them -/
abbrev pageV (l o : Int) (s : Option Addr) (n cap : Nat) : Value := .agg #[.int .i64 l, .int .i64 o, .slice s n cap]

/-- what PageNew leaves: a free page, its slots three zeros in a new block -/
def NewPage (w : World) (e : Ending) (w' : World) : Prop :=
  ∃ (g o : Nat), e = .returned (pageV 0 0 (some ⟨g, o, none⟩) 3 3) ∧ Below w.heap.size w w' ∧ w.heap.size ≤ g ∧ Rd .i64 w' g o [0, 0, 0] ∧ Wr w' g o 3

theorem make3 (w : World) : (Instr.makeSlice 31 (.int .i64 3) (.int .i64 3)).run Try.prog w = .ok (.slice (some ⟨w.heap.size, 0, none⟩) 3 3) (w.alloc (.cells #[.int .i64 0, .int .i64 0, .int .i64 0] 3)) := by
  obtain ⟨i0, hi, hz, hs, hb⟩ := info_parts infoInt
  rw [run_make w _ _ i0 _ Try.underlying31 hi hz .i64 .i64 3 3 (by omega) (by omega) (by rw [hb]; omega) (by omega), hs, show Int.toNat 3 = 3 from rfl, madeInts]
  rfl
attribute [local go_sem] make3

set_option maxHeartbeats 400000 in
theorem specPageNew_any (w : World) : Calls Try.prog 83 #[] w (NewPage w) := by
  go_enter Try.func83, Try.ntmps83
  go_wp2
  refine bodyPost_ret (v := pageV 0 0 (some ⟨w.heap.size + 1, 0, none⟩) 3 3) (by simp [results, Try.results83, go_sem]) rfl ⟨w.heap.size + 1, 0, rfl, ?_, by omega, ?_, ?_⟩
  · exact ((Below.refl _ _).alloc (Nat.le_refl _) _).alloc (by simp) _
  · have h3 := Has.new (w.alloc (.cells #[.int .i64 0, .int .i64 0, .slice (some ⟨w.heap.size + 1, 0, none⟩) 3 3] 94)) 3 #[.int .i64 0, .int .i64 0, .int .i64 0]
    simp only [World.size_alloc] at h3
    intro j hj
    rw [h3.cell]
    match j, hj with
    | 0, _ => rfl
    | 1, _ => rfl
    | 2, _ => rfl
  · have h3 := Has.new (w.alloc (.cells #[.int .i64 0, .int .i64 0, .slice (some ⟨w.heap.size + 1, 0, none⟩) 3 3] 94)) 3 #[.int .i64 0, .int .i64 0, .int .i64 0]
    simp only [World.size_alloc] at h3
    exact h3.wr _ _

end Go.Proofs.Ytejbmjdipfcblaa.Base

/-
  Contracts of the laws' helpers on []int: eqIntS, markIntS, heldIntS, szIntS, toIntS. Conditions: the slices lead to numbers (Words); what is added stays within int.
-/
namespace Go.Proofs.Ytejbmjdipfcblaa.Base
open Go.RowKit

theorem getD_ne (xs ys : List Int) (k : Nat) (hne : xs.getD k 0 ≠ ys.getD k 0) : (xs == ys) = false := by
  rw [beq_eq_false_iff_ne]
  rintro rfl
  exact hne rfl
theorem eq_of_getD (xs ys : List Int) (hl : xs.length = ys.length) (h : ∀ j, j < xs.length → xs.getD j 0 = ys.getD j 0) : xs = ys := by
  apply List.ext_getElem hl
  intro i h1 h2
  have := h i h1
  simpa [List.getD_eq_getElem?_getD, List.getElem?_eq_getElem h1, List.getElem?_eq_getElem h2] using this

theorem ret_bool {a b : Bool} (h : a = b) : Ending.returned (.bool a) = .returned (.bool b) := by rw [h]
theorem ret_int {a b : Int} (h : a = b) : Ending.returned (.int .i64 a) = .returned (.int .i64 b) := by rw [h]
/-- it answers v, and has only drawn -/
def Quiet (v : Value) (w : World) (e : Ending) (w' : World) : Prop := e = .returned v ∧ ∃ m, w' = w.drewN m

/-- k, k + 1, .. : n numbers -/
def marks (k : Int) (n : Nat) : List Int := (List.range n).map fun i => k + (i : Nat)
theorem marks_len (k : Int) (n : Nat) : (marks k n).length = n := by simp [marks]
theorem marks_get (k : Int) (n j : Nat) (h : j < n) : (marks k n).getD j 0 = k + j := by
  simp [marks, List.getD_eq_getElem?_getD, h]

/-- what markIntS leaves: the numbers k, k + 1, .. in its slice; no other block has turned -/
def Marked (k : Int) (g o n : Nat) (w : World) (e : Ending) (w' : World) : Prop :=
  e = .returned (.int .i64 (k + n)) ∧ w.grownBy w' (some g) ∧ w'.heap.size = w.heap.size ∧ Rd .i64 w' g o (marks k n) ∧ Wr w' g o n

end Go.Proofs.Ytejbmjdipfcblaa.Base

/-
  Contracts of the laws' helpers on pages: eqPage, markPage, heldPage. Conditions: the slots' slices lead to numbers.
-/
namespace Go.Proofs.Ytejbmjdipfcblaa.Base
open Go.RowKit

/-- it answers v, and nothing that was there has turned -/
def Keeps (v : Value) (w : World) (e : Ending) (w' : World) : Prop := e = .returned v ∧ Below w.heap.size w w'

theorem below_two (w : World) (x y : Obj) : Below w.heap.size w ((w.alloc x).alloc y) := ((Below.refl _ _).alloc (Nat.le_refl _) _).alloc (by simp) _
theorem below_one (w : World) (x : Obj) : Below w.heap.size w (w.alloc x) := (Below.refl _ _).alloc (Nat.le_refl _) _

/-- what markPage leaves: the numbers k, k + 1, .. in the page's slots; no other block that was there has turned -/
def MarkedP (k : Int) (g o n : Nat) (w : World) (e : Ending) (w' : World) : Prop :=
  e = .returned (.int .i64 (k + n)) ∧ w.grownBy w' (some g) ∧ Rd .i64 w' g o (marks k n) ∧ Wr w' g o n

end Go.Proofs.Ytejbmjdipfcblaa.Base

/-
  Contracts of the program's frames and of its PageOk and PageEmpty. Conditions: the page's slots lead to numbers.
-/
namespace Go.Proofs.Ytejbmjdipfcblaa.Base
open Go.RowKit

/-- a frame that is ok -/
def okF (l o a b c : Int) : Bool := inB l 0 150 && (inB o 0 3 && (inB a 0 9 && (inB b 0 9 && (inB c 0 9 && ((o != 0) || (a == 0 && (b == 0 && c == 0)))))))

theorem part_int (cs : Array Value) (i : Nat) (v : Value) (w : World) (h : cs[i]? = some v) : (part 3 cs i).run Try.prog w = .ok v w := by
  simp [part, isAgg, run_underlying Try.underlying3, h]

/-- a page that is ok -/
def okP (l o : Int) (zs : List Int) : Bool := (zs.length == 3) && okF l o (zs.getD 0 0) (zs.getD 1 0) (zs.getD 2 0)

/-- what frameOf leaves -/
def FrameOf (l o : Int) (zs : List Int) (w : World) (e : Ending) (w' : World) : Prop :=
  e = .returned (.tuple #[if okP l o zs then frameV l o (zs.getD 0 0) (zs.getD 1 0) (zs.getD 2 0) else frameV 0 0 0 0 0, .bool (okP l o zs)]) ∧ Below w.heap.size w w'

end Go.Proofs.Ytejbmjdipfcblaa.Base

/-
  Contracts of PageOk and PageEmpty, of the program and of the model. Conditions: the page's slots lead to numbers.
-/
namespace Go.Proofs.Ytejbmjdipfcblaa.Base
open Go.RowKit

/-- a value that a page of this owner may have -/
def goodV (o v : Int) : Bool := inB v 0 9 && ((o != 0) || (v == 0))
theorem okF_good (l o a b c : Int) : okF l o a b c = (inB l 0 150 && (inB o 0 3 && (goodV o a && (goodV o b && goodV o c)))) := by
  unfold okF goodV
  cases inB l 0 150 <;> cases inB o 0 3 <;> cases inB a 0 9 <;> cases inB b 0 9 <;> cases inB c 0 9 <;> cases (o != 0) <;> simp

/-- no value is there -/
def zerosB (zs : List Int) : Bool := zs.all (· == 0)
theorem zeros_of (zs : List Int) (h : ∀ j, j < zs.length → zs.getD j 0 = 0) : zerosB zs = true := by
  unfold zerosB
  rw [List.all_eq_true]
  intro x hx
  obtain ⟨i, hi, rfl⟩ := List.mem_iff_getElem.1 hx
  have := h i hi
  rw [List.getD_eq_getElem?_getD, List.getElem?_eq_getElem hi] at this
  simpa using this
theorem zeros_not (zs : List Int) (j : Nat) (hj : j < zs.length) (h : zs.getD j 0 ≠ 0) : zerosB zs = false := by
  unfold zerosB
  rw [List.all_eq_false]
  refine ⟨zs[j], List.getElem_mem hj, ?_⟩
  rw [List.getD_eq_getElem?_getD, List.getElem?_eq_getElem hj] at h
  simpa using h

set_option maxHeartbeats 1000000 in
theorem l1Empty_any (l o : Int) (zs : List Int) (a : Option Addr) (cap B : Nat) (w : World) (hB : B ≤ w.heap.size) (hz : Ints .i64 w B a zs) (mx : zs.length ≤ 1000000000) :
    Calls Try.prog 86 #[pageV l o a zs.length cap] w (Keeps (.bool (zerosB zs)) w) := by
  have Hz := Lib.hid hz
  clear hz
  go_enter Try.func86, Try.ntmps86
  go_wp2
  go_loop [3] (fun i => ∃ t : Nat, t ≤ zs.length ∧ i = .int .i64 t ∧ ∀ j, j < t → zs.getD j 0 = 0) (fun i => zs.length - (intOf i).toNat)
  case atStart => exact ⟨0, Nat.zero_le _, rfl, fun j hj => absurd hj (by omega)⟩
  case round =>
    obtain ⟨t, ht, rfl, hgood⟩ := hrel
    have Hg := Lib.hid hgood
    clear hgood
    by_cases hlt : t < zs.length
    · obtain ⟨g, o', rfl, hgB, hr⟩ := Hz.out (by omega)
      have hgs : g < w.heap.size := by omega
      have c1 := hr t hlt
      clear hr
      by_cases h4 : zs.getD t 0 = 0
      · have H4 := Lib.hid h4
        rw [h4] at c1
        clear h4
        go_wp2
        exact ⟨⟨t + 1, by omega, by go_num, fun j hj => by
          rcases Nat.lt_succ_iff_lt_or_eq.1 hj with h | rfl
          · exact Hg.out j h
          · exact H4.out⟩, by simp [intOf]; omega⟩
      · have b4 : (zs.getD t 0 != 0) = true := by simpa using h4
        have H4 := Lib.hid (zeros_not zs t hlt h4)
        generalize zs.getD t 0 = v at c1 b4
        clear h4
        go_wp2
        go_ret
        exact ⟨ret_bool H4.out.symm, below_one _ _⟩
    · go_wp2
      go_ret
      exact ⟨ret_bool (zeros_of zs (fun j hj => Hg.out j (by omega))).symm, below_one _ _⟩

theorem okP_zeros (l o : Int) (zs : List Int) : (okP l o zs && zerosB zs) = (okP l o zs && (zs.getD 0 0 == 0 && (zs.getD 1 0 == 0 && zs.getD 2 0 == 0))) := by
  by_cases h : zs.length = 3
  · match zs, h with
    | [x, y, z], _ => simp [zerosB]
  · have h' : (zs.length == 3) = false := by simpa using h
    simp [okP, h']

end Go.Proofs.Ytejbmjdipfcblaa.Base

/-
  Structs of integers, compared: of no one function. No conditions but those in each.
-/
namespace Go.Proofs.Ytejbmjdipfcblaa
open Go.RowKit

/-- the number in a cell -/
def cellN (cs : Array Value) (i : Nat) : Int :=
  match cs[i]? with
  | some (.int _ n) => n
  | _ => 0

theorem run_eqFields_ints {P : Program} (d : Nat) (T : TypeId) (hT : P.underlying T = some (.int .i64)) (cs ds : Array Value) (w : World) :
    ∀ (fs : List Field) (js : List Nat), fs.map (fun f => (f.name != "_", f.type, f.offset)) = js.map (fun j => (true, T, j)) →
      (∀ j ∈ js, cs[j]? = some (.int .i64 (cellN cs j)) ∧ ds[j]? = some (.int .i64 (cellN ds j))) →
      (Op.eqFields (d + 1) cs ds fs).run P w = .ok (js.all fun j => cellN cs j == cellN ds j) w
  | [], [], _, _ => by simp [Op.eqFields]
  | [], j :: js, h, _ => by simp at h
  | f :: fs, [], h, _ => by simp at h
  | f :: fs, j :: js, h, hc => by
    simp only [List.map_cons, List.cons.injEq, Prod.mk.injEq] at h
    obtain ⟨⟨h1, h2, h3⟩, h4⟩ := h
    obtain ⟨hx, hy⟩ := hc j (by simp)
    have hn : f.name ≠ "_" := by simpa using h1
    have hp : ∀ (arr : Array Value) (v : Value), arr[j]? = some v → (part T arr j).run P w = .ok v w := fun arr v h => by
      simp [part, isAgg, run_underlying hT, h]
    have ih := run_eqFields_ints d T hT cs ds w fs js h4 (fun k hk => hc k (by simp [hk]))
    rw [Op.eqFields]
    simp only [hn, ne_eq, not_false_eq_true, if_true, h2, h3, Sem.run_bind, hp _ _ hx, hp _ _ hy, Result.andThen_ok, run_equalIn_int w _ _ _ _ _ _ hT]
    cases hb : (cellN cs j == cellN ds j)
    · simp [hb]
    · simp only [Bool.not_true, Bool.false_eq_true, if_false, List.all_cons, hb, Bool.true_and]
      exact ih
end Go.Proofs.Ytejbmjdipfcblaa

/-
  Records: as values, which are valid, which are the same; contracts of the model's l2Of, RecOk and l2Changes, and of toRec. No conditions.
-/
namespace Go.Proofs.Ytejbmjdipfcblaa.Base
open Go.RowKit

/-- a record: its kind, transaction, page, slot, old and new value, the record ahead of it, and the next one to undo -/
structure R where
  k : Int
  t : Int
  p : Int
  s : Int
  o : Int
  n : Int
  v : Int
  x : Int

/-- a record, as a value -/
abbrev recV (r : R) : Value := .agg #[.int .i64 r.k, .int .i64 r.t, .int .i64 r.p, .int .i64 r.s, .int .i64 r.o, .int .i64 r.n, .int .i64 r.v, .int .i64 r.x]

/-- the same record -/
def eqR (a b : R) : Bool := (a.k == b.k) && ((a.t == b.t) && ((a.p == b.p) && ((a.s == b.s) && ((a.o == b.o) && ((a.n == b.n) && ((a.v == b.v) && (a.x == b.x)))))))
theorem eqR_refl (a : R) : eqR a a = true := by simp [eqR]
theorem eqR_iff (a b : R) : eqR a b = true ↔ a = b := by
  constructor
  · intro h
    simp only [eqR, Bool.and_eq_true, beq_iff_eq] at h
    obtain ⟨h1, h2, h3, h4, h5, h6, h7, h8⟩ := h
    cases a
    cases b
    simp_all
  · rintro rfl
    exact eqR_refl a

/-- two records, compared -/
theorem eq8 (a b : R) (w : World) : (Op.equalIn 10000 27 (recV a) (recV b)).run Try.prog w = .ok (eqR a b) w := by
  rw [show (10000 : Nat) = 9999 + 1 from rfl, run_equalIn_struct w 9999 _ _ _ (by kernel_rfl) (by kernel_rfl)]
  rw [show (9999 : Nat) = 9998 + 1 from rfl, run_eqFields_ints 9998 3 Try.underlying3 _ _ w _ [0, 1, 2, 3, 4, 5, 6, 7] (by kernel_rfl) (by simp [cellN])]
  simp [cellN, eqR]

theorem neq8 (a b c d e f g h a' b' c' d' e' f' g' h' : Int) (w : World) :
    (binOp .neq 27 (.agg #[.int .i64 a, .int .i64 b, .int .i64 c, .int .i64 d, .int .i64 e, .int .i64 f, .int .i64 g, .int .i64 h]) (.agg #[.int .i64 a', .int .i64 b', .int .i64 c', .int .i64 d', .int .i64 e', .int .i64 f', .int .i64 g', .int .i64 h'])).run Try.prog w = .ok (.bool (!eqR ⟨a, b, c, d, e, f, g, h⟩ ⟨a', b', c', d', e', f', g', h'⟩)) w := by
  rw [run_neq_struct, eq8 ⟨a, b, c, d, e, f, g, h⟩ ⟨a', b', c', d', e', f', g', h'⟩ w]
  rfl
theorem eql8 (a b c d e f g h a' b' c' d' e' f' g' h' : Int) (w : World) :
    (binOp .eql 27 (.agg #[.int .i64 a, .int .i64 b, .int .i64 c, .int .i64 d, .int .i64 e, .int .i64 f, .int .i64 g, .int .i64 h]) (.agg #[.int .i64 a', .int .i64 b', .int .i64 c', .int .i64 d', .int .i64 e', .int .i64 f', .int .i64 g', .int .i64 h'])).run Try.prog w = .ok (.bool (eqR ⟨a, b, c, d, e, f, g, h⟩ ⟨a', b', c', d', e', f', g', h'⟩)) w := by
  rw [run_eql_struct, eq8 ⟨a, b, c, d, e, f, g, h⟩ ⟨a', b', c', d', e', f', g', h'⟩ w]
  rfl

/-- the greatest number that a slot takes: of an owner, or of a value -/
def most (s : Int) : Int := if s < 0 then 3 else 9
/-- page, slot, old and new number are in range -/
def ofB (r : R) : Bool := inB r.p 0 4 && (inB r.s (-1) 2 && (inB r.o 0 (most r.s) && inB r.n 0 (most r.s)))
/-- the fields of its kind -/
def formB (r : R) : Bool :=
  if r.k = 1 then ofB r && (decide (0 ≤ r.s) && (r.x == 0))
  else if r.k = 2 then ofB r && (decide (r.s < 0) && (r.x == 0))
  else if r.k = 6 then ofB r && (r.o == 0)
  else if r.k = 3 then inB r.p 0 4 && ((r.s == 0) && ((r.o == 0) && ((r.n == 0) && (r.x == 0))))
  else if r.k = 4 ∨ r.k = 5 then (r.p == 0) && ((r.s == 0) && ((r.o == 0) && ((r.n == 0) && (r.x == 0))))
  else false
/-- a valid record -/
def okR (r : R) : Bool := (inB r.t 1 3 && (inB r.v 0 150 && inB r.x 0 150)) && formB r

set_option maxHeartbeats 1000000 in
theorem l2Of_any (r : R) (w : World) : Calls Try.prog 44 #[recV r] w (Keeps (.bool (ofB r)) w) := by
  by_cases hs : r.s < 0
  · have Hm : Hid (most r.s = 3) := by show most r.s = 3; simp [most, hs]
    go_enter Try.func44, Try.ntmps44
    go_wp2_with (go_at_call 43; refine (l6In_any _ _ _ _).mono ?_; rintro e w1 ⟨rfl, rfl⟩)
    all_goals
      go_ret
      exact ⟨ret_bool (by have hm := Hm.out; clear Hm; simp_all [ofB]), below_one _ _⟩
  · have Hm : Hid (most r.s = 9) := by show most r.s = 9; simp [most, hs]
    go_enter Try.func44, Try.ntmps44
    go_wp2_with (go_at_call 43; refine (l6In_any _ _ _ _).mono ?_; rintro e w1 ⟨rfl, rfl⟩)
    all_goals
      go_ret
      exact ⟨ret_bool (by have hm := Hm.out; clear Hm; simp_all [ofB]), below_one _ _⟩

theorem eight {w : World} {g : Nat} {t : TypeId} {a b c d e f x y : Value} (h : Has w g t #[a, b, c, d, e, f, x, y]) :
    w.cell? ⟨g, 0, none⟩ = some a ∧ w.cell? ⟨g, 1, none⟩ = some b ∧ w.cell? ⟨g, 2, none⟩ = some c ∧ w.cell? ⟨g, 3, none⟩ = some d ∧ w.cell? ⟨g, 4, none⟩ = some e ∧ w.cell? ⟨g, 5, none⟩ = some f ∧ w.cell? ⟨g, 6, none⟩ = some x ∧ w.cell? ⟨g, 7, none⟩ = some y :=
  ⟨h.cell 0, h.cell 1, h.cell 2, h.cell 3, h.cell 4, h.cell 5, h.cell 6, h.cell 7⟩

end Go.Proofs.Ytejbmjdipfcblaa.Base
