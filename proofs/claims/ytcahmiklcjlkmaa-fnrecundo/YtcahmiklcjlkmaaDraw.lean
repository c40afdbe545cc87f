/-
  Contracts of the model's drawing of pages: l71Page, DrawPageOk, DrawPageEmpty. Only the form of a drawn page is said. Conditions: the code is a slice of bytes.
-/
import Derived.Test.YtcahmiklcjlkmaaPick
import Derived.Deep.RegionHeld3
import Derived.Deep.DeepCutAuto
namespace Go.Proofs.Ytcahmiklcjlkmaa.Base
open Go.RowKit

/-- the numbers of a drawn page: two or three values, all small -/
structure Small (l o : Int) (zs : List Int) : Prop where
  most : zs.length ≤ 3
  least : 2 ≤ zs.length
  vals : ∀ j, j < zs.length → -1 ≤ zs.getD j 0 ∧ zs.getD j 0 ≤ 12
  lsn : -1 ≤ l ∧ l ≤ 151
  own : -1 ≤ o ∧ o ≤ 4

/-- a page that lies in memory of the call's own: its slots in block g from q on -/
def Drawn (B : Nat) (e : Ending) (w' : World) : Prop :=
  ∃ (l o : Int) (zs : List Int) (g q cap : Nat), e = .returned (pageV l o (some ⟨g, q, none⟩) zs.length cap) ∧ Rd .i64 w' g q zs ∧ Wr w' g q zs.length ∧ B ≤ g ∧ zs.length ≤ cap ∧ cap ≤ 3 ∧ Small l o zs

/-- what l71Page leaves: a drawn page; the reader has gone on -/
def DrawnBy (g : Nat) (a : Option Addr) (bs : List Int) (cap : Nat) (B : Nat) (m : Int) (w : World) (e : Ending) (w' : World) : Prop :=
  Drawn w.heap.size e w' ∧ w.grownBy w' (some g) ∧ ∃ p, p ≤ m ∧ Rdr w' g a bs cap p B

/-- where a drawing of a page stands: the reader in block g; the result's block R, still empty; the page in block pb, its slots in block g1 from q on; of what was there in w0 only the reader has turned -/
structure St (w0 w : World) (g : Nat) (a : Option Addr) (bs : List Int) (cap B R pb g1 q c : Nat) (l o : Int) (zs : List Int) (p : Int) : Prop where
  rdr : Rdr w g a bs cap p B
  res : Has w R 34 #[.int .i64 0, .int .i64 0, .slice none 0 0]
  box : Has w pb 34 #[.int .i64 l, .int .i64 o, .slice (some ⟨g1, q, none⟩) zs.length c]
  rd : Rd .i64 w g1 q zs
  wr : Wr w g1 q zs.length
  base : B ≤ R
  low : w0.heap.size ≤ R
  mid : R < g1 ∧ g < g1 ∧ R ≠ g
  ord : g1 < pb
  grown : w0.grownBy w (some g)
  fit : zs.length ≤ c ∧ c ≤ 3
  small : Small l o zs

section
variable {w0 w w' : World} {g : Nat} {a : Option Addr} {bs : List Int} {cap B R pb g1 q c : Nat} {l o : Int} {zs : List Int} {p : Int}
theorem grown_two {x y z : World} {r : Option Nat} (h : x.grownBy y r) (k : y.grownBy z r) : x.grownBy z r :=
  ⟨k.os.trans h.os, k.tape.trans h.tape, k.output.trans h.output, Nat.le_trans h.size k.size, fun i hi hn => (k.block i (Nat.lt_of_lt_of_le hi h.size) hn).trans (h.block i hi hn)⟩
theorem grown_draws {x y : World} {r : Option Nat} (h : x.grownBy y r) (m : Nat) : x.grownBy (y.drewN m) r := ⟨h.os, h.tape, h.output, h.size, h.block⟩
theorem grown_far {x y : World} {r : Option Nat} (h : x.grownBy y r) {i b : Nat} (hb : x.heap.size ≤ b) (u : Value) : x.grownBy (y.setCell ⟨b, i, none⟩ u) r :=
  ⟨h.os, h.tape, h.output, by rw [size_set]; exact h.size, fun k hk hn => (Below.heap_setCell y _ u k (by simp; omega)).trans (h.block k hk hn)⟩
theorem grown_alloc {x y : World} {r : Option Nat} (h : x.grownBy y r) (ob : Obj) : x.grownBy (y.alloc ob) r :=
  ⟨h.os, h.tape, h.output, Nat.le_trans h.size (by simp), fun k hk hn => (Below.heap_alloc y ob k (Nat.lt_of_lt_of_le hk h.size)).trans (h.block k hk hn)⟩
theorem grown_below {x y : World} (h : Below x.heap.size x y) (r : Option Nat) : x.grownBy y r := ⟨h.os, h.tape, h.output, h.size, fun i hi _ => h.block i hi⟩
theorem Rdr.keep (h : Rdr w g a bs cap p B) (e : w'.heap[g]? = w.heap[g]?) (e' : ∀ i, i < B → w'.heap[i]? = w.heap[i]?) : Rdr w' g a bs cap p B :=
  ⟨h.has.keep e, h.ints.keep e', h.apart, h.bytes, h.short, h.low⟩
theorem Rdr.drewN (h : Rdr w g a bs cap p B) (m : Nat) : Rdr (w.drewN m) g a bs cap p B := h.keep rfl fun _ _ => rfl
theorem Rdr.below (h : Rdr w g a bs cap p B) {N : Nat} (hb : Below N w w') (hg : g < N) : Rdr w' g a bs cap p B := h.keep (hb.block g hg) fun i hi => hb.block i (by have := h.apart; omega)

theorem St.pick (h : St w0 w g a bs cap B R pb g1 q c l o zs p) {p' : Int} (hg : w.grownBy w' (some g)) (hr : Rdr w' g a bs cap p' B) : St w0 w' g a bs cap B R pb g1 q c l o zs p' := by
  have hm := h.mid
  have ho := h.ord
  have n1 : some R ≠ some g := fun e => by injection e; omega
  have n2 : some pb ≠ some g := fun e => by injection e; omega
  have n3 : some g1 ≠ some g := fun e => by injection e; omega
  exact ⟨hr, h.res.grown hg n1, h.box.grown hg n2, h.rd.grown hg h.wr.1 n3, h.wr.grown hg n3, h.base, h.low, h.mid, h.ord, grown_two h.grown hg, h.fit, h.small⟩
theorem St.drewN (h : St w0 w g a bs cap B R pb g1 q c l o zs p) (m : Nat) : St w0 (w.drewN m) g a bs cap B R pb g1 q c l o zs p :=
  ⟨h.rdr.drewN m, h.res, h.box, h.rd, h.wr, h.base, h.low, h.mid, h.ord, grown_draws h.grown m, h.fit, h.small⟩
theorem St.drew (h : St w0 w g a bs cap B R pb g1 q c l o zs p) : St w0 w.drew g a bs cap B R pb g1 q c l o zs p := h.drewN 1
theorem St.alloc (h : St w0 w g a bs cap B R pb g1 q c l o zs p) (ob : Obj) : St w0 (w.alloc ob) g a bs cap B R pb g1 q c l o zs p :=
  ⟨h.rdr.below (below_one w ob) h.rdr.has.lt, h.res.alloc ob, h.box.alloc ob, h.rd.below (below_one w ob) h.wr.1, h.wr.below (below_one w ob) h.wr.1, h.base, h.low, h.mid, h.ord, grown_alloc h.grown ob, h.fit, h.small⟩
/-- a store into the page's own block -/
theorem St.setBox (h : St w0 w g a bs cap B R pb g1 q c l o zs p) (i : Nat) (u : Value) (l' o' : Int) (zs' : List Int) (q' c' : Nat)
    (hb : #[Value.int .i64 l, .int .i64 o, .slice (some ⟨g1, q, none⟩) zs.length c].setIfInBounds i u = #[.int .i64 l', .int .i64 o', .slice (some ⟨g1, q', none⟩) zs'.length c'])
    (hr : Rd .i64 w g1 q' zs') (hw : Wr w g1 q' zs'.length) (hf : zs'.length ≤ c' ∧ c' ≤ 3) (hs : Small l' o' zs') : St w0 (w.setCell ⟨pb, i, none⟩ u) g a bs cap B R pb g1 q' c' l' o' zs' p := by
  have n0 := h.low
  have n1 := h.ord
  have n2 := h.mid
  have n3 := h.base
  exact ⟨h.rdr.keep (Below.heap_setCell w _ u _ (by simp; omega)) (fun i hi => Below.heap_setCell w _ u i (by simp; omega)), h.res.far (by simp; omega) u, by rw [← hb]; exact h.box.set i u, hr.keep (Below.heap_setCell w _ u _ (by simp; omega)), hw.set _ _, h.base, h.low, h.mid, h.ord, grown_far h.grown (by omega) u, hf, hs⟩

theorem getD_set (zs : List Int) (t j : Nat) (v : Int) (hj : j < zs.length) : (zs.set t v).getD j 0 = if j = t then v else zs.getD j 0 := by
  simp only [List.getD_eq_getElem?_getD, List.getElem?_set]
  by_cases e : j = t
  · subst e; simp [hj]
  · simp [e, Ne.symm e]
theorem Small.set (h : Small l o zs) (t : Nat) (v : Int) (h0 : -1 ≤ v) (h1 : v ≤ 12) : Small l o (zs.set t v) :=
  ⟨by simpa using h.most, by simpa using h.least, fun j hj => by
    rw [List.length_set] at hj
    rw [getD_set zs t j v hj]
    split
    · exact ⟨h0, h1⟩
    · exact h.vals j hj, h.lsn, h.own⟩

/-- a store into a slot -/
theorem St.setSlot (h : St w0 w g a bs cap B R pb g1 q c l o zs p) (t : Nat) (v : Int) (ht : t < zs.length) (h0 : -1 ≤ v) (h1 : v ≤ 12) : St w0 (w.setCell ⟨g1, q + t, none⟩ (.int .i64 v)) g a bs cap B R pb g1 q c l o (zs.set t v) p := by
  have n0 := h.low
  have n1 := h.ord
  have n2 := h.mid
  have n3 := h.base
  refine ⟨h.rdr.keep (Below.heap_setCell w _ _ _ (by simp; omega)) (fun i hi => Below.heap_setCell w _ _ i (by simp; omega)), h.res.far (by simp; omega) _, ?_, fun j hj => ?_, ?_, h.base, h.low, h.mid, h.ord, grown_far h.grown (by omega) _, by rw [List.length_set]; exact h.fit, h.small.set t v h0 h1⟩
  · rw [List.length_set]
    exact h.box.far (by simp; omega) _
  · rw [List.length_set] at hj
    rw [cell_set w g1 q j t _ _ (h.rd t ht), getD_set zs t j v hj, h.rd j hj]
    split <;> rfl
  · rw [List.length_set]
    exact h.wr.set _ _

end

/-- some page is where it should be: what stays true from statement to statement -/
def At (w0 w : World) (g : Nat) (a : Option Addr) (bs : List Int) (cap B R pb g1 : Nat) (m : Int) : Prop :=
  ∃ (q : Nat) (l o : Int) (zs : List Int) (p : Int), p ≤ m ∧ zs.length = 3 ∧ St w0 w g a bs cap B R pb g1 q 3 l o zs p

theorem St.finish {w0 w : World} {g : Nat} {a : Option Addr} {bs : List Int} {cap B R pb g1 q c : Nat} {l o : Int} {zs : List Int} {p : Int} (h : St w0 w g a bs cap B R pb g1 q c l o zs p) {m : Int} (hp : p ≤ m) :
    DrawnBy g a bs cap B m w0 (.returned (pageV l o (some ⟨g1, q, none⟩) zs.length c)) (((w.setCell ⟨R, 0, none⟩ (.int .i64 l)).setCell ⟨R, 1, none⟩ (.int .i64 o)).setCell ⟨R, 2, none⟩ (.slice (some ⟨g1, q, none⟩) zs.length c)) := by
  have n0 := h.low
  have n1 := h.base
  have n2 := h.mid
  have e : ∀ i, i ≠ R → (((w.setCell ⟨R, 0, none⟩ (.int .i64 l)).setCell ⟨R, 1, none⟩ (.int .i64 o)).setCell ⟨R, 2, none⟩ (.slice (some ⟨g1, q, none⟩) zs.length c)).heap[i]? = w.heap[i]? := fun i hi => by
    rw [Below.heap_setCell _ _ _ _ (by simpa using hi), Below.heap_setCell _ _ _ _ (by simpa using hi), Below.heap_setCell _ _ _ _ (by simpa using hi)]
  refine ⟨⟨l, o, zs, g1, q, c, rfl, h.rd.keep (e g1 (by omega)), ((h.wr.set _ _).set _ _).set _ _, by omega, h.fit.1, h.fit.2, h.small⟩, ?_, p, hp, h.rdr.keep (e g (by omega)) (fun i hi => e i (by omega))⟩
  exact grown_far (grown_far (grown_far h.grown n0 _) n0 _) n0 _

end Go.Proofs.Ytcahmiklcjlkmaa.Base
