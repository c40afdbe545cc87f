/-
  Contracts of the model's drawing of numbers: l6Open and pick. Only that a drawn number lies in its range is said, not which one it is. Conditions: the code is a slice of bytes.
-/
import Derived.Test.YtejbmjdipfcblaaGroundK
import Derived.IntWalk
import Derived.Laws.BitsAllLaws
import Derived.Laws.BitsLemmas
import Derived.Deep.RegionHeld3
import Derived.Deep.DeepCutAuto
namespace Go.Proofs.Ytejbmjdipfcblaa.Base
open Go.RowKit

/-- a reader: its bytes, and its place -/
structure Rdr (w : World) (g : Nat) (a : Option Addr) (zs : List Int) (cap : Nat) (p : Int) (B : Nat) : Prop where
  has : Has w g 56 #[.slice a zs.length cap, .int .i64 p]
  ints : Ints .u8 w B a zs
  apart : B ≤ g
  bytes : ∀ j, j < zs.length → 0 ≤ zs.getD j 0 ∧ zs.getD j 0 ≤ 255
  short : zs.length ≤ 2000
  low : 0 ≤ p

/-- what pick leaves: a number in its range; the reader is one place on -/
def Picked (n : Int) (g : Nat) (a : Option Addr) (zs : List Int) (cap : Nat) (p : Int) (B : Nat) (w : World) (e : Ending) (w' : World) : Prop :=
  ∃ v, e = .returned (.int .i64 v) ∧ 0 ≤ v ∧ (1 ≤ n → v < n) ∧ w.grownBy w' (some g) ∧ w'.heap.size = w.heap.size ∧ Rdr w' g a zs cap (p + 1) B

theorem Rdr.next {w : World} {g : Nat} {a : Option Addr} {zs : List Int} {cap : Nat} {p : Int} {B : Nat} (h : Rdr w g a zs cap p B) (m : Nat) :
    w.grownBy ((w.setCell ⟨g, 1, none⟩ (.int .i64 (p + 1))).drewN m) (some g) ∧ ((w.setCell ⟨g, 1, none⟩ (.int .i64 (p + 1))).drewN m).heap.size = w.heap.size ∧
      Rdr ((w.setCell ⟨g, 1, none⟩ (.int .i64 (p + 1))).drewN m) g a zs cap (p + 1) B := by
  have hg := grown_set (World.grownBy.refl w (some g)) (i := 1) (Value.int .i64 (p + 1))
  have hg' : w.grownBy ((w.setCell ⟨g, 1, none⟩ (.int .i64 (p + 1))).drewN m) (some g) := ⟨hg.os, hg.tape, hg.output, hg.size, hg.block⟩
  refine ⟨hg', size_set _ _ _, (h.has.set 1 _).drewN m, ?_, h.apart, h.bytes, h.short, by have := h.low; omega⟩
  exact (h.ints.keep (fun i hi => Below.heap_setCell w _ _ i (by have := h.apart; simp; omega))).drewN m

theorem xor_low (a b : Int) (ha : 0 ≤ a) (hb : 0 ≤ b) (ha' : a < 1000000000000) (hb' : b < 1000000000000) : 0 ≤ bits .xor .i64 a b := by
  obtain ⟨m, rfl⟩ := Int.eq_ofNat_of_zero_le ha
  obtain ⟨n, rfl⟩ := Int.eq_ofNat_of_zero_le hb
  have hm : (BitVec.ofInt 64 (m : Int)).toNat = m := by
    rw [BitVec.ofInt_natCast, BitVec.toNat_ofNat]
    exact Nat.mod_eq_of_lt (by omega)
  have hn : (BitVec.ofInt 64 (n : Int)).toNat = n := by
    rw [BitVec.ofInt_natCast, BitVec.toNat_ofNat]
    exact Nat.mod_eq_of_lt (by omega)
  have hx : m ^^^ n < 2 ^ 63 := Nat.xor_lt_two_pow (by omega) (by omega)
  show 0 ≤ IntKind.i64.wrap ((BitVec.ofInt 64 (m : Int) ^^^ BitVec.ofInt 64 (n : Int)).toNat : Int)
  rw [BitVec.toNat_xor, hm, hn, IntKind.wrap_i64]
  omega

set_option maxHeartbeats 2000000 in
theorem pick_any (n : Int) (g : Nat) (a : Option Addr) (zs : List Int) (cap : Nat) (p : Int) (B : Nat) (w : World) (h : Rdr w g a zs cap p B) (hp : p ≤ 1000000000) (hn : n ≤ 1000000000) (hn' : -1000000000 ≤ n) :
    Calls Try.prog 29 #[.pointer (some ⟨g, 0, none⟩), .int .i64 n] w (Picked n g a zs cap p B w) := by
  have hh := h.has
  have c0 := hh.cell 0
  have c1 := hh.cell 1
  have f1 := hh.frozen 1
  simp at c0 c1
  have Hh := Lib.hid h
  have h2 := h.short
  have h3 := h.low
  clear h hh
  by_cases n1 : n < 1
  · go_enter Try.func29, Try.ntmps29
    go_wp2
    go_ret
    exact ⟨0, rfl, by omega, fun h => absurd h (by omega), Hh.out.next 0⟩
  by_cases z0 : zs.length = 0
  · have b0 : ((zs.length : Int) == 0) = true := by simp [z0]
    clear z0
    go_enter Try.func29, Try.ntmps29
    go_wp2
    go_ret
    exact ⟨0, rfl, by omega, fun h => by omega, Hh.out.next 0⟩
  have z1 : 0 < zs.length := by omega
  have b0 : ((zs.length : Int) == 0) = false := by rw [beq_eq_false_iff_ne]; omega
  clear z0
  have hn1 : 1 ≤ n := by omega
  obtain ⟨g', o, rfl, hg', hr⟩ := Hh.out.ints z1
  have hne : g' < g := Nat.lt_of_lt_of_le hg' Hh.out.apart
  obtain ⟨k, hk⟩ : ∃ k : Nat, p = k := Int.eq_ofNat_of_zero_le h3
  subst hk
  by_cases hkl : k < zs.length
  · have d0 := hr k hkl
    have hb := Hh.out.bytes k hkl
    generalize zs.getD k 0 = v at d0 hb
    have q0 := Int.emod_nonneg v (show n ≠ 0 by omega)
    have q1 := Int.emod_lt_of_pos v (show 0 < n by omega)
    clear hr
    go_enter Try.func29, Try.ntmps29
    go_wp2
    go_ret
    exact ⟨v % n, rfl, q0, fun _ => q1, Hh.out.next 0⟩
  · have hk' : zs.length ≤ k := by omega
    have hm1 : k % zs.length < zs.length := Nat.mod_lt _ z1
    have hm2 : (k * 7 + 3) % zs.length < zs.length := Nat.mod_lt _ z1
    have d1 := hr (k % zs.length) hm1
    have d2 := hr ((k * 7 + 3) % zs.length) hm2
    have hb1 := Hh.out.bytes _ hm1
    have hb2 := Hh.out.bytes _ hm2
    generalize zs.getD (k % zs.length) 0 = v1 at d1 hb1
    generalize zs.getD ((k * 7 + 3) % zs.length) 0 = v2 at d2 hb2
    clear hr b0
    have hz0 : ¬ (zs.length = 0) := by omega
    have b1 : ((zs.length : Int) == 0) = false := by rw [beq_eq_false_iff_ne]; omega
    generalize zs.length = N at *
    generalize hi1 : k % N = i1 at *
    generalize hi2 : (k * 7 + 3) % N = i2 at *
    generalize hq : k / N = q at *
    have hq' : q ≤ k := by rw [← hq]; exact Nat.div_le_self _ _
    have w1 : IntKind.i64.wrap (i1 : Int) = i1 := IntWalk.i64_in _ (by omega)
    have w2 : IntKind.i64.wrap ((k : Int) * 7) = (k : Int) * 7 := IntWalk.i64_in _ (by omega)
    have w3 : IntKind.i64.wrap ((k : Int) * 7 + 3) = (k : Int) * 7 + 3 := IntWalk.i64_in _ (by omega)
    have w4 : IntKind.i64.wrap (i2 : Int) = i2 := IntWalk.i64_in _ (by omega)
    have w5 : IntKind.i64.wrap (v1 * 131) = v1 * 131 := IntWalk.i64_in _ (by omega)
    have w6 : IntKind.i64.wrap (v2 * 1117) = v2 * 1117 := IntWalk.i64_in _ (by omega)
    have w7 : IntKind.i64.wrap (v1 * 131 + v2 * 1117) = v1 * 131 + v2 * 1117 := IntWalk.i64_in _ (by omega)
    have w8 : IntKind.i64.wrap ((k : Int) * 29) = (k : Int) * 29 := IntWalk.i64_in _ (by omega)
    have w9 : IntKind.i64.wrap (v1 * 131 + v2 * 1117 + (k : Int) * 29) = v1 * 131 + v2 * 1117 + (k : Int) * 29 := IntWalk.i64_in _ (by omega)
    have w10 : IntKind.i64.wrap (q : Int) = q := IntWalk.i64_in _ (by omega)
    have w11 : IntKind.i64.wrap ((q : Int) * 53) = (q : Int) * 53 := IntWalk.i64_in _ (by omega)
    have w12 : IntKind.i64.wrap (v1 * 131 + v2 * 1117 + (k : Int) * 29 + (q : Int) * 53) = v1 * 131 + v2 * 1117 + (k : Int) * 29 + (q : Int) * 53 := IntWalk.i64_in _ (by omega)
    have w13 : IntKind.i64.wrap v1 = v1 := IntWalk.i64_in _ (by omega)
    have w14 : IntKind.i64.wrap v2 = v2 := IntWalk.i64_in _ (by omega)
    have t1 : ((k : Nat) : Int).tmod (N : Int) = (i1 : Int) := by rw [← hi1]; rfl
    have t2 : ((k : Int) * 7 + 3).tmod (N : Int) = (i2 : Int) := by rw [← hi2]; rfl
    have t3 : ((k : Nat) : Int).tdiv (N : Int) = (q : Int) := by rw [← hq]; rfl
    have hx0 : 0 ≤ v1 * 131 + v2 * 1117 + (k : Int) * 29 + (q : Int) * 53 := by omega
    have hx1 : v1 * 131 + v2 * 1117 + (k : Int) * 29 + (q : Int) * 53 ≤ 200000000000 := by omega
    have Hi1 := Lib.hid hi1
    have Hi2 := Lib.hid hi2
    have Hq := Lib.hid hq
    clear hi1 hi2 hq
    go_enter Try.func29, Try.ntmps29
    go_wp2
    go_quiet (fail)
    clear w1 w2 w3 w4 w5 w6 w7 w8 w9 w10 w11 w12 w13 w14 t1 t2 t3 d1 d2
    generalize v1 * 131 + v2 * 1117 + (k : Int) * 29 + (q : Int) * 53 = x at *
    go_wp2
    go_ret
    have hy := xor_low x (x / 64) hx0 (by omega) (by omega) (by omega)
    refine ⟨(bits .xor .i64 x (x / 64)).tmod n, rfl, ?_, fun _ => ?_, Hh.out.next _⟩
    · rw [Int.tmod_eq_emod_of_nonneg hy]
      exact Int.emod_nonneg _ (by omega)
    · rw [Int.tmod_eq_emod_of_nonneg hy]
      exact Int.emod_lt_of_pos _ (by omega)

/-- what l6Open leaves: a reader at its first place -/
def Opened (B : Nat) (w : World) (e : Ending) (w' : World) : Prop :=
  ∃ (a : Option Addr) (zs : List Int) (cap : Nat), e = .returned (.pointer (some ⟨w.heap.size, 0, none⟩)) ∧ Below w.heap.size w w' ∧ Rdr w' w.heap.size a zs cap 0 B

set_option maxHeartbeats 1000000 in
theorem l6Open_any (a : Option Addr) (zs : List Int) (cap B : Nat) (w : World) (hB : B ≤ w.heap.size) (hz : Ints .u8 w B a zs) (hb : ∀ j, j < zs.length → 0 ≤ zs.getD j 0 ∧ zs.getD j 0 ≤ 255) (hc : zs.length ≤ cap) (hm : cap ≤ maxLen) :
    Calls Try.prog 27 #[.slice a zs.length cap] w (Opened B w) := by
  have Hz := Lib.hid hz
  have Hb := Lib.hid hb
  clear hz hb
  unfold maxLen at hm
  by_cases h : (2000 : Int) < zs.length
  · have hl : (zs.take 2000).length = 2000 := by rw [List.length_take]; omega
    have Hl := Lib.hid hl
    clear hl
    have hc' : 2000 ≤ cap := by omega
    go_enter Try.func27, Try.ntmps27
    go_wp2
    go_ret
    refine ⟨a, zs.take 2000, cap, rfl, below_one _ _, by rw [Hl.out]; exact Has.new _ _ _, (Hz.out.take 2000).below ((below_one _ _).mono hB), hB, fun j hj => ?_, by rw [Hl.out]; omega, by omega⟩
    rw [Hl.out] at hj
    have := Hb.out j (by omega)
    simpa [List.getD_eq_getElem?_getD, show j < 2000 by omega] using this
  · go_enter Try.func27, Try.ntmps27
    go_wp2
    go_ret
    refine ⟨a, zs, cap, rfl, below_one _ _, Has.new _ _ _, Hz.out.below ((below_one _ _).mono hB), hB, Hb.out, by omega, by omega⟩
end Go.Proofs.Ytejbmjdipfcblaa.Base

/-
  Contracts of the model's drawing of pages: l71Page, DrawPageOk, DrawPageEmpty. Only the form of a drawn page is said. Conditions: the code is a slice of bytes.
-/
namespace Go.Proofs.Ytejbmjdipfcblaa.Base
open Go.RowKit

/-- the numbers of a drawn page: two or three values, all small -/
structure Small (l o : Int) (zs : List Int) : Prop where
  most : zs.length ≤ 3
  least : 2 ≤ zs.length
  vals : ∀ j, j < zs.length → -1 ≤ zs.getD j 0 ∧ zs.getD j 0 ≤ 12
  lsn : -1 ≤ l ∧ l ≤ 151
  own : -1 ≤ o ∧ o ≤ 4

/-- a page that lies in memory of the call's own: its slots in block g from q on -/
def Drawn (B : Nat) (e : Ending) (w' : World) : Prop :=
  ∃ (l o : Int) (zs : List Int) (g q cap : Nat), e = .returned (pageV l o (some ⟨g, q, none⟩) zs.length cap) ∧ Rd .i64 w' g q zs ∧ Wr w' g q zs.length ∧ B ≤ g ∧ zs.length ≤ cap ∧ cap ≤ 3 ∧ Small l o zs

/-- what l71Page leaves: a drawn page; the reader has gone on -/
def DrawnBy (g : Nat) (a : Option Addr) (bs : List Int) (cap : Nat) (B : Nat) (m : Int) (w : World) (e : Ending) (w' : World) : Prop :=
  Drawn w.heap.size e w' ∧ w.grownBy w' (some g) ∧ ∃ p, p ≤ m ∧ Rdr w' g a bs cap p B

/-- where a drawing of a page stands: the reader in block g; the result's block R, still empty; the page in block pb, its slots in block g1 from q on; of what was there in w0 only the reader has turned -/
structure St (w0 w : World) (g : Nat) (a : Option Addr) (bs : List Int) (cap B R pb g1 q c : Nat) (l o : Int) (zs : List Int) (p : Int) : Prop where
  rdr : Rdr w g a bs cap p B
  res : Has w R 94 #[.int .i64 0, .int .i64 0, .slice none 0 0]
  box : Has w pb 94 #[.int .i64 l, .int .i64 o, .slice (some ⟨g1, q, none⟩) zs.length c]
  rd : Rd .i64 w g1 q zs
  wr : Wr w g1 q zs.length
  base : B ≤ R
  low : w0.heap.size ≤ R
  mid : R < g1 ∧ g < g1 ∧ R ≠ g
  ord : g1 < pb
  grown : w0.grownBy w (some g)
  fit : zs.length ≤ c ∧ c ≤ 3
  small : Small l o zs

section
variable {w0 w w' : World} {g : Nat} {a : Option Addr} {bs : List Int} {cap B R pb g1 q c : Nat} {l o : Int} {zs : List Int} {p : Int}
theorem grown_two {x y z : World} {r : Option Nat} (h : x.grownBy y r) (k : y.grownBy z r) : x.grownBy z r :=
  ⟨k.os.trans h.os, k.tape.trans h.tape, k.output.trans h.output, Nat.le_trans h.size k.size, fun i hi hn => (k.block i (Nat.lt_of_lt_of_le hi h.size) hn).trans (h.block i hi hn)⟩
theorem grown_draws {x y : World} {r : Option Nat} (h : x.grownBy y r) (m : Nat) : x.grownBy (y.drewN m) r := ⟨h.os, h.tape, h.output, h.size, h.block⟩
theorem grown_far {x y : World} {r : Option Nat} (h : x.grownBy y r) {i b : Nat} (hb : x.heap.size ≤ b) (u : Value) : x.grownBy (y.setCell ⟨b, i, none⟩ u) r :=
  ⟨h.os, h.tape, h.output, by rw [size_set]; exact h.size, fun k hk hn => (Below.heap_setCell y _ u k (by simp; omega)).trans (h.block k hk hn)⟩
theorem grown_alloc {x y : World} {r : Option Nat} (h : x.grownBy y r) (ob : Obj) : x.grownBy (y.alloc ob) r :=
  ⟨h.os, h.tape, h.output, Nat.le_trans h.size (by simp), fun k hk hn => (Below.heap_alloc y ob k (Nat.lt_of_lt_of_le hk h.size)).trans (h.block k hk hn)⟩
theorem grown_below {x y : World} (h : Below x.heap.size x y) (r : Option Nat) : x.grownBy y r := ⟨h.os, h.tape, h.output, h.size, fun i hi _ => h.block i hi⟩
theorem Rdr.keep (h : Rdr w g a bs cap p B) (e : w'.heap[g]? = w.heap[g]?) (e' : ∀ i, i < B → w'.heap[i]? = w.heap[i]?) : Rdr w' g a bs cap p B :=
  ⟨h.has.keep e, h.ints.keep e', h.apart, h.bytes, h.short, h.low⟩
theorem Rdr.drewN (h : Rdr w g a bs cap p B) (m : Nat) : Rdr (w.drewN m) g a bs cap p B := h.keep rfl fun _ _ => rfl
theorem Rdr.below (h : Rdr w g a bs cap p B) {N : Nat} (hb : Below N w w') (hg : g < N) : Rdr w' g a bs cap p B := h.keep (hb.block g hg) fun i hi => hb.block i (by have := h.apart; omega)

theorem St.pick (h : St w0 w g a bs cap B R pb g1 q c l o zs p) {p' : Int} (hg : w.grownBy w' (some g)) (hr : Rdr w' g a bs cap p' B) : St w0 w' g a bs cap B R pb g1 q c l o zs p' := by
  have hm := h.mid
  have ho := h.ord
  have n1 : some R ≠ some g := fun e => by injection e; omega
  have n2 : some pb ≠ some g := fun e => by injection e; omega
  have n3 : some g1 ≠ some g := fun e => by injection e; omega
  exact ⟨hr, h.res.grown hg n1, h.box.grown hg n2, h.rd.grown hg h.wr.1 n3, h.wr.grown hg n3, h.base, h.low, h.mid, h.ord, grown_two h.grown hg, h.fit, h.small⟩
theorem St.drewN (h : St w0 w g a bs cap B R pb g1 q c l o zs p) (m : Nat) : St w0 (w.drewN m) g a bs cap B R pb g1 q c l o zs p :=
  ⟨h.rdr.drewN m, h.res, h.box, h.rd, h.wr, h.base, h.low, h.mid, h.ord, grown_draws h.grown m, h.fit, h.small⟩
theorem St.drew (h : St w0 w g a bs cap B R pb g1 q c l o zs p) : St w0 w.drew g a bs cap B R pb g1 q c l o zs p := h.drewN 1
theorem St.alloc (h : St w0 w g a bs cap B R pb g1 q c l o zs p) (ob : Obj) : St w0 (w.alloc ob) g a bs cap B R pb g1 q c l o zs p :=
  ⟨h.rdr.below (below_one w ob) h.rdr.has.lt, h.res.alloc ob, h.box.alloc ob, h.rd.below (below_one w ob) h.wr.1, h.wr.below (below_one w ob) h.wr.1, h.base, h.low, h.mid, h.ord, grown_alloc h.grown ob, h.fit, h.small⟩
/-- a store into the page's own block -/
theorem St.setBox (h : St w0 w g a bs cap B R pb g1 q c l o zs p) (i : Nat) (u : Value) (l' o' : Int) (zs' : List Int) (q' c' : Nat)
    (hb : #[Value.int .i64 l, .int .i64 o, .slice (some ⟨g1, q, none⟩) zs.length c].setIfInBounds i u = #[.int .i64 l', .int .i64 o', .slice (some ⟨g1, q', none⟩) zs'.length c'])
    (hr : Rd .i64 w g1 q' zs') (hw : Wr w g1 q' zs'.length) (hf : zs'.length ≤ c' ∧ c' ≤ 3) (hs : Small l' o' zs') : St w0 (w.setCell ⟨pb, i, none⟩ u) g a bs cap B R pb g1 q' c' l' o' zs' p := by
  have n0 := h.low
  have n1 := h.ord
  have n2 := h.mid
  have n3 := h.base
  exact ⟨h.rdr.keep (Below.heap_setCell w _ u _ (by simp; omega)) (fun i hi => Below.heap_setCell w _ u i (by simp; omega)), h.res.far (by simp; omega) u, by rw [← hb]; exact h.box.set i u, hr.keep (Below.heap_setCell w _ u _ (by simp; omega)), hw.set _ _, h.base, h.low, h.mid, h.ord, grown_far h.grown (by omega) u, hf, hs⟩

theorem getD_set (zs : List Int) (t j : Nat) (v : Int) (hj : j < zs.length) : (zs.set t v).getD j 0 = if j = t then v else zs.getD j 0 := by
  simp only [List.getD_eq_getElem?_getD, List.getElem?_set]
  by_cases e : j = t
  · subst e; simp [hj]
  · simp [e, Ne.symm e]
theorem Small.set (h : Small l o zs) (t : Nat) (v : Int) (h0 : -1 ≤ v) (h1 : v ≤ 12) : Small l o (zs.set t v) :=
  ⟨by simpa using h.most, by simpa using h.least, fun j hj => by
    rw [List.length_set] at hj
    rw [getD_set zs t j v hj]
    split
    · exact ⟨h0, h1⟩
    · exact h.vals j hj, h.lsn, h.own⟩

/-- a store into a slot -/
theorem St.setSlot (h : St w0 w g a bs cap B R pb g1 q c l o zs p) (t : Nat) (v : Int) (ht : t < zs.length) (h0 : -1 ≤ v) (h1 : v ≤ 12) : St w0 (w.setCell ⟨g1, q + t, none⟩ (.int .i64 v)) g a bs cap B R pb g1 q c l o (zs.set t v) p := by
  have n0 := h.low
  have n1 := h.ord
  have n2 := h.mid
  have n3 := h.base
  refine ⟨h.rdr.keep (Below.heap_setCell w _ _ _ (by simp; omega)) (fun i hi => Below.heap_setCell w _ _ i (by simp; omega)), h.res.far (by simp; omega) _, ?_, fun j hj => ?_, ?_, h.base, h.low, h.mid, h.ord, grown_far h.grown (by omega) _, by rw [List.length_set]; exact h.fit, h.small.set t v h0 h1⟩
  · rw [List.length_set]
    exact h.box.far (by simp; omega) _
  · rw [List.length_set] at hj
    rw [cell_set w g1 q j t _ _ (h.rd t ht), getD_set zs t j v hj, h.rd j hj]
    split <;> rfl
  · rw [List.length_set]
    exact h.wr.set _ _

end

/-- some page is where it should be: what stays true from statement to statement -/
def AtD (w0 w : World) (g : Nat) (a : Option Addr) (bs : List Int) (cap B R pb g1 : Nat) (m : Int) : Prop :=
  ∃ (q : Nat) (l o : Int) (zs : List Int) (p : Int), p ≤ m ∧ zs.length = 3 ∧ St w0 w g a bs cap B R pb g1 q 3 l o zs p

theorem St.finish {w0 w : World} {g : Nat} {a : Option Addr} {bs : List Int} {cap B R pb g1 q c : Nat} {l o : Int} {zs : List Int} {p : Int} (h : St w0 w g a bs cap B R pb g1 q c l o zs p) {m : Int} (hp : p ≤ m) :
    DrawnBy g a bs cap B m w0 (.returned (pageV l o (some ⟨g1, q, none⟩) zs.length c)) (((w.setCell ⟨R, 0, none⟩ (.int .i64 l)).setCell ⟨R, 1, none⟩ (.int .i64 o)).setCell ⟨R, 2, none⟩ (.slice (some ⟨g1, q, none⟩) zs.length c)) := by
  have n0 := h.low
  have n1 := h.base
  have n2 := h.mid
  have e : ∀ i, i ≠ R → (((w.setCell ⟨R, 0, none⟩ (.int .i64 l)).setCell ⟨R, 1, none⟩ (.int .i64 o)).setCell ⟨R, 2, none⟩ (.slice (some ⟨g1, q, none⟩) zs.length c)).heap[i]? = w.heap[i]? := fun i hi => by
    rw [Below.heap_setCell _ _ _ _ (by simpa using hi), Below.heap_setCell _ _ _ _ (by simpa using hi), Below.heap_setCell _ _ _ _ (by simpa using hi)]
  refine ⟨⟨l, o, zs, g1, q, c, rfl, h.rd.keep (e g1 (by omega)), ((h.wr.set _ _).set _ _).set _ _, by omega, h.fit.1, h.fit.2, h.small⟩, ?_, p, hp, h.rdr.keep (e g (by omega)) (fun i hi => e i (by omega))⟩
  exact grown_far (grown_far (grown_far h.grown n0 _) n0 _) n0 _

end Go.Proofs.Ytejbmjdipfcblaa.Base

/-
  Contract of the model's drawing of a record: l71Rec. Only that it is a record in new memory is said, not which one. Conditions: the reader stands at a place that is not too far.
-/
namespace Go.Proofs.Ytejbmjdipfcblaa.Base
open Go.RowKit

/-- a record's cells -/
abbrev recC (r : R) : Array Value := #[.int .i64 r.k, .int .i64 r.t, .int .i64 r.p, .int .i64 r.s, .int .i64 r.o, .int .i64 r.n, .int .i64 r.v, .int .i64 r.x]

theorem rec_set {w : World} {g : Nat} {T : TypeId} {r : R} (h : Has w g T (recC r)) (i : Nat) (u : Int) (hi : i < 8) : ∃ r' : R, Has (w.setCell ⟨g, i, none⟩ (.int .i64 u)) g T (recC r') := by
  have h' := h.set i (.int .i64 u)
  match i, hi, h' with
  | 0, _, h' => exact ⟨⟨u, r.t, r.p, r.s, r.o, r.n, r.v, r.x⟩, h'⟩
  | 1, _, h' => exact ⟨⟨r.k, u, r.p, r.s, r.o, r.n, r.v, r.x⟩, h'⟩
  | 2, _, h' => exact ⟨⟨r.k, r.t, u, r.s, r.o, r.n, r.v, r.x⟩, h'⟩
  | 3, _, h' => exact ⟨⟨r.k, r.t, r.p, u, r.o, r.n, r.v, r.x⟩, h'⟩
  | 4, _, h' => exact ⟨⟨r.k, r.t, r.p, r.s, u, r.n, r.v, r.x⟩, h'⟩
  | 5, _, h' => exact ⟨⟨r.k, r.t, r.p, r.s, r.o, u, r.v, r.x⟩, h'⟩
  | 6, _, h' => exact ⟨⟨r.k, r.t, r.p, r.s, r.o, r.n, u, r.x⟩, h'⟩
  | 7, _, h' => exact ⟨⟨r.k, r.t, r.p, r.s, r.o, r.n, r.v, u⟩, h'⟩

/-- where a drawing of a record stands: the reader in block g; the result's block rb, still empty; the record in block pb; of what was there in w0 only the reader has turned -/
structure SR (w0 w : World) (g : Nat) (a : Option Addr) (bs : List Int) (cap B rb pb : Nat) (p : Int) : Prop where
  rdr : Rdr w g a bs cap p B
  res : Has w rb 27 #[.int .i64 0, .int .i64 0, .int .i64 0, .int .i64 0, .int .i64 0, .int .i64 0, .int .i64 0, .int .i64 0]
  box : ∃ r : R, Has w pb 27 (recC r)
  base : B ≤ rb
  low : w0.heap.size ≤ rb
  ord : rb < pb ∧ rb ≠ g ∧ g < pb
  grown : w0.grownBy w (some g)

section
variable {w0 w w' : World} {g : Nat} {a : Option Addr} {bs : List Int} {cap B rb pb : Nat} {p : Int}
theorem SR.pick (h : SR w0 w g a bs cap B rb pb p) {p' : Int} (hg : w.grownBy w' (some g)) (hr : Rdr w' g a bs cap p' B) : SR w0 w' g a bs cap B rb pb p' := by
  have ho := h.ord
  obtain ⟨r, hb⟩ := h.box
  exact ⟨hr, h.res.grown hg (fun e => by injection e; omega), ⟨r, hb.grown hg (fun e => by injection e; omega)⟩, h.base, h.low, h.ord, grown_two h.grown hg⟩
theorem SR.store (h : SR w0 w g a bs cap B rb pb p) (i : Nat) (u : Int) (hi : i < 8) : SR w0 (w.setCell ⟨pb, i, none⟩ (.int .i64 u)) g a bs cap B rb pb p := by
  have ho := h.ord
  have h1 := h.low
  have h2 := h.base
  obtain ⟨r, hb⟩ := h.box
  exact ⟨h.rdr.keep (Below.heap_setCell w _ _ _ (by simp; omega)) (fun i hi => Below.heap_setCell w _ _ i (by simp; omega)), h.res.far (by simp; omega) _, rec_set hb i u hi, h.base, h.low, h.ord, grown_far h.grown (by omega) _⟩
end

/-- a record, stored whole -/
abbrev put8 (w : World) (b : Nat) (r : R) : World := (((((((w.setCell ⟨b, 0, none⟩ (.int .i64 r.k)).setCell ⟨b, 1, none⟩ (.int .i64 r.t)).setCell ⟨b, 2, none⟩ (.int .i64 r.p)).setCell ⟨b, 3, none⟩ (.int .i64 r.s)).setCell ⟨b, 4, none⟩ (.int .i64 r.o)).setCell ⟨b, 5, none⟩ (.int .i64 r.n)).setCell ⟨b, 6, none⟩ (.int .i64 r.v)).setCell ⟨b, 7, none⟩ (.int .i64 r.x)
theorem put8_far (w : World) (b : Nat) (r : R) (i : Nat) (h : i ≠ b) : (put8 w b r).heap[i]? = w.heap[i]? := by
  have e : ∀ (W : World) (j : Nat) (u : Value), (W.setCell ⟨b, j, none⟩ u).heap[i]? = W.heap[i]? := fun W j u => Below.heap_setCell W _ u i (by simpa using h)
  rw [put8, e, e, e, e, e, e, e, e]
theorem grown_put8 {x y : World} {q : Option Nat} (h : x.grownBy y q) {b : Nat} (hb : x.heap.size ≤ b) (r : R) : x.grownBy (put8 y b r) q :=
  grown_far (grown_far (grown_far (grown_far (grown_far (grown_far (grown_far (grown_far h hb _) hb _) hb _) hb _) hb _) hb _) hb _) hb _
theorem put8_has {w : World} {b : Nat} {T : TypeId} {s : R} (h : Has w b T (recC s)) (r : R) : Has (put8 w b r) b T (recC r) := by
  have h0 : Has (w.setCell ⟨b, 0, none⟩ (.int .i64 r.k)) b T #[.int .i64 r.k, .int .i64 s.t, .int .i64 s.p, .int .i64 s.s, .int .i64 s.o, .int .i64 s.n, .int .i64 s.v, .int .i64 s.x] := h.set 0 _
  have h1 : Has ((w.setCell ⟨b, 0, none⟩ (.int .i64 r.k)).setCell ⟨b, 1, none⟩ (.int .i64 r.t)) b T #[.int .i64 r.k, .int .i64 r.t, .int .i64 s.p, .int .i64 s.s, .int .i64 s.o, .int .i64 s.n, .int .i64 s.v, .int .i64 s.x] := h0.set 1 _
  have h2 : Has (((w.setCell ⟨b, 0, none⟩ (.int .i64 r.k)).setCell ⟨b, 1, none⟩ (.int .i64 r.t)).setCell ⟨b, 2, none⟩ (.int .i64 r.p)) b T #[.int .i64 r.k, .int .i64 r.t, .int .i64 r.p, .int .i64 s.s, .int .i64 s.o, .int .i64 s.n, .int .i64 s.v, .int .i64 s.x] := h1.set 2 _
  have h3 : Has ((((w.setCell ⟨b, 0, none⟩ (.int .i64 r.k)).setCell ⟨b, 1, none⟩ (.int .i64 r.t)).setCell ⟨b, 2, none⟩ (.int .i64 r.p)).setCell ⟨b, 3, none⟩ (.int .i64 r.s)) b T #[.int .i64 r.k, .int .i64 r.t, .int .i64 r.p, .int .i64 r.s, .int .i64 s.o, .int .i64 s.n, .int .i64 s.v, .int .i64 s.x] := h2.set 3 _
  have h4 : Has (((((w.setCell ⟨b, 0, none⟩ (.int .i64 r.k)).setCell ⟨b, 1, none⟩ (.int .i64 r.t)).setCell ⟨b, 2, none⟩ (.int .i64 r.p)).setCell ⟨b, 3, none⟩ (.int .i64 r.s)).setCell ⟨b, 4, none⟩ (.int .i64 r.o)) b T #[.int .i64 r.k, .int .i64 r.t, .int .i64 r.p, .int .i64 r.s, .int .i64 r.o, .int .i64 s.n, .int .i64 s.v, .int .i64 s.x] := h3.set 4 _
  have h5 : Has ((((((w.setCell ⟨b, 0, none⟩ (.int .i64 r.k)).setCell ⟨b, 1, none⟩ (.int .i64 r.t)).setCell ⟨b, 2, none⟩ (.int .i64 r.p)).setCell ⟨b, 3, none⟩ (.int .i64 r.s)).setCell ⟨b, 4, none⟩ (.int .i64 r.o)).setCell ⟨b, 5, none⟩ (.int .i64 r.n)) b T #[.int .i64 r.k, .int .i64 r.t, .int .i64 r.p, .int .i64 r.s, .int .i64 r.o, .int .i64 r.n, .int .i64 s.v, .int .i64 s.x] := h4.set 5 _
  have h6 : Has (((((((w.setCell ⟨b, 0, none⟩ (.int .i64 r.k)).setCell ⟨b, 1, none⟩ (.int .i64 r.t)).setCell ⟨b, 2, none⟩ (.int .i64 r.p)).setCell ⟨b, 3, none⟩ (.int .i64 r.s)).setCell ⟨b, 4, none⟩ (.int .i64 r.o)).setCell ⟨b, 5, none⟩ (.int .i64 r.n)).setCell ⟨b, 6, none⟩ (.int .i64 r.v)) b T #[.int .i64 r.k, .int .i64 r.t, .int .i64 r.p, .int .i64 r.s, .int .i64 r.o, .int .i64 r.n, .int .i64 r.v, .int .i64 s.x] := h5.set 6 _
  have h7 : Has ((((((((w.setCell ⟨b, 0, none⟩ (.int .i64 r.k)).setCell ⟨b, 1, none⟩ (.int .i64 r.t)).setCell ⟨b, 2, none⟩ (.int .i64 r.p)).setCell ⟨b, 3, none⟩ (.int .i64 r.s)).setCell ⟨b, 4, none⟩ (.int .i64 r.o)).setCell ⟨b, 5, none⟩ (.int .i64 r.n)).setCell ⟨b, 6, none⟩ (.int .i64 r.v)).setCell ⟨b, 7, none⟩ (.int .i64 r.x)) b T #[.int .i64 r.k, .int .i64 r.t, .int .i64 r.p, .int .i64 r.s, .int .i64 r.o, .int .i64 r.n, .int .i64 r.v, .int .i64 r.x] := h6.set 7 _
  exact h7

/-- what l71Rec leaves: a record; the reader has gone on -/
def DrawnR (g : Nat) (a : Option Addr) (bs : List Int) (cap B : Nat) (m : Int) (w : World) (e : Ending) (w' : World) : Prop :=
  ∃ r : R, e = .returned (recV r) ∧ w.grownBy w' (some g) ∧ ∃ p, p ≤ m ∧ Rdr w' g a bs cap p B
end Go.Proofs.Ytejbmjdipfcblaa.Base

/-
  Contracts of DrawPageOk and DrawPageEmpty. Only the form of a drawn page is said. Conditions: the code is a slice of bytes.
-/
namespace Go.Proofs.Ytejbmjdipfcblaa.Base
open Go.RowKit

/-- a code: a slice of bytes, below block B -/
structure Bytes (w : World) (B : Nat) (a : Option Addr) (zs : List Int) (cap : Nat) : Prop where
  ints : Ints .u8 w B a zs
  bytes : ∀ j, j < zs.length → 0 ≤ zs.getD j 0 ∧ zs.getD j 0 ≤ 255
  fit : zs.length ≤ cap
  most : cap ≤ maxLen
theorem Bytes.below {w w' : World} {B : Nat} {a : Option Addr} {zs : List Int} {cap : Nat} (h : Bytes w B a zs cap) (hb : Below B w w') : Bytes w' B a zs cap := ⟨h.ints.below hb, h.bytes, h.fit, h.most⟩

/-- a drawn page in new memory; nothing that was there has turned -/
def DrawnP (w : World) (e : Ending) (w' : World) : Prop := Drawn w.heap.size e w' ∧ Below w.heap.size w w'

theorem DrawnBy.out {g : Nat} {a : Option Addr} {bs : List Int} {cap B : Nat} {w w' : World} {e : Ending} {m : Int} (h : DrawnBy g a bs cap B m w e w') (hg : w.heap.size ≤ g) : DrawnP w e w' :=
  ⟨h.1, below_grown h.2.1 hg (Nat.le_refl _)⟩

end Go.Proofs.Ytejbmjdipfcblaa.Base
