/-
  Contracts of the laws' helpers on lists of records: szRecS, toRecS, eqRec, eqRecS. Conditions: the slices lead to records.
-/
import Derived.Test.YtjiclphpeoffdaaLogMath
import Derived.Test.YtjiclphpeoffdaaRecOkI
import Derived.Test.YtjiclphpeoffdaaEqRec
import Derived.Deep.RegionHeld3
namespace Go.Proofs.Ytjiclphpeoffdaa.Base
open Go.RowKit

/-- what is left of a count when n is taken -/
def leftN (left n : Int) : Int := if left - n < 0 then -1 else left - n
set_option maxHeartbeats 400000 in
theorem szRecS_any (a : Option Addr) (n cap : Nat) (left : Int) (w : World) (l0 : -1 ≤ left) (l1 : left ≤ 1000000000000) (mx : n ≤ maxLen) :
    Calls Try.prog 9 #[.slice a n cap, .int .i64 left] w fun e w' => e = .returned (.int .i64 (leftN left n)) ∧ w = w' := by
  unfold maxLen at mx
  by_cases h : left - (n : Int) < 0
  · go_enter Try.func9, Try.ntmps9
    go_wp2
    go_ret
    exact ⟨ret_int (by unfold leftN; rw [if_pos h]), rfl⟩
  · go_enter Try.func9, Try.ntmps9
    go_wp2
    go_ret
    exact ⟨ret_int (by unfold leftN; rw [if_neg (by omega)]), rfl⟩

/-- n cells of block g are there -/
def Ex (w : World) (g n : Nat) : Prop := ∀ i, i < n → ∃ u, w.cell? ⟨g, i, none⟩ = some u
section
variable {w : World} {g n p q : Nat} {u : Value} {r : R}
theorem put_cell (h : Ex w g n) (hp : p < n) (i : Nat) : (w.setCell ⟨g, p, none⟩ u).cell? ⟨g, i, none⟩ = if i = p then some u else w.cell? ⟨g, i, none⟩ := by
  obtain ⟨v, hv⟩ := h p hp
  have := cell_set w g 0 i p u v (by rw [Nat.zero_add]; exact hv)
  simpa only [Nat.zero_add] using this
theorem Ex.put (h : Ex w g n) (hp : p < n) : Ex (w.setCell ⟨g, p, none⟩ u) g n := fun i hi => by
  rw [put_cell h hp]
  by_cases e : i = p
  · exact ⟨u, if_pos e⟩
  · rw [if_neg e]
    exact h i hi
/-- a record, stored whole at q -/
abbrev stA (w : World) (g q : Nat) (r : R) : World := (((((((w.setCell ⟨g, q, none⟩ (.int .i64 r.k)).setCell ⟨g, q + 1, none⟩ (.int .i64 r.t)).setCell ⟨g, q + 2, none⟩ (.int .i64 r.p)).setCell ⟨g, q + 3, none⟩ (.int .i64 r.s)).setCell ⟨g, q + 4, none⟩ (.int .i64 r.o)).setCell ⟨g, q + 5, none⟩ (.int .i64 r.n)).setCell ⟨g, q + 6, none⟩ (.int .i64 r.v)).setCell ⟨g, q + 7, none⟩ (.int .i64 r.x)
theorem Ex.st (h : Ex w g n) (hq : q + 7 < n) : Ex (stA w g q r) g n :=
  (((((((h.put (by omega)).put (by omega)).put (by omega)).put (by omega)).put (by omega)).put (by omega)).put (by omega)).put hq
theorem st_cell (h : Ex w g n) (hq : q + 7 < n) (i : Nat) : (stA w g q r).cell? ⟨g, i, none⟩ =
    if i = q + 7 then some (.int .i64 r.x) else if i = q + 6 then some (.int .i64 r.v) else if i = q + 5 then some (.int .i64 r.n) else if i = q + 4 then some (.int .i64 r.o) else if i = q + 3 then some (.int .i64 r.s) else if i = q + 2 then some (.int .i64 r.p) else if i = q + 1 then some (.int .i64 r.t) else if i = q then some (.int .i64 r.k) else w.cell? ⟨g, i, none⟩ := by
  have h1 := h.put (u := .int .i64 r.k) (p := q) (by omega)
  have h2 := h1.put (u := .int .i64 r.t) (p := q + 1) (by omega)
  have h3 := h2.put (u := .int .i64 r.p) (p := q + 2) (by omega)
  have h4 := h3.put (u := .int .i64 r.s) (p := q + 3) (by omega)
  have h5 := h4.put (u := .int .i64 r.o) (p := q + 4) (by omega)
  have h6 := h5.put (u := .int .i64 r.n) (p := q + 5) (by omega)
  have h7 := h6.put (u := .int .i64 r.v) (p := q + 6) (by omega)
  rw [put_cell h7 hq, put_cell h6 (by omega), put_cell h5 (by omega), put_cell h4 (by omega), put_cell h3 (by omega), put_cell h2 (by omega), put_cell h1 (by omega), put_cell h (by omega)]
theorem st_at (h : Ex w g n) (hq : q + 7 < n) : At (stA w g q r) g q r := by
  refine ⟨?_, ?_, ?_, ?_, ?_, ?_, ?_, ?_⟩ <;> rw [st_cell h hq] <;> simp
theorem st_far (h : Ex w g n) (hq : q + 7 < n) (i : Nat) (hi : i < q ∨ q + 7 < i) : (stA w g q r).cell? ⟨g, i, none⟩ = w.cell? ⟨g, i, none⟩ := by
  rw [st_cell h hq, if_neg (by omega), if_neg (by omega), if_neg (by omega), if_neg (by omega), if_neg (by omega), if_neg (by omega), if_neg (by omega), if_neg (by omega)]
theorem At.st {p : Nat} {r' : R} (a : At w g p r') (h : Ex w g n) (hq : q + 7 < n) (hp : p + 7 < q ∨ q + 7 < p) : At (stA w g q r) g p r' :=
  ⟨(st_far h hq _ (by omega)).trans a.k, (st_far h hq _ (by omega)).trans a.t, (st_far h hq _ (by omega)).trans a.p, (st_far h hq _ (by omega)).trans a.s, (st_far h hq _ (by omega)).trans a.o, (st_far h hq _ (by omega)).trans a.n, (st_far h hq _ (by omega)).trans a.v, (st_far h hq _ (by omega)).trans a.x⟩
theorem below_st {B : Nat} {w0 : World} (h : Below B w0 w) (hb : B ≤ g) : Below B w0 (stA w g q r) :=
  (((((((h.setCell hb _).setCell hb _).setCell hb _).setCell hb _).setCell hb _).setCell hb _).setCell hb _).setCell hb _
theorem wr_st {o m : Nat} (h : Wr w g o m) : Wr (stA w g q r) g o m :=
  (((((((h.set _ _).set _ _).set _ _).set _ _).set _ _).set _ _).set _ _).set _ _
theorem size_st : (stA w g q r).heap.size = w.heap.size := by simp
end

theorem infoRec : (Try.prog.info? 45).map (fun i => (i.zero, i.size, i.bytes)) = some (some (.agg #[.int .i64 0, .int .i64 0, .int .i64 0, .int .i64 0, .int .i64 0, .int .i64 0, .int .i64 0, .int .i64 0]), 8, 64) := by kernel_rfl

/-- the cells of new records -/
def newR (n : Nat) : Array Value := madeCells (Value.agg #[.int .i64 0, .int .i64 0, .int .i64 0, .int .i64 0, .int .i64 0, .int .i64 0, .int .i64 0, .int .i64 0]).cells (n * 8)
theorem newR_get (n i : Nat) (h : i < n * 8) : ∃ u, (newR n)[i]? = some u := by
  have : i < (newR n).size := by simpa [newR, madeCells] using h
  exact ⟨_, Array.getElem?_eq_getElem this⟩

theorem makeR (n : Nat) (hn : n ≤ 1000000000) (w : World) : (Instr.makeSlice 25 (.int .i64 (n : Int)) (.int .i64 (n : Int))).run Try.prog w = .ok (.slice (some ⟨w.heap.size, 0, none⟩) n n) (w.alloc (.cells (newR n) 45)) := by
  obtain ⟨i0, hi, hz, hs, hb⟩ := info_parts infoRec
  rw [run_make w _ _ i0 _ Try.underlying25 hi hz .i64 .i64 n n (by omega) (by omega) (by rw [hb]; omega) (by omega), hs, Int.toNat_natCast]
  rfl

/-- what toRecS leaves: the records, in a new block -/
def CopiedR (rs : List R) (w : World) (e : Ending) (w' : World) : Prop :=
  e = .returned (.slice (some ⟨w.heap.size, 0, none⟩) rs.length rs.length) ∧ Below w.heap.size w w' ∧ RdR w' w.heap.size 0 rs ∧ Wr w' w.heap.size 0 (rs.length * 8)

set_option maxHeartbeats 1000000 in
theorem toRecS_any (rs : List R) (a : Option Addr) (cap B : Nat) (w : World) (hB : B ≤ w.heap.size) (hz : Recs w B a rs) (mx : rs.length ≤ 1000000000) :
    Calls Try.prog 11 #[.slice a rs.length cap] w (CopiedR rs w) := by
  have Hz := Lib.hid hz
  clear hz
  have hmk := fun W => makeR rs.length mx W
  go_enter Try.func11, Try.ntmps11
  go_wp2
  clear hmk
  go_loopw [4] (fun i w1 => ∃ t : Nat, t ≤ rs.length ∧ i = .int .i64 t ∧ Below w.heap.size w w1 ∧ w.heap.size < w1.heap.size ∧ Ex w1 w.heap.size (rs.length * 8) ∧ Wr w1 w.heap.size 0 (rs.length * 8) ∧ ∀ j, j < t → At w1 w.heap.size (j * 8) (recAt rs j)) (fun i _ => rs.length - (intOf i).toNat)
  case atStart =>
    have hn := Has.new w 45 (newR rs.length)
    exact ⟨0, Nat.zero_le _, rfl, below_one _ _, by simp, fun i hi => by rw [hn.cell]; exact newR_get _ _ hi, hn.wr _ _, fun j hj => absurd hj (by omega)⟩
  case round =>
    obtain ⟨t, ht, rfl, hb, hs, hc, hwr, hm⟩ := hrel
    by_cases hlt : t < rs.length
    · obtain ⟨g, o, rfl, hg, hrd⟩ := (Hz.out.below (hb.mono hB)) (by omega)
      obtain ⟨c0, c1, c2, c3, c4, c5, c6, c7⟩ := hrd t hlt
      have Hb := Lib.hid hb
      have Hc := Lib.hid hc
      have Hw := Lib.hid hwr
      have Hm := Lib.hid hm
      clear hb hc hwr hm hrd
      obtain ⟨r, hr⟩ : ∃ r, recAt rs t = r := ⟨_, rfl⟩
      rw [hr] at c0 c1 c2 c3 c4 c5 c6 c7
      have Hr := Lib.hid hr
      clear hr
      go_wp2_with fail
      refine (toRec_any r _).mono ?_
      rintro e w2 ⟨rfl, b2⟩
      have hs2 : w.heap.size < w2.heap.size := Nat.lt_of_lt_of_le hs b2.size
      have B2 : Hid (Below w.heap.size w w2) := Hb.out.trans (b2.mono (by omega))
      have X2 : Hid (Ex w2 w.heap.size (rs.length * 8)) := fun i hi => by
        obtain ⟨u, hu⟩ := Hc.out i hi
        exact ⟨u, (b2.cell (p := ⟨w.heap.size, i, none⟩) hs).trans hu⟩
      have W2 := Lib.hid (Hw.out.below b2 hs)
      have M2 : Hid (∀ j, j < t → At w2 w.heap.size (j * 8) (recAt rs j)) := fun j hj => (Hm.out j hj).keep (b2.block _ hs)
      clear b2 c0 c1 c2 c3 c4 c5 c6 c7 Hb Hc Hw Hm
      obtain ⟨u0, d0⟩ := X2.out (t * 8) (by omega)
      obtain ⟨u1, d1⟩ := X2.out (t * 8 + 1) (by omega)
      obtain ⟨u2, d2⟩ := X2.out (t * 8 + 2) (by omega)
      obtain ⟨u3, d3⟩ := X2.out (t * 8 + 3) (by omega)
      obtain ⟨u4, d4⟩ := X2.out (t * 8 + 4) (by omega)
      obtain ⟨u5, d5⟩ := X2.out (t * 8 + 5) (by omega)
      obtain ⟨u6, d6⟩ := X2.out (t * 8 + 6) (by omega)
      obtain ⟨u7, d7⟩ := X2.out (t * 8 + 7) (by omega)
      have fz : ∀ i, i < rs.length * 8 → w2.frozen? ⟨w.heap.size, i, none⟩ = false := fun i hi => by have := W2.out.2 i hi; rwa [Nat.zero_add] at this
      have f0 := fz (t * 8) (by omega)
      have f1 := fz (t * 8 + 1) (by omega)
      have f2 := fz (t * 8 + 2) (by omega)
      have f3 := fz (t * 8 + 3) (by omega)
      have f4 := fz (t * 8 + 4) (by omega)
      have f5 := fz (t * 8 + 5) (by omega)
      have f6 := fz (t * 8 + 6) (by omega)
      have f7 := fz (t * 8 + 7) (by omega)
      clear fz
      go_wp2
      refine ⟨⟨t + 1, by omega, by go_num, below_st B2.out (Nat.le_refl _), by rw [size_st]; exact hs2, X2.out.st (by omega), wr_st W2.out, fun j hj => ?_⟩, by simp [intOf]; omega⟩
      by_cases e : j = t
      · subst e
        rw [Hr.out]
        exact st_at X2.out (by omega)
      · exact (M2.out j (by omega)).st X2.out (by omega) (by omega)
    · obtain rfl : t = rs.length := by omega
      have Hb := Lib.hid hb
      have Hw := Lib.hid hwr
      have Hm := Lib.hid hm
      clear hb hc hwr hm
      go_wp2
      go_ret
      exact ⟨rfl, Hb.out, fun j hj => by rw [Nat.zero_add]; exact Hm.out j hj, Hw.out⟩

set_option maxHeartbeats 4000000 in
theorem eqRecS_same (xs : List R) (a b : Option Addr) (ca cb B : Nat) (w : World) (hB : B ≤ w.heap.size) (hx : Recs w B a xs) (hy : Recs w B b xs) (mx : xs.length ≤ 1000000000) :
    Calls Try.prog 13 #[.slice a xs.length ca, .slice b xs.length cb] w (Keeps (.bool true) w) := by
  have Hx := Lib.hid hx
  have Hy := Lib.hid hy
  have hd : ((xs.length : Int) != (xs.length : Int)) = false := by simp
  clear hx hy
  go_enter Try.func13, Try.ntmps13
  go_wp2
  go_loopw [5] (fun i w1 => ∃ k : Nat, k ≤ xs.length ∧ i = .int .i64 k ∧ Below w.heap.size w w1) (fun i _ => xs.length - (intOf i).toNat)
  case atStart => exact ⟨0, Nat.zero_le _, rfl, Below.refl _ _⟩
  case round =>
    obtain ⟨k, hk, rfl, hb⟩ := hrel
    have hs := hb.size
    have Hb := Lib.hid hb
    clear hb
    by_cases hlt : k < xs.length
    · obtain ⟨g, o, rfl, hg, hr⟩ := (Hx.out.below (Hb.out.mono hB)) (by omega)
      obtain ⟨g', o', rfl, hg', hr'⟩ := (Hy.out.below (Hb.out.mono hB)) (by omega)
      have hA := hr k hlt
      have hA' := hr' k hlt
      obtain ⟨r, hrk⟩ : ∃ r, recAt xs k = r := ⟨_, rfl⟩
      rw [hrk] at hA hA'
      clear hrk hr hr'
      have A1 := Lib.hid hA
      have A2 := Lib.hid hA'
      obtain ⟨c0, c1, c2, c3, c4, c5, c6, c7⟩ := hA
      obtain ⟨d0, d1, d2, d3, d4, d5, d6, d7⟩ := hA'
      go_wp2_with fail
      refine wp_region_held_drew (S := (fun w' => w'.cell? ⟨g, o + k * 8, none⟩ = some (.int .i64 r.k) ∧ w'.cell? ⟨g, o + k * 8 + 1, none⟩ = some (.int .i64 r.t) ∧ w'.cell? ⟨g, o + k * 8 + 2, none⟩ = some (.int .i64 r.p) ∧ w'.cell? ⟨g, o + k * 8 + 3, none⟩ = some (.int .i64 r.s) ∧ w'.cell? ⟨g, o + k * 8 + 4, none⟩ = some (.int .i64 r.o) ∧ w'.cell? ⟨g, o + k * 8 + 5, none⟩ = some (.int .i64 r.n) ∧ w'.cell? ⟨g, o + k * 8 + 6, none⟩ = some (.int .i64 r.v) ∧ w'.cell? ⟨g, o + k * 8 + 7, none⟩ = some (.int .i64 r.x) ∧ w'.cell? ⟨g', o' + k * 8, none⟩ = some (.int .i64 r.k) ∧ w'.cell? ⟨g', o' + k * 8 + 1, none⟩ = some (.int .i64 r.t) ∧ w'.cell? ⟨g', o' + k * 8 + 2, none⟩ = some (.int .i64 r.p) ∧ w'.cell? ⟨g', o' + k * 8 + 3, none⟩ = some (.int .i64 r.s) ∧ w'.cell? ⟨g', o' + k * 8 + 4, none⟩ = some (.int .i64 r.o) ∧ w'.cell? ⟨g', o' + k * 8 + 5, none⟩ = some (.int .i64 r.n) ∧ w'.cell? ⟨g', o' + k * 8 + 6, none⟩ = some (.int .i64 r.v) ∧ w'.cell? ⟨g', o' + k * 8 + 7, none⟩ = some (.int .i64 r.x))) (by kernel_rfl) ?_ (fun hHeld0 => ?_)
      · (first | (with_reducible exact ⟨c0, c1, c2, c3, c4, c5, c6, c7, d0, d1, d2, d3, d4, d5, d6, d7⟩) | (with_reducible exact ⟨e0, e1, e2, e3, e4, e5, e6, e7, f0, f1, f2, f3, f4, f5, f6, f7⟩) | exact ⟨c0, c1, c2, c3, c4, c5, c6, c7, d0, d1, d2, d3, d4, d5, d6, d7⟩)
      refine wpAnyH_take (i := 0) (oi := { dst := some 17, op := Go.Op.move (Go.Operand.tmp 0), type := 25, pos := "exact.go:117", after := #[], guard := none }) (v := ?_) rfl (by kernel_rfl) (by kernel_rfl) (by kernel_rfl) (fun _ _ _ h => h) (Or.inl ⟨by rfl, ?_⟩) hHeld0 ?_
      rotate_left
      · (intro w hSw; (try dsimp only at hSw); go_simp; (first | done | (with_reducible rfl) | (rw [if_neg (by omega)]) | (rw [if_neg (by simp only [ByteArray.size_append]; omega)])))
      (try simp only [Act.put, List.setIfInBounds_toArray, List.set_cons_zero, List.set_cons_succ])
      refine wpAnyH_take (i := 1) (oi := { dst := some 18, op := Go.Op.move (Go.Operand.tmp 5), type := 3, pos := "exact.go:117", after := #[], guard := none }) (v := ?_) rfl (by kernel_rfl) (by kernel_rfl) (by kernel_rfl) (fun _ _ _ h => h) (Or.inl ⟨by rfl, ?_⟩) hHeld0 ?_
      rotate_left
      · (intro w hSw; (try dsimp only at hSw); go_simp; (first | done | (with_reducible rfl) | (rw [if_neg (by omega)]) | (rw [if_neg (by simp only [ByteArray.size_append]; omega)])))
      (try simp only [Act.put, List.setIfInBounds_toArray, List.set_cons_zero, List.set_cons_succ])
      refine wpAnyH_take (i := 2) (oi := { dst := some 19, op := Go.Op.indexAddr 25 (Go.Operand.tmp 17) (Go.Operand.tmp 18), type := 0, pos := "exact.go:117", after := #[{ on := 0, ground := Go.Ground.data }, { on := 1, ground := Go.Ground.data }], guard := none }) (v := ?_) rfl (by kernel_rfl) (by kernel_rfl) (by kernel_rfl) (fun _ _ _ h => h) (Or.inl ⟨by rfl, ?_⟩) hHeld0 ?_
      rotate_left
      · (intro w hSw; (try dsimp only at hSw); go_simp; (first | done | (with_reducible rfl) | (rw [if_neg (by omega)]) | (rw [if_neg (by simp only [ByteArray.size_append]; omega)])))
      (try simp only [Act.put, List.setIfInBounds_toArray, List.set_cons_zero, List.set_cons_succ])
      refine wpAnyH_take (i := 3) (oi := { dst := some 20, op := Go.Op.load 45 (Go.Operand.tmp 19), type := 45, pos := "exact.go:117", after := #[{ on := 2, ground := Go.Ground.data }], guard := none }) (v := ?_) rfl (by kernel_rfl) (by kernel_rfl) (by kernel_rfl) (fun _ _ _ h => h) (Or.inl ⟨by rfl, ?_⟩) hHeld0 ?_
      rotate_left
      · (intro w hSw; (try dsimp only at hSw); go_simp; (first | done | (with_reducible rfl) | (rw [if_neg (by omega)]) | (rw [if_neg (by simp only [ByteArray.size_append]; omega)])))
      (try simp only [Act.put, List.setIfInBounds_toArray, List.set_cons_zero, List.set_cons_succ])
      refine wpAnyH_take (i := 4) (oi := { dst := some 21, op := Go.Op.move (Go.Operand.tmp 1), type := 25, pos := "exact.go:117", after := #[], guard := none }) (v := ?_) rfl (by kernel_rfl) (by kernel_rfl) (by kernel_rfl) (fun _ _ _ h => h) (Or.inl ⟨by rfl, ?_⟩) hHeld0 ?_
      rotate_left
      · (intro w hSw; (try dsimp only at hSw); go_simp; (first | done | (with_reducible rfl) | (rw [if_neg (by omega)]) | (rw [if_neg (by simp only [ByteArray.size_append]; omega)])))
      (try simp only [Act.put, List.setIfInBounds_toArray, List.set_cons_zero, List.set_cons_succ])
      refine wpAnyH_take (i := 5) (oi := { dst := some 22, op := Go.Op.move (Go.Operand.tmp 5), type := 3, pos := "exact.go:117", after := #[], guard := none }) (v := ?_) rfl (by kernel_rfl) (by kernel_rfl) (by kernel_rfl) (fun _ _ _ h => h) (Or.inl ⟨by rfl, ?_⟩) hHeld0 ?_
      rotate_left
      · (intro w hSw; (try dsimp only at hSw); go_simp; (first | done | (with_reducible rfl) | (rw [if_neg (by omega)]) | (rw [if_neg (by simp only [ByteArray.size_append]; omega)])))
      (try simp only [Act.put, List.setIfInBounds_toArray, List.set_cons_zero, List.set_cons_succ])
      refine wpAnyH_take (i := 6) (oi := { dst := some 23, op := Go.Op.indexAddr 25 (Go.Operand.tmp 21) (Go.Operand.tmp 22), type := 0, pos := "exact.go:117", after := #[{ on := 4, ground := Go.Ground.data }, { on := 5, ground := Go.Ground.data }], guard := none }) (v := ?_) rfl (by kernel_rfl) (by kernel_rfl) (by kernel_rfl) (fun _ _ _ h => h) (Or.inl ⟨by rfl, ?_⟩) hHeld0 ?_
      rotate_left
      · (intro w hSw; (try dsimp only at hSw); go_simp; (first | done | (with_reducible rfl) | (rw [if_neg (by omega)]) | (rw [if_neg (by simp only [ByteArray.size_append]; omega)])))
      (try simp only [Act.put, List.setIfInBounds_toArray, List.set_cons_zero, List.set_cons_succ])
      refine wpAnyH_take (i := 7) (oi := { dst := some 24, op := Go.Op.load 45 (Go.Operand.tmp 23), type := 45, pos := "exact.go:117", after := #[{ on := 6, ground := Go.Ground.data }], guard := none }) (v := ?_) rfl (by kernel_rfl) (by kernel_rfl) (by kernel_rfl) (fun _ _ _ h => h) (Or.inl ⟨by rfl, ?_⟩) hHeld0 ?_
      rotate_left
      · (intro w hSw; (try dsimp only at hSw); go_simp; (first | done | (with_reducible rfl) | (rw [if_neg (by omega)]) | (rw [if_neg (by simp only [ByteArray.size_append]; omega)])))
      (try simp only [Act.put, List.setIfInBounds_toArray, List.set_cons_zero, List.set_cons_succ])
      refine wpAnyH_ready (rs := [8]) (by kernel_rfl) (by simp) ?_
      refine AllReadyH.cons (o := { dst := some 25, op := Go.Op.call { callee := Go.Callee.value (Go.Operand.func 35), args := #[Go.Operand.tmp 20, Go.Operand.tmp 24], argTypes := #[45, 45] }, type := 4, pos := "exact.go:117", after := #[{ on := 3, ground := Go.Ground.data }, { on := 7, ground := Go.Ground.data }], guard := none }) rfl (fun K hK => ?_) AllReadyH.nil
      go_simp
      (with_reducible refine (eqRec_same r _).mono ?_)
      rintro e w2 ⟨rfl, b2⟩
      have B2 : Hid (Below w.heap.size w w2) := Hb.out.drew.trans (b2.mono (by simp; omega))
      obtain ⟨e0, e1, e2, e3, e4, e5, e6, e7⟩ := A1.out.keep (w' := w2) (b2.block g (by simp; omega))
      obtain ⟨f0, f1, f2, f3, f4, f5, f6, f7⟩ := A2.out.keep (w' := w2) (b2.block g' (by simp; omega))
      clear b2
      (try go_wp2_with fail)
      refine hK.out _ _ ?_ (fun hHeld1 => ?_)
      · (first | (with_reducible exact ⟨c0, c1, c2, c3, c4, c5, c6, c7, d0, d1, d2, d3, d4, d5, d6, d7⟩) | (with_reducible exact ⟨e0, e1, e2, e3, e4, e5, e6, e7, f0, f1, f2, f3, f4, f5, f6, f7⟩) | exact ⟨c0, c1, c2, c3, c4, c5, c6, c7, d0, d1, d2, d3, d4, d5, d6, d7⟩)
      clear hK K hHeld0
      (try simp only [Act.put, List.setIfInBounds_toArray, List.set_cons_zero, List.set_cons_succ])
      refine wpAnyH_take (i := 9) (oi := { dst := some 26, op := Go.Op.unOp Go.UnOp.not 4 (Go.Operand.tmp 25), type := 4, pos := "exact.go:117", after := #[{ on := 8, ground := Go.Ground.data }], guard := none }) (v := ?_) rfl (by kernel_rfl) (by kernel_rfl) (by kernel_rfl) (fun _ _ _ h => h) (Or.inl ⟨by rfl, ?_⟩) hHeld1 ?_
      rotate_left
      · (intro w hSw; (try dsimp only at hSw); go_simp; (first | done | (with_reducible rfl) | (rw [if_neg (by omega)]) | (rw [if_neg (by simp only [ByteArray.size_append]; omega)])))
      (try simp only [Act.put, List.setIfInBounds_toArray, List.set_cons_zero, List.set_cons_succ])
      refine wpAnyH_done (by kernel_rfl) ?_ _
      clear hHeld1
      go_wp2
      exact ⟨⟨k + 1, by omega, by go_num, B2.out⟩, by simp [intOf]; omega⟩
    · go_wp2
      go_ret
      exact ⟨rfl, Hb.out⟩
end Go.Proofs.Ytjiclphpeoffdaa.Base
