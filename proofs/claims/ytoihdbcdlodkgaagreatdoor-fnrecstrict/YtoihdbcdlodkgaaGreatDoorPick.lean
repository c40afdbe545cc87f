/-
  Contracts of the model's drawing of numbers: l6Open and pick. Only that a drawn number lies in its range is said, not which one it is. Conditions: the code is a slice of bytes.
-/
import Derived.Test.YtoihdbcdlodkgaaGreatDoorSpec
import Derived.IntWalk
import Derived.Laws.BitsAllLaws
import Derived.Laws.BitsLemmas
namespace Go.Proofs.YtoihdbcdlodkgaaGreatDoor.Base
open Go.RowKit

/-- a reader: its bytes, and its place -/
structure Rdr (w : World) (g : Nat) (a : Option Addr) (zs : List Int) (cap : Nat) (p : Int) (B : Nat) : Prop where
  has : Has w g 66 #[.slice a zs.length cap, .int .i64 p]
  ints : Ints .u8 w B a zs
  apart : B ≤ g
  bytes : ∀ j, j < zs.length → 0 ≤ zs.getD j 0 ∧ zs.getD j 0 ≤ 255
  short : zs.length ≤ 2000
  low : 0 ≤ p

/-- what pick leaves: a number in its range; the reader is one place on -/
def Picked (n : Int) (g : Nat) (a : Option Addr) (zs : List Int) (cap : Nat) (p : Int) (B : Nat) (w : World) (e : Ending) (w' : World) : Prop :=
  ∃ v, e = .returned (.int .i64 v) ∧ 0 ≤ v ∧ (1 ≤ n → v < n) ∧ w.grownBy w' (some g) ∧ w'.heap.size = w.heap.size ∧ Rdr w' g a zs cap (p + 1) B

theorem Rdr.next {w : World} {g : Nat} {a : Option Addr} {zs : List Int} {cap : Nat} {p : Int} {B : Nat} (h : Rdr w g a zs cap p B) (m : Nat) :
    w.grownBy ((w.setCell ⟨g, 1, none⟩ (.int .i64 (p + 1))).drewN m) (some g) ∧ ((w.setCell ⟨g, 1, none⟩ (.int .i64 (p + 1))).drewN m).heap.size = w.heap.size ∧
      Rdr ((w.setCell ⟨g, 1, none⟩ (.int .i64 (p + 1))).drewN m) g a zs cap (p + 1) B := by
  have hg := grown_set (World.grownBy.refl w (some g)) (i := 1) (Value.int .i64 (p + 1))
  have hg' : w.grownBy ((w.setCell ⟨g, 1, none⟩ (.int .i64 (p + 1))).drewN m) (some g) := ⟨hg.os, hg.tape, hg.output, hg.size, hg.block⟩
  refine ⟨hg', size_set _ _ _, (h.has.set 1 _).drewN m, ?_, h.apart, h.bytes, h.short, by have := h.low; omega⟩
  exact (h.ints.keep (fun i hi => Below.heap_setCell w _ _ i (by have := h.apart; simp; omega))).drewN m

theorem xor_low (a b : Int) (ha : 0 ≤ a) (hb : 0 ≤ b) (ha' : a < 1000000000000) (hb' : b < 1000000000000) : 0 ≤ bits .xor .i64 a b := by
  obtain ⟨m, rfl⟩ := Int.eq_ofNat_of_zero_le ha
  obtain ⟨n, rfl⟩ := Int.eq_ofNat_of_zero_le hb
  have hm : (BitVec.ofInt 64 (m : Int)).toNat = m := by
    rw [BitVec.ofInt_natCast, BitVec.toNat_ofNat]
    exact Nat.mod_eq_of_lt (by omega)
  have hn : (BitVec.ofInt 64 (n : Int)).toNat = n := by
    rw [BitVec.ofInt_natCast, BitVec.toNat_ofNat]
    exact Nat.mod_eq_of_lt (by omega)
  have hx : m ^^^ n < 2 ^ 63 := Nat.xor_lt_two_pow (by omega) (by omega)
  show 0 ≤ IntKind.i64.wrap ((BitVec.ofInt 64 (m : Int) ^^^ BitVec.ofInt 64 (n : Int)).toNat : Int)
  rw [BitVec.toNat_xor, hm, hn, IntKind.wrap_i64]
  omega

set_option maxHeartbeats 2000000 in
theorem pick_any (n : Int) (g : Nat) (a : Option Addr) (zs : List Int) (cap : Nat) (p : Int) (B : Nat) (w : World) (h : Rdr w g a zs cap p B) (hp : p ≤ 1000000000) (hn : n ≤ 1000000000) (hn' : -1000000000 ≤ n) :
    Calls Tryz.prog 27 #[.pointer (some ⟨g, 0, none⟩), .int .i64 n] w (Picked n g a zs cap p B w) := by
  have hh := h.has
  have c0 := hh.cell 0
  have c1 := hh.cell 1
  have f1 := hh.frozen 1
  simp at c0 c1
  have Hh := Lib.hid h
  have h2 := h.short
  have h3 := h.low
  clear h hh
  by_cases n1 : n < 1
  · go_enter Tryz.func27, Tryz.ntmps27
    go_wp2
    go_ret
    exact ⟨0, rfl, by omega, fun h => absurd h (by omega), Hh.out.next 0⟩
  by_cases z0 : zs.length = 0
  · have b0 : ((zs.length : Int) == 0) = true := by simp [z0]
    clear z0
    go_enter Tryz.func27, Tryz.ntmps27
    go_wp2
    go_ret
    exact ⟨0, rfl, by omega, fun h => by omega, Hh.out.next 0⟩
  have z1 : 0 < zs.length := by omega
  have b0 : ((zs.length : Int) == 0) = false := by rw [beq_eq_false_iff_ne]; omega
  clear z0
  have hn1 : 1 ≤ n := by omega
  obtain ⟨g', o, rfl, hg', hr⟩ := Hh.out.ints z1
  have hne : g' < g := Nat.lt_of_lt_of_le hg' Hh.out.apart
  obtain ⟨k, hk⟩ : ∃ k : Nat, p = k := Int.eq_ofNat_of_zero_le h3
  subst hk
  by_cases hkl : k < zs.length
  · have d0 := hr k hkl
    have hb := Hh.out.bytes k hkl
    generalize zs.getD k 0 = v at d0 hb
    have q0 := Int.emod_nonneg v (show n ≠ 0 by omega)
    have q1 := Int.emod_lt_of_pos v (show 0 < n by omega)
    clear hr
    go_enter Tryz.func27, Tryz.ntmps27
    go_wp2
    go_ret
    exact ⟨v % n, rfl, q0, fun _ => q1, Hh.out.next 0⟩
  · have hk' : zs.length ≤ k := by omega
    have hm1 : k % zs.length < zs.length := Nat.mod_lt _ z1
    have hm2 : (k * 7 + 3) % zs.length < zs.length := Nat.mod_lt _ z1
    have d1 := hr (k % zs.length) hm1
    have d2 := hr ((k * 7 + 3) % zs.length) hm2
    have hb1 := Hh.out.bytes _ hm1
    have hb2 := Hh.out.bytes _ hm2
    generalize zs.getD (k % zs.length) 0 = v1 at d1 hb1
    generalize zs.getD ((k * 7 + 3) % zs.length) 0 = v2 at d2 hb2
    clear hr b0
    have hz0 : ¬ (zs.length = 0) := by omega
    have b1 : ((zs.length : Int) == 0) = false := by rw [beq_eq_false_iff_ne]; omega
    generalize zs.length = N at *
    generalize hi1 : k % N = i1 at *
    generalize hi2 : (k * 7 + 3) % N = i2 at *
    generalize hq : k / N = q at *
    have hq' : q ≤ k := by rw [← hq]; exact Nat.div_le_self _ _
    have w1 : IntKind.i64.wrap (i1 : Int) = i1 := IntWalk.i64_in _ (by omega)
    have w2 : IntKind.i64.wrap ((k : Int) * 7) = (k : Int) * 7 := IntWalk.i64_in _ (by omega)
    have w3 : IntKind.i64.wrap ((k : Int) * 7 + 3) = (k : Int) * 7 + 3 := IntWalk.i64_in _ (by omega)
    have w4 : IntKind.i64.wrap (i2 : Int) = i2 := IntWalk.i64_in _ (by omega)
    have w5 : IntKind.i64.wrap (v1 * 131) = v1 * 131 := IntWalk.i64_in _ (by omega)
    have w6 : IntKind.i64.wrap (v2 * 1117) = v2 * 1117 := IntWalk.i64_in _ (by omega)
    have w7 : IntKind.i64.wrap (v1 * 131 + v2 * 1117) = v1 * 131 + v2 * 1117 := IntWalk.i64_in _ (by omega)
    have w8 : IntKind.i64.wrap ((k : Int) * 29) = (k : Int) * 29 := IntWalk.i64_in _ (by omega)
    have w9 : IntKind.i64.wrap (v1 * 131 + v2 * 1117 + (k : Int) * 29) = v1 * 131 + v2 * 1117 + (k : Int) * 29 := IntWalk.i64_in _ (by omega)
    have w10 : IntKind.i64.wrap (q : Int) = q := IntWalk.i64_in _ (by omega)
    have w11 : IntKind.i64.wrap ((q : Int) * 53) = (q : Int) * 53 := IntWalk.i64_in _ (by omega)
    have w12 : IntKind.i64.wrap (v1 * 131 + v2 * 1117 + (k : Int) * 29 + (q : Int) * 53) = v1 * 131 + v2 * 1117 + (k : Int) * 29 + (q : Int) * 53 := IntWalk.i64_in _ (by omega)
    have w13 : IntKind.i64.wrap v1 = v1 := IntWalk.i64_in _ (by omega)
    have w14 : IntKind.i64.wrap v2 = v2 := IntWalk.i64_in _ (by omega)
    have t1 : ((k : Nat) : Int).tmod (N : Int) = (i1 : Int) := by rw [← hi1]; rfl
    have t2 : ((k : Int) * 7 + 3).tmod (N : Int) = (i2 : Int) := by rw [← hi2]; rfl
    have t3 : ((k : Nat) : Int).tdiv (N : Int) = (q : Int) := by rw [← hq]; rfl
    have hx0 : 0 ≤ v1 * 131 + v2 * 1117 + (k : Int) * 29 + (q : Int) * 53 := by omega
    have hx1 : v1 * 131 + v2 * 1117 + (k : Int) * 29 + (q : Int) * 53 ≤ 200000000000 := by omega
    have Hi1 := Lib.hid hi1
    have Hi2 := Lib.hid hi2
    have Hq := Lib.hid hq
    clear hi1 hi2 hq
    go_enter Tryz.func27, Tryz.ntmps27
    go_wp2
    go_quiet (fail)
    clear w1 w2 w3 w4 w5 w6 w7 w8 w9 w10 w11 w12 w13 w14 t1 t2 t3 d1 d2
    generalize v1 * 131 + v2 * 1117 + (k : Int) * 29 + (q : Int) * 53 = x at *
    go_wp2
    go_ret
    have hy := xor_low x (x / 64) hx0 (by omega) (by omega) (by omega)
    refine ⟨(bits .xor .i64 x (x / 64)).tmod n, rfl, ?_, fun _ => ?_, Hh.out.next _⟩
    · rw [Int.tmod_eq_emod_of_nonneg hy]
      exact Int.emod_nonneg _ (by omega)
    · rw [Int.tmod_eq_emod_of_nonneg hy]
      exact Int.emod_lt_of_pos _ (by omega)

/-- what l6Open leaves: a reader at its first place -/
def Opened (B : Nat) (w : World) (e : Ending) (w' : World) : Prop :=
  ∃ (a : Option Addr) (zs : List Int) (cap : Nat), e = .returned (.pointer (some ⟨w.heap.size, 0, none⟩)) ∧ Below w.heap.size w w' ∧ Rdr w' w.heap.size a zs cap 0 B

set_option maxHeartbeats 1000000 in
theorem l6Open_any (a : Option Addr) (zs : List Int) (cap B : Nat) (w : World) (hB : B ≤ w.heap.size) (hz : Ints .u8 w B a zs) (hb : ∀ j, j < zs.length → 0 ≤ zs.getD j 0 ∧ zs.getD j 0 ≤ 255) (hc : zs.length ≤ cap) (hm : cap ≤ maxLen) :
    Calls Tryz.prog 21 #[.slice a zs.length cap] w (Opened B w) := by
  have Hz := Lib.hid hz
  have Hb := Lib.hid hb
  clear hz hb
  unfold maxLen at hm
  by_cases h : (2000 : Int) < zs.length
  · have hl : (zs.take 2000).length = 2000 := by rw [List.length_take]; omega
    have Hl := Lib.hid hl
    clear hl
    have hc' : 2000 ≤ cap := by omega
    go_enter Tryz.func21, Tryz.ntmps21
    go_wp2
    go_ret
    refine ⟨a, zs.take 2000, cap, rfl, below_one _ _, by rw [Hl.out]; exact Has.new _ _ _, (Hz.out.take 2000).below ((below_one _ _).mono hB), hB, fun j hj => ?_, by rw [Hl.out]; omega, by omega⟩
    rw [Hl.out] at hj
    have := Hb.out j (by omega)
    simpa [List.getD_eq_getElem?_getD, show j < 2000 by omega] using this
  · go_enter Tryz.func21, Tryz.ntmps21
    go_wp2
    go_ret
    refine ⟨a, zs, cap, rfl, below_one _ _, Has.new _ _ _, Hz.out.below ((below_one _ _).mono hB), hB, Hb.out, by omega, by omega⟩
end Go.Proofs.YtoihdbcdlodkgaaGreatDoor.Base
