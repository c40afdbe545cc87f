/-
  Proved: FnRecUndo returns true, whatever the code: RecBack answers as its model, and what it answers undoes the record. No conditions.
-/
import Derived.Test.YtcahmiklcjlkmaaUndoMath
import Derived.Test.YtcahmiklcjlkmaaDoI
import Derived.Test.YtcahmiklcjlkmaaDrawBack
import Derived.Test.YtcahmiklcjlkmaaLt
import Derived.Test.YtcahmiklcjlkmaaOpen
import Derived.Deep.DeepCutAuto
import Derived.OpenShut
import Derived.ShutString
import Derived.ChangeOld
namespace Go.Proofs.Ytcahmiklcjlkmaa.FnRecUndo
open Go.ChangeShapes Go.WideShapes Go.ChangeAt Go.RowKit Base

attribute [local go_sem ↓] neq8 eql8

set_option maxRecDepth 100000 in
set_option maxHeartbeats 8000000 in
theorem walk (a : Option Addr) (cs : List Int) (cap : Nat) (w : World) (hc : Bytes w w.heap.size a cs cap) :
    Calls Try.prog 4 #[.slice a cs.length cap] w (Keeps (.bool true) w) := by
  have hm : cs.length ≤ maxLen := Nat.le_trans hc.fit hc.most
  unfold maxLen at hm
  have H := Lib.hid hc
  clear hc
  by_cases hbig : (1048576 : Int) < cs.length
  · go_enter Try.func4, Try.ntmps4
    go_wp2
    go_ret
    exact ⟨rfl, Below.refl _ _⟩
  have bbig : decide ((1048576 : Int) < cs.length) = false := by simpa using hbig
  clear hbig
  go_enter Try.func4, Try.ntmps4
  go_wp2_with fail
  refine (drawRecBack_any a cs cap w.heap.size _ (Nat.le_refl _) H.out).mono ?_
  rintro e w1 ⟨b1, r, prev, rfl, hp0, hp1⟩
  have R2 := Lib.hid (Has.new w1 24 #[.int .i64 r.k, .int .i64 r.t, .int .i64 r.p, .int .i64 r.s, .int .i64 r.o, .int .i64 r.n, .int .i64 r.v, .int .i64 r.x])
  have B2 := Lib.hid (b1.alloc b1.size (.cells #[.int .i64 r.k, .int .i64 r.t, .int .i64 r.p, .int .i64 r.s, .int .i64 r.o, .int .i64 r.n, .int .i64 r.v, .int .i64 r.x] 24))
  clear b1 H
  go_wp2_with fail
  generalize (w1.alloc (.cells #[.int .i64 r.k, .int .i64 r.t, .int .i64 r.p, .int .i64 r.s, .int .i64 r.o, .int .i64 r.n, .int .i64 r.v, .int .i64 r.x] 24)) = w2 at *
  generalize w1.heap.size = rb at *
  cases hb : backB r prev
  · have S : Hid (∀ W, Calls Try.prog 14 #[recV r, .int .i64 prev] W fun e w' => e = .returned (.tuple #[.agg #[.int .i64 0, .int .i64 0, .int .i64 0, .int .i64 0, .int .i64 0, .int .i64 0, .int .i64 0, .int .i64 0], .bool false]) ∧ Below W.heap.size W w') := fun W => (specRecBack_any r prev W).mono fun e w' h => by rw [hb] at h; exact h
    have I : Hid (∀ W, Calls Try.prog 15 #[recV r, .int .i64 prev] W fun e w' => e = .returned (.tuple #[.agg #[.int .i64 0, .int .i64 0, .int .i64 0, .int .i64 0, .int .i64 0, .int .i64 0, .int .i64 0, .int .i64 0], .bool false]) ∧ Below W.heap.size W w') := fun W => (recBack_any r prev W).mono fun e w' h => by rw [hb] at h; exact h
    have HB := Lib.hid hb
    clear hb
    refine (S.out _).mono ?_
    rintro e w3 ⟨rfl, b3⟩
    have R3 := Lib.hid (R2.out.below b3 R2.out.lt)
    have B3 := Lib.hid (B2.out.trans (b3.mono B2.out.size))
    have n3 : rb < w3.heap.size := R3.out.lt
    clear b3 R2 B2 S
    have R4 := Lib.hid (R3.out.alloc (.cells #[.int .i64 0, .int .i64 0, .int .i64 0, .int .i64 0, .int .i64 0, .int .i64 0, .int .i64 0, .int .i64 0] 24))
    have W4 := Lib.hid (Has.new w3 24 #[.int .i64 0, .int .i64 0, .int .i64 0, .int .i64 0, .int .i64 0, .int .i64 0, .int .i64 0, .int .i64 0])
    have B4 := Lib.hid (B3.out.alloc B3.out.size (.cells #[.int .i64 0, .int .i64 0, .int .i64 0, .int .i64 0, .int .i64 0, .int .i64 0, .int .i64 0, .int .i64 0] 24))
    obtain ⟨c0, c1, c2, c3, c4, c5, c6, c7⟩ := eight R3.out
    clear R3 B3
    go_wp2_with fail
    generalize (w3.alloc (.cells #[.int .i64 0, .int .i64 0, .int .i64 0, .int .i64 0, .int .i64 0, .int .i64 0, .int .i64 0, .int .i64 0] 24)) = w4 at *
    generalize w3.heap.size = wb at *
    clear c0 c1 c2 c3 c4 c5 c6 c7
    refine (I.out _).mono ?_
    rintro e w5 ⟨rfl, b5⟩
    have R6 := Lib.hid ((R4.out.below b5 R4.out.lt).alloc (.cells #[.int .i64 0, .int .i64 0, .int .i64 0, .int .i64 0, .int .i64 0, .int .i64 0, .int .i64 0, .int .i64 0] 24))
    have W6 := Lib.hid ((W4.out.below b5 W4.out.lt).alloc (.cells #[.int .i64 0, .int .i64 0, .int .i64 0, .int .i64 0, .int .i64 0, .int .i64 0, .int .i64 0, .int .i64 0] 24))
    have V6 := Lib.hid (Has.new w5 24 #[.int .i64 0, .int .i64 0, .int .i64 0, .int .i64 0, .int .i64 0, .int .i64 0, .int .i64 0, .int .i64 0])
    have b6 := B4.out.trans (b5.mono B4.out.size)
    have B6 := Lib.hid (b6.alloc b6.size (.cells #[.int .i64 0, .int .i64 0, .int .i64 0, .int .i64 0, .int .i64 0, .int .i64 0, .int .i64 0, .int .i64 0] 24))
    clear b5 b6 R4 W4 B4 I
    go_upto_region 6 with (fail)
    generalize (w5.alloc (.cells #[.int .i64 0, .int .i64 0, .int .i64 0, .int .i64 0, .int .i64 0, .int .i64 0, .int .i64 0, .int .i64 0] 24)) = w6 at *
    generalize w5.heap.size = vb at *
    have heq : eqR ⟨0, 0, 0, 0, 0, 0, 0, 0⟩ ⟨0, 0, 0, 0, 0, 0, 0, 0⟩ = true := eqR_refl _
    obtain ⟨c0, c1, c2, c3, c4, c5, c6, c7⟩ := eight R6.out
    obtain ⟨d0, d1, d2, d3, d4, d5, d6, d7⟩ := eight W6.out
    obtain ⟨f0, f1, f2, f3, f4, f5, f6, f7⟩ := eight V6.out
    go_wp2
    go_ret
    exact ⟨rfl, B6.out⟩
  · have S : Hid (∀ W, Calls Try.prog 14 #[recV r, .int .i64 prev] W fun e w' => e = .returned (.tuple #[.agg #[.int .i64 6, .int .i64 r.t, .int .i64 r.p, .int .i64 r.s, .int .i64 0, .int .i64 r.o, .int .i64 prev, .int .i64 r.v], .bool true]) ∧ Below W.heap.size W w') := fun W => (specRecBack_any r prev W).mono fun e w' h => by rw [hb] at h; exact h
    have I : Hid (∀ W, Calls Try.prog 15 #[recV r, .int .i64 prev] W fun e w' => e = .returned (.tuple #[.agg #[.int .i64 6, .int .i64 r.t, .int .i64 r.p, .int .i64 r.s, .int .i64 0, .int .i64 r.o, .int .i64 prev, .int .i64 r.v], .bool true]) ∧ Below W.heap.size W w') := fun W => (recBack_any r prev W).mono fun e w' h => by rw [hb] at h; exact h
    have HB := Lib.hid hb
    clear hb
    refine (S.out _).mono ?_
    rintro e w3 ⟨rfl, b3⟩
    have R3 := Lib.hid (R2.out.below b3 R2.out.lt)
    have B3 := Lib.hid (B2.out.trans (b3.mono B2.out.size))
    have n3 : rb < w3.heap.size := R3.out.lt
    clear b3 R2 B2 S
    have R4 := Lib.hid (R3.out.alloc (.cells #[.int .i64 6, .int .i64 r.t, .int .i64 r.p, .int .i64 r.s, .int .i64 0, .int .i64 r.o, .int .i64 prev, .int .i64 r.v] 24))
    have W4 := Lib.hid (Has.new w3 24 #[.int .i64 6, .int .i64 r.t, .int .i64 r.p, .int .i64 r.s, .int .i64 0, .int .i64 r.o, .int .i64 prev, .int .i64 r.v])
    have B4 := Lib.hid (B3.out.alloc B3.out.size (.cells #[.int .i64 6, .int .i64 r.t, .int .i64 r.p, .int .i64 r.s, .int .i64 0, .int .i64 r.o, .int .i64 prev, .int .i64 r.v] 24))
    obtain ⟨c0, c1, c2, c3, c4, c5, c6, c7⟩ := eight R3.out
    clear R3 B3
    go_wp2_with fail
    generalize (w3.alloc (.cells #[.int .i64 6, .int .i64 r.t, .int .i64 r.p, .int .i64 r.s, .int .i64 0, .int .i64 r.o, .int .i64 prev, .int .i64 r.v] 24)) = w4 at *
    generalize w3.heap.size = wb at *
    clear c0 c1 c2 c3 c4 c5 c6 c7
    refine (I.out _).mono ?_
    rintro e w5 ⟨rfl, b5⟩
    have R6 := Lib.hid ((R4.out.below b5 R4.out.lt).alloc (.cells #[.int .i64 6, .int .i64 r.t, .int .i64 r.p, .int .i64 r.s, .int .i64 0, .int .i64 r.o, .int .i64 prev, .int .i64 r.v] 24))
    have W6 := Lib.hid ((W4.out.below b5 W4.out.lt).alloc (.cells #[.int .i64 6, .int .i64 r.t, .int .i64 r.p, .int .i64 r.s, .int .i64 0, .int .i64 r.o, .int .i64 prev, .int .i64 r.v] 24))
    have V6 := Lib.hid (Has.new w5 24 #[.int .i64 6, .int .i64 r.t, .int .i64 r.p, .int .i64 r.s, .int .i64 0, .int .i64 r.o, .int .i64 prev, .int .i64 r.v])
    have b6 := B4.out.trans (b5.mono B4.out.size)
    have B6 := Lib.hid (b6.alloc b6.size (.cells #[.int .i64 6, .int .i64 r.t, .int .i64 r.p, .int .i64 r.s, .int .i64 0, .int .i64 r.o, .int .i64 prev, .int .i64 r.v] 24))
    clear b5 b6 R4 W4 B4 I
    go_upto_region 6 with (fail)
    generalize (w5.alloc (.cells #[.int .i64 6, .int .i64 r.t, .int .i64 r.p, .int .i64 r.s, .int .i64 0, .int .i64 r.o, .int .i64 prev, .int .i64 r.v] 24)) = w6 at *
    generalize w5.heap.size = vb at *
    have heq : eqR ⟨6, r.t, r.p, r.s, 0, r.o, prev, r.v⟩ ⟨6, r.t, r.p, r.s, 0, r.o, prev, r.v⟩ = true := eqR_refl _
    obtain ⟨c0, c1, c2, c3, c4, c5, c6, c7⟩ := eight R6.out
    obtain ⟨d0, d1, d2, d3, d4, d5, d6, d7⟩ := eight W6.out
    obtain ⟨f0, f1, f2, f3, f4, f5, f6, f7⟩ := eight V6.out
    have b1 : (r.t != r.t) = false := by simp
    have b2 : (r.p != r.p) = false := by simp
    have b3 : (r.s != r.s) = false := by simp
    have b4 : (r.o != r.o) = false := by simp
    have b5 : (prev != prev) = false := by simp
    have b6 : (r.v != r.v) = false := by simp
    go_wp2_with fail
    refine (recOk_any ⟨6, r.t, r.p, r.s, 0, r.o, prev, r.v⟩ _).mono ?_
    rintro e w7 ⟨rfl, b7⟩
    rw [back_ok HB.out]
    have R7 := Lib.hid (R6.out.below b7 R6.out.lt)
    have V7 := Lib.hid (V6.out.below b7 V6.out.lt)
    have B7 := Lib.hid (B6.out.trans (b7.mono B6.out.size))
    clear b7 R6 W6 V6 B6 c0 c1 c2 c3 c4 c5 c6 c7 d0 d1 d2 d3 d4 d5 d6 d7 f0 f1 f2 f3 f4 f5 f6 f7 heq
    obtain ⟨c0, c1, c2, c3, c4, c5, c6, c7⟩ := eight R7.out
    obtain ⟨f0, f1, f2, f3, f4, f5, f6, f7⟩ := eight V7.out
    have nr : rb < w7.heap.size := R7.out.lt
    have nv : vb < w7.heap.size := V7.out.lt
    obtain ⟨hr, hk, hpv⟩ := back_parts HB.out
    rcases hk with hk | hk
    · have hpp := put_parts hr hk
      obtain ⟨u1, u2, u3, u4, u5⟩ := undo_put HB.out hk _ _ _ rfl rfl rfl
      have U := Lib.hid (And.intro u1 (And.intro (show doB 1 (oW r.s r.n 2) _ _ 2 = true by rw [u2]; exact u3) (And.intro (show oW r.s r.o (oW r.s r.n 2) = 2 by rw [u2]; exact u4) u5)))
      clear u1 u2 u3 u4 u5
      have hs3 : r.s = 0 ∨ r.s = 1 ∨ r.s = 2 := by omega
      have hs0 : (0 : Int) ≤ r.s := by omega
      have bs : decide ((0 : Int) ≤ r.s) = true := by simpa using hs0
      clear hk hr hpv
      have A8 : Hid (Has ((w7.alloc (.cells #[.int .i64 4, .int .i64 5, .int .i64 6] 3)).alloc (.cells #[.int .i64 0, .int .i64 2, .slice (some ⟨w7.heap.size, 0, none⟩) 3 3] 34)) w7.heap.size 3 #[.int .i64 4, .int .i64 5, .int .i64 6]) := (Has.new w7 _ _).alloc _
      have P8 : Hid (Has ((w7.alloc (.cells #[.int .i64 4, .int .i64 5, .int .i64 6] 3)).alloc (.cells #[.int .i64 0, .int .i64 2, .slice (some ⟨w7.heap.size, 0, none⟩) 3 3] 34)) (w7.heap.size + 1) 34 #[.int .i64 0, .int .i64 2, .slice (some ⟨w7.heap.size, 0, none⟩) 3 3]) := by
        have h := Has.new (w7.alloc (.cells #[.int .i64 4, .int .i64 5, .int .i64 6] 3)) 34 #[.int .i64 0, .int .i64 2, .slice (some ⟨w7.heap.size, 0, none⟩) 3 3]
        rw [World.size_alloc] at h
        exact h
      have R8 := Lib.hid ((R7.out.alloc (.cells #[.int .i64 4, .int .i64 5, .int .i64 6] 3)).alloc (.cells #[.int .i64 0, .int .i64 2, .slice (some ⟨w7.heap.size, 0, none⟩) 3 3] 34))
      have V8 := Lib.hid ((V7.out.alloc (.cells #[.int .i64 4, .int .i64 5, .int .i64 6] 3)).alloc (.cells #[.int .i64 0, .int .i64 2, .slice (some ⟨w7.heap.size, 0, none⟩) 3 3] 34))
      have B8 := Lib.hid ((B7.out.alloc B7.out.size (.cells #[.int .i64 4, .int .i64 5, .int .i64 6] 3)).alloc (by have := B7.out.size; simp; omega) (.cells #[.int .i64 0, .int .i64 2, .slice (some ⟨w7.heap.size, 0, none⟩) 3 3] 34))
      go_upto_region 12 with (fail)
      clear c0 c1 c2 c3 c4 c5 c6 c7 f0 f1 f2 f3 f4 f5 f6 f7 R7 V7
      have sb := B7.out.size
      clear B7
      generalize ((w7.alloc (.cells #[.int .i64 4, .int .i64 5, .int .i64 6] 3)).alloc (.cells #[.int .i64 0, .int .i64 2, .slice (some ⟨w7.heap.size, 0, none⟩) 3 3] 34)) = w8 at *
      generalize w7.heap.size = gz at *
      obtain ⟨c0, c1, c2, c3, c4, c5, c6, c7⟩ := eight R8.out
      obtain ⟨d0, d1, d2⟩ := P8.out.three
      obtain ⟨s, hs⟩ : ∃ s : Nat, r.s = (s : Int) := ⟨r.s.toNat, by omega⟩
      rw [hs] at c3
      have hs2 : s < 3 := by omega
      have HS := Lib.hid hs
      clear hs hs3 hpp
      have hs2' : (s : Int) < 3 := by omega
      have ca : ∃ u, w8.cell? ⟨gz, s, none⟩ = some u := by
        rw [A8.out.cell]
        match s, hs2 with
        | 0, _ => exact ⟨_, rfl⟩
        | 1, _ => exact ⟨_, rfl⟩
        | 2, _ => exact ⟨_, rfl⟩
      obtain ⟨u, hu⟩ := ca
      have fa := A8.out.frozen s
      have A9 := Lib.hid (A8.out.set s (.int .i64 r.o))
      have hgr : gz ≠ rb ∧ gz ≠ vb ∨ True := Or.inr trivial
      have P9 := Lib.hid (P8.out.far (p := ⟨gz, s, none⟩) (by simp) (.int .i64 r.o))
      have R9 : Hid (Has (w8.setCell ⟨gz, s, none⟩ (.int .i64 r.o)) rb 24 #[.int .i64 r.k, .int .i64 r.t, .int .i64 r.p, .int .i64 r.s, .int .i64 r.o, .int .i64 r.n, .int .i64 r.v, .int .i64 r.x]) := R8.out.far (p := ⟨gz, s, none⟩) (by simp; omega) (.int .i64 r.o)
      have V9 : Hid (Has (w8.setCell ⟨gz, s, none⟩ (.int .i64 r.o)) vb 24 #[.int .i64 6, .int .i64 r.t, .int .i64 r.p, .int .i64 r.s, .int .i64 0, .int .i64 r.o, .int .i64 prev, .int .i64 r.v]) := V8.out.far (p := ⟨gz, s, none⟩) (by simp; omega) (.int .i64 r.o)
      have B9 := Lib.hid (B8.out.setCell (p := ⟨gz, s, none⟩) sb (.int .i64 r.o))
      have D9 : Hid (Rd .i64 (w8.setCell ⟨gz, s, none⟩ (.int .i64 r.o)) gz 0 [if r.s = 0 then r.o else 4, if r.s = 1 then r.o else 5, if r.s = 2 then r.o else 6]) := fun j hj => by
        rw [A9.out.cell, Nat.zero_add, HS.out]
        have hj' : j < 3 := hj
        match s, hs2, j, hj' with
        | 0, _, 0, _ => rfl
        | 0, _, 1, _ => rfl
        | 0, _, 2, _ => rfl
        | 1, _, 0, _ => rfl
        | 1, _, 1, _ => rfl
        | 1, _, 2, _ => rfl
        | 2, _, 0, _ => rfl
        | 2, _, 1, _ => rfl
        | 2, _, 2, _ => rfl
      have hgz : gz < (w8.setCell ⟨gz, s, none⟩ (.int .i64 r.o)).heap.size := A9.out.lt
      clear R8 V8 P8 A8 B8
      go_upto_region 15 with (fail)
      clear c0 c1 c2 c3 c4 c5 c6 c7 d0 d1 d2 hu fa A9 HS
      generalize (w8.setCell ⟨gz, s, none⟩ (.int .i64 r.o)) = w9 at *
      generalize (if r.s = 0 then r.o else (4 : Int)) = x at *
      generalize (if r.s = 1 then r.o else (5 : Int)) = y at *
      generalize (if r.s = 2 then r.o else (6 : Int)) = z at *
      have d0 := P9.out.three
      obtain ⟨d0, d1, d2⟩ := d0
      obtain ⟨c0, c1, c2, c3, c4, c5, c6, c7⟩ := eight R9.out
      obtain ⟨f0, f1, f2, f3, f4, f5, f6, f7⟩ := eight V9.out
      go_wp2_with fail
      refine (recDo_len 0 2 [x, y, z] (some ⟨gz, 0, none⟩) 3 3 w9.heap.size r 1 _ rfl (Nat.le_refl _) (D9.out.ints hgz) (by omega)).mono ?_
      rintro e w10 hd
      obtain ⟨g1, q1, cap1, rfl, hg1, hr1, hw1, hc1⟩ := hd.yes U.out.1
      have b10 := hd.kept
      have R10 := Lib.hid (R9.out.below b10 R9.out.lt)
      have V10 := Lib.hid (V9.out.below b10 V9.out.lt)
      have P10 := Lib.hid (P9.out.below b10 P9.out.lt)
      have D10 := Lib.hid (D9.out.below b10 hgz)
      have B10 := Lib.hid (B9.out.trans (b10.mono B9.out.size))
      have X10 := Lib.hid hr1
      have l10 := hw1.1
      have s10 := b10.size
      clear hd b10 hr1 hw1 R9 V9 P9 D9 B9 c0 c1 c2 c3 c4 c5 c6 c7 d0 d1 d2 f0 f1 f2 f3 f4 f5 f6 f7
      obtain ⟨o1, ho1⟩ : ∃ o1, oW r.s r.n 2 = o1 := ⟨_, rfl⟩
      have U2 := U.out.2
      rw [ho1] at U2
      rw [ho1]
      have Hu := Lib.hid U2
      clear U2 U ho1
      have R11 := Lib.hid (R10.out.alloc (.cells #[.int .i64 1, .int .i64 o1, .slice (some ⟨g1, q1, none⟩) 3 cap1] 34))
      have V11 := Lib.hid (V10.out.alloc (.cells #[.int .i64 1, .int .i64 o1, .slice (some ⟨g1, q1, none⟩) 3 cap1] 34))
      have P11 := Lib.hid (P10.out.alloc (.cells #[.int .i64 1, .int .i64 o1, .slice (some ⟨g1, q1, none⟩) 3 cap1] 34))
      have D11 := Lib.hid (D10.out.below (below_one w10 (.cells #[.int .i64 1, .int .i64 o1, .slice (some ⟨g1, q1, none⟩) 3 cap1] 34)) (by omega))
      have X11 := Lib.hid (X10.out.below (below_one w10 (.cells #[.int .i64 1, .int .i64 o1, .slice (some ⟨g1, q1, none⟩) 3 cap1] 34)) l10)
      have B11 := Lib.hid (B10.out.alloc B10.out.size (.cells #[.int .i64 1, .int .i64 o1, .slice (some ⟨g1, q1, none⟩) 3 cap1] 34))
      have Y11 := Lib.hid (Has.new w10 34 #[.int .i64 1, .int .i64 o1, .slice (some ⟨g1, q1, none⟩) 3 cap1])
      have l11 : w10.heap.size < (w10.alloc (.cells #[.int .i64 1, .int .i64 o1, .slice (some ⟨g1, q1, none⟩) 3 cap1] 34)).heap.size := by simp
      clear R10 V10 P10 D10 X10 B10
      go_upto_region 16 with (fail)
      generalize (w10.alloc (.cells #[.int .i64 1, .int .i64 o1, .slice (some ⟨g1, q1, none⟩) 3 cap1] 34)) = w11 at *
      obtain ⟨d0, d1, d2⟩ := Y11.out.three
      obtain ⟨f0, f1, f2, f3, f4, f5, f6, f7⟩ := eight V11.out
      go_wp2_with fail
      refine (recDo_len 1 o1 (newZ r [x, y, z]) (some ⟨g1, q1, none⟩) 3 cap1 w11.heap.size ⟨6, r.t, r.p, r.s, 0, r.o, prev, r.v⟩ 2 _ rfl (Nat.le_refl _) (X11.out.ints (by omega)) hc1).mono ?_
      rintro e w12 hd
      obtain ⟨g2, q2, cap2, rfl, hg2, hr2, hw2, hc2⟩ := hd.yes Hu.out.1
      have b12 := hd.kept
      have P12 := Lib.hid (P11.out.below b12 P11.out.lt)
      have D12 := Lib.hid (D11.out.below b12 (by omega))
      have B12 := Lib.hid (B11.out.trans (b12.mono B11.out.size))
      have X12 := Lib.hid hr2
      have l12 := hw2.1
      have s12 := b12.size
      clear hd b12 hr2 hw2 R11 V11 P11 D11 X11 B11 Y11 d0 d1 d2 f0 f1 f2 f3 f4 f5 f6 f7
      have e2 : oW (⟨6, r.t, r.p, r.s, 0, r.o, prev, r.v⟩ : R).s (⟨6, r.t, r.p, r.s, 0, r.o, prev, r.v⟩ : R).n o1 = 2 := Hu.out.2.1
      have e3 : newZ ⟨6, r.t, r.p, r.s, 0, r.o, prev, r.v⟩ (newZ r [x, y, z]) = [x, y, z] := Hu.out.2.2
      rw [e2]
      have X13 : Hid (Rd .i64 w12 g2 q2 [x, y, z]) := by have := X12.out; rwa [e3] at this
      clear e2 e3 X12 Hu
      have P13 := Lib.hid (P12.out.alloc (.cells #[.int .i64 2, .int .i64 2, .slice (some ⟨g2, q2, none⟩) 3 cap2] 34))
      have D13 := Lib.hid (D12.out.below (below_one w12 (.cells #[.int .i64 2, .int .i64 2, .slice (some ⟨g2, q2, none⟩) 3 cap2] 34)) (by omega))
      have X14 := Lib.hid (X13.out.below (below_one w12 (.cells #[.int .i64 2, .int .i64 2, .slice (some ⟨g2, q2, none⟩) 3 cap2] 34)) l12)
      have B13 := Lib.hid (B12.out.alloc B12.out.size (.cells #[.int .i64 2, .int .i64 2, .slice (some ⟨g2, q2, none⟩) 3 cap2] 34))
      have Y13 := Lib.hid (Has.new w12 34 #[.int .i64 2, .int .i64 2, .slice (some ⟨g2, q2, none⟩) 3 cap2])
      have l13 : w12.heap.size < (w12.alloc (.cells #[.int .i64 2, .int .i64 2, .slice (some ⟨g2, q2, none⟩) 3 cap2] 34)).heap.size := by simp
      clear P12 D12 X13 B12
      go_upto_region 17 with (fail)
      generalize (w12.alloc (.cells #[.int .i64 2, .int .i64 2, .slice (some ⟨g2, q2, none⟩) 3 cap2] 34)) = w13 at *
      obtain ⟨d0, d1, d2⟩ := Y13.out.three
      obtain ⟨f0, f1, f2⟩ := P13.out.three
      go_wp2_with fail
      refine (ltHas_any 2 0 2 2 [x, y, z] [x, y, z] (some ⟨g2, q2, none⟩) (some ⟨gz, 0, none⟩) cap2 3 w13.heap.size _ (Nat.le_refl _) (X14.out.ints (by omega)) (D13.out.ints (by omega)) (by simp) (by simp)).mono ?_
      rintro e w14 ⟨rfl, b14⟩
      have B14 := Lib.hid (B13.out.trans (b14.mono B13.out.size))
      have hq : (((2 : Int) == 2) && (([x, y, z] : List Int) == [x, y, z])) = true := by simp
      rw [hq]
      clear b14 hq
      go_wp2
      go_ret
      exact ⟨rfl, B14.out⟩
    · have hpp := own_parts hr hk
      have U := Lib.hid (undo_own HB.out hk)
      have hs0 : r.s < 0 := by omega
      have bs : decide ((0 : Int) ≤ r.s) = false := by simp; omega
      clear hk hr hpv hpp
      have P9 : Hid (Has (((w7.alloc (.cells #[.int .i64 4, .int .i64 5, .int .i64 6] 3)).alloc (.cells #[.int .i64 0, .int .i64 r.o, .slice (some ⟨w7.heap.size + 1 + 1, 0, none⟩) 3 3] 34)).alloc (.cells #[.int .i64 0, .int .i64 0, .int .i64 0] 3)) (w7.heap.size + 1) 34 #[.int .i64 0, .int .i64 r.o, .slice (some ⟨w7.heap.size + 1 + 1, 0, none⟩) 3 3]) := by
        have h := Has.new (w7.alloc (.cells #[.int .i64 4, .int .i64 5, .int .i64 6] 3)) 34 #[.int .i64 0, .int .i64 r.o, .slice (some ⟨w7.heap.size + 1 + 1, 0, none⟩) 3 3]
        rw [World.size_alloc] at h
        exact h.alloc _
      have Z9 : Has (((w7.alloc (.cells #[.int .i64 4, .int .i64 5, .int .i64 6] 3)).alloc (.cells #[.int .i64 0, .int .i64 r.o, .slice (some ⟨w7.heap.size + 1 + 1, 0, none⟩) 3 3] 34)).alloc (.cells #[.int .i64 0, .int .i64 0, .int .i64 0] 3)) (w7.heap.size + 1 + 1) 3 #[.int .i64 0, .int .i64 0, .int .i64 0] := by
        have h := Has.new ((w7.alloc (.cells #[.int .i64 4, .int .i64 5, .int .i64 6] 3)).alloc (.cells #[.int .i64 0, .int .i64 r.o, .slice (some ⟨w7.heap.size + 1 + 1, 0, none⟩) 3 3] 34)) 3 #[.int .i64 0, .int .i64 0, .int .i64 0]
        simp only [World.size_alloc] at h
        exact h
      have D9 : Hid (Rd .i64 (((w7.alloc (.cells #[.int .i64 4, .int .i64 5, .int .i64 6] 3)).alloc (.cells #[.int .i64 0, .int .i64 r.o, .slice (some ⟨w7.heap.size + 1 + 1, 0, none⟩) 3 3] 34)).alloc (.cells #[.int .i64 0, .int .i64 0, .int .i64 0] 3)) (w7.heap.size + 1 + 1) 0 [0, 0, 0]) := fun j hj => by
        rw [Z9.cell, Nat.zero_add]
        have hj' : j < 3 := hj
        match j, hj' with
        | 0, _ => rfl
        | 1, _ => rfl
        | 2, _ => rfl
      have hgz : w7.heap.size + 1 + 1 < (((w7.alloc (.cells #[.int .i64 4, .int .i64 5, .int .i64 6] 3)).alloc (.cells #[.int .i64 0, .int .i64 r.o, .slice (some ⟨w7.heap.size + 1 + 1, 0, none⟩) 3 3] 34)).alloc (.cells #[.int .i64 0, .int .i64 0, .int .i64 0] 3)).heap.size := Z9.lt
      have R9 := Lib.hid (((R7.out.alloc (.cells #[.int .i64 4, .int .i64 5, .int .i64 6] 3)).alloc (.cells #[.int .i64 0, .int .i64 r.o, .slice (some ⟨w7.heap.size + 1 + 1, 0, none⟩) 3 3] 34)).alloc (.cells #[.int .i64 0, .int .i64 0, .int .i64 0] 3))
      have V9 := Lib.hid (((V7.out.alloc (.cells #[.int .i64 4, .int .i64 5, .int .i64 6] 3)).alloc (.cells #[.int .i64 0, .int .i64 r.o, .slice (some ⟨w7.heap.size + 1 + 1, 0, none⟩) 3 3] 34)).alloc (.cells #[.int .i64 0, .int .i64 0, .int .i64 0] 3))
      have B9 := Lib.hid (((B7.out.alloc B7.out.size (.cells #[.int .i64 4, .int .i64 5, .int .i64 6] 3)).alloc (by have := B7.out.size; simp; omega) (.cells #[.int .i64 0, .int .i64 r.o, .slice (some ⟨w7.heap.size + 1 + 1, 0, none⟩) 3 3] 34)).alloc (by have := B7.out.size; simp; omega) (.cells #[.int .i64 0, .int .i64 0, .int .i64 0] 3))
      clear Z9
      go_upto_region 15 with (fail)
      clear c0 c1 c2 c3 c4 c5 c6 c7 f0 f1 f2 f3 f4 f5 f6 f7 R7 V7 nr nv B7
      generalize (((w7.alloc (.cells #[.int .i64 4, .int .i64 5, .int .i64 6] 3)).alloc (.cells #[.int .i64 0, .int .i64 r.o, .slice (some ⟨w7.heap.size + 1 + 1, 0, none⟩) 3 3] 34)).alloc (.cells #[.int .i64 0, .int .i64 0, .int .i64 0] 3)) = w9 at *
      generalize w7.heap.size + 1 + 1 = gz at *
      generalize w7.heap.size + 1 = pb at *
      have d0 := P9.out.three
      obtain ⟨d0, d1, d2⟩ := d0
      obtain ⟨c0, c1, c2, c3, c4, c5, c6, c7⟩ := eight R9.out
      obtain ⟨f0, f1, f2, f3, f4, f5, f6, f7⟩ := eight V9.out
      go_wp2_with fail
      refine (recDo_len 0 r.o [0, 0, 0] (some ⟨gz, 0, none⟩) 3 3 w9.heap.size r 1 _ rfl (Nat.le_refl _) (D9.out.ints hgz) (by omega)).mono ?_
      rintro e w10 hd
      obtain ⟨g1, q1, cap1, rfl, hg1, hr1, hw1, hc1⟩ := hd.yes U.out.1
      have b10 := hd.kept
      have R10 := Lib.hid (R9.out.below b10 R9.out.lt)
      have V10 := Lib.hid (V9.out.below b10 V9.out.lt)
      have P10 := Lib.hid (P9.out.below b10 P9.out.lt)
      have D10 := Lib.hid (D9.out.below b10 hgz)
      have B10 := Lib.hid (B9.out.trans (b10.mono B9.out.size))
      have X10 := Lib.hid hr1
      have l10 := hw1.1
      have s10 := b10.size
      clear hd b10 hr1 hw1 R9 V9 P9 D9 B9 c0 c1 c2 c3 c4 c5 c6 c7 d0 d1 d2 f0 f1 f2 f3 f4 f5 f6 f7
      obtain ⟨o1, ho1⟩ : ∃ o1, oW r.s r.n r.o = o1 := ⟨_, rfl⟩
      have U2 := U.out.2
      rw [ho1] at U2
      rw [ho1]
      have Hu := Lib.hid U2
      clear U2 U ho1
      have R11 := Lib.hid (R10.out.alloc (.cells #[.int .i64 1, .int .i64 o1, .slice (some ⟨g1, q1, none⟩) 3 cap1] 34))
      have V11 := Lib.hid (V10.out.alloc (.cells #[.int .i64 1, .int .i64 o1, .slice (some ⟨g1, q1, none⟩) 3 cap1] 34))
      have P11 := Lib.hid (P10.out.alloc (.cells #[.int .i64 1, .int .i64 o1, .slice (some ⟨g1, q1, none⟩) 3 cap1] 34))
      have D11 := Lib.hid (D10.out.below (below_one w10 (.cells #[.int .i64 1, .int .i64 o1, .slice (some ⟨g1, q1, none⟩) 3 cap1] 34)) (by omega))
      have X11 := Lib.hid (X10.out.below (below_one w10 (.cells #[.int .i64 1, .int .i64 o1, .slice (some ⟨g1, q1, none⟩) 3 cap1] 34)) l10)
      have B11 := Lib.hid (B10.out.alloc B10.out.size (.cells #[.int .i64 1, .int .i64 o1, .slice (some ⟨g1, q1, none⟩) 3 cap1] 34))
      have Y11 := Lib.hid (Has.new w10 34 #[.int .i64 1, .int .i64 o1, .slice (some ⟨g1, q1, none⟩) 3 cap1])
      have l11 : w10.heap.size < (w10.alloc (.cells #[.int .i64 1, .int .i64 o1, .slice (some ⟨g1, q1, none⟩) 3 cap1] 34)).heap.size := by simp
      clear R10 V10 P10 D10 X10 B10
      go_upto_region 16 with (fail)
      generalize (w10.alloc (.cells #[.int .i64 1, .int .i64 o1, .slice (some ⟨g1, q1, none⟩) 3 cap1] 34)) = w11 at *
      obtain ⟨d0, d1, d2⟩ := Y11.out.three
      obtain ⟨f0, f1, f2, f3, f4, f5, f6, f7⟩ := eight V11.out
      go_wp2_with fail
      refine (recDo_len 1 o1 (newZ r [0, 0, 0]) (some ⟨g1, q1, none⟩) 3 cap1 w11.heap.size ⟨6, r.t, r.p, r.s, 0, r.o, prev, r.v⟩ 2 _ rfl (Nat.le_refl _) (X11.out.ints (by omega)) hc1).mono ?_
      rintro e w12 hd
      obtain ⟨g2, q2, cap2, rfl, hg2, hr2, hw2, hc2⟩ := hd.yes Hu.out.1
      have b12 := hd.kept
      have P12 := Lib.hid (P11.out.below b12 P11.out.lt)
      have D12 := Lib.hid (D11.out.below b12 (by omega))
      have B12 := Lib.hid (B11.out.trans (b12.mono B11.out.size))
      have X12 := Lib.hid hr2
      have l12 := hw2.1
      have s12 := b12.size
      clear hd b12 hr2 hw2 R11 V11 P11 D11 X11 B11 Y11 d0 d1 d2 f0 f1 f2 f3 f4 f5 f6 f7
      have e2 : oW (⟨6, r.t, r.p, r.s, 0, r.o, prev, r.v⟩ : R).s (⟨6, r.t, r.p, r.s, 0, r.o, prev, r.v⟩ : R).n o1 = r.o := Hu.out.2.1
      have e3 : newZ ⟨6, r.t, r.p, r.s, 0, r.o, prev, r.v⟩ (newZ r [0, 0, 0]) = [0, 0, 0] := Hu.out.2.2
      rw [e2]
      have X13 : Hid (Rd .i64 w12 g2 q2 [0, 0, 0]) := by have := X12.out; rwa [e3] at this
      clear e2 e3 X12 Hu
      have P13 := Lib.hid (P12.out.alloc (.cells #[.int .i64 2, .int .i64 r.o, .slice (some ⟨g2, q2, none⟩) 3 cap2] 34))
      have D13 := Lib.hid (D12.out.below (below_one w12 (.cells #[.int .i64 2, .int .i64 r.o, .slice (some ⟨g2, q2, none⟩) 3 cap2] 34)) (by omega))
      have X14 := Lib.hid (X13.out.below (below_one w12 (.cells #[.int .i64 2, .int .i64 r.o, .slice (some ⟨g2, q2, none⟩) 3 cap2] 34)) l12)
      have B13 := Lib.hid (B12.out.alloc B12.out.size (.cells #[.int .i64 2, .int .i64 r.o, .slice (some ⟨g2, q2, none⟩) 3 cap2] 34))
      have Y13 := Lib.hid (Has.new w12 34 #[.int .i64 2, .int .i64 r.o, .slice (some ⟨g2, q2, none⟩) 3 cap2])
      have l13 : w12.heap.size < (w12.alloc (.cells #[.int .i64 2, .int .i64 r.o, .slice (some ⟨g2, q2, none⟩) 3 cap2] 34)).heap.size := by simp
      clear P12 D12 X13 B12
      go_upto_region 17 with (fail)
      generalize (w12.alloc (.cells #[.int .i64 2, .int .i64 r.o, .slice (some ⟨g2, q2, none⟩) 3 cap2] 34)) = w13 at *
      obtain ⟨d0, d1, d2⟩ := Y13.out.three
      obtain ⟨f0, f1, f2⟩ := P13.out.three
      go_wp2_with fail
      refine (ltHas_any 2 0 r.o r.o [0, 0, 0] [0, 0, 0] (some ⟨g2, q2, none⟩) (some ⟨gz, 0, none⟩) cap2 3 w13.heap.size _ (Nat.le_refl _) (X14.out.ints (by omega)) (D13.out.ints (by omega)) (by simp) (by simp)).mono ?_
      rintro e w14 ⟨rfl, b14⟩
      have B14 := Lib.hid (B13.out.trans (b14.mono B13.out.size))
      have hq : (((r.o : Int) == r.o) && (([0, 0, 0] : List Int) == [0, 0, 0])) = true := by simp
      rw [hq]
      clear b14 hq
      go_wp2
      go_ret
      exact ⟨rfl, B14.out⟩

theorem own : ownKnob Try.prog.godebug = none := by kernel_rfl
theorem laidOut : laidOutB Try.prog = true := by kernel_rfl

set_option maxRecDepth 100000 in
theorem lifted (os : Os) (started : os.Started) (H : Type) (enc : TypeId × Value → H) :
    ReturnsInHanded {} Try.checked os 4 .any (Rows.fnRecUndoSpec.pre6 enc Try.prog Try.f4 Rows.fnRecUndoRow.domain false) (Rows.fnRecUndoSpec.post enc Try.prog Try.f4 false true false false) := by
  refine returnsInHanded_of_change (C := Try.checked) own started (by kernel_rfl) Try.func4
    (ChangeSpec.witness6 (enc := enc) (C := Try.checked) false ⟨#[], #[.slice none 0 0], []⟩ 8 (by kernel_rfl) (by kernel_rfl) (by kernel_rfl) (by kernel_rfl)) ?_
  intro W base args ds gs before hval0 hW hcnd _
  have hval : ∀ (j : Nat) t v, Try.f4.params[j]? = some t → args[j]? = some v → Value.okWide Try.prog W .any base t v := hval0
  have hW' := hW
  obtain ⟨p, q, hA0, hV, rfl, hfz, hnd⟩ := hW
  have hA : DataW.TrodAll enc Try.prog W 0 (fun _ => true) true Try.f4.params.toList args.toList ds p := hA0
  rw [Try.params4] at hA hval
  obtain ⟨v0, vs0, d0, ds0, p0, q0, hargs, rfl, rfl, h0, r0⟩ := trodAll_cons hA
  obtain ⟨rfl, rfl, rfl⟩ := trodAll_nil r0
  obtain rfl : args = #[v0] := by cases args; simp_all
  obtain ⟨rfl, rfl⟩ := trodVars_none hV
  have k0 := h0
  have lt0 : ∀ x ∈ p0, x.block < W.heap.size := by obtain ⟨m, hm⟩ := k0; exact DataW.trod_lt m _ _ _ hm
  obtain ⟨a, cs, cap, rfl, hc⟩ := openBytes Try.underlying22 Try.underlying5 (by kernel_rfl) (hval 0 22 v0 rfl rfl) h0
  clear hA0 hval0
  refine (walk a cs cap W hc).mono fun e W' ⟨he, bel⟩ => ?_
  subst he
  exact ⟨_, rfl, _, _, _, [], _, [], hW', trodAll_mk1 (shut_bool Try.underlying4 _), (trodAll_cons_mk (Below.trod laidOut (by kernel_rfl) (of_decide_eq_true (by kernel_rfl)) k0 bel lt0) trodAll_mk0), rfl, bel.frame _, fun h => by cases h⟩

theorem proved : Rows.FnRecUndoSaid :=
  OpenClaim.holds_of_wide 4 Try.f4 rfl rfl rfl rfl rfl rfl rfl ⟨rfl, rfl, rfl, rfl, rfl⟩ rfl rfl rfl rfl rfl (by kernel_rfl) Try.func4 (by kernel_rfl)
    (of_decide_eq_true (by kernel_rfl)) (by unfold Func.isWrapper; first | (rw [if_pos (by decide +kernel)]; kernel_rfl) | (rw [if_neg (by decide +kernel)]; exact ⟨rfl, rfl⟩))
    (fun os started H enc _ => lifted os started H enc)
#print axioms proved
end Go.Proofs.Ytcahmiklcjlkmaa.FnRecUndo
