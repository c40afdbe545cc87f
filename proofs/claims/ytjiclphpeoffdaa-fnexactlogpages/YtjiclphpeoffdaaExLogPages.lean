/-
  Proved: FnExactLogPages returns true, whatever the arguments: LogPages answers as its model, leaves its argument as it was, and its answer is new memory. No conditions.
-/
import Derived.Test.YtjiclphpeoffdaaLogP
import Derived.Test.YtjiclphpeoffdaaSame
import Derived.Test.YtjiclphpeoffdaaOpenRs
import Derived.OpenShut
import Derived.ShutString
import Derived.ChangeOld
namespace Go.Proofs.Ytjiclphpeoffdaa.FnExactLogPages
open Go.ChangeShapes Go.WideShapes Go.ChangeAt Go.RowKit Base

set_option maxHeartbeats 4000000 in
theorem walk (rs : List R) (a : Option Addr) (cap : Nat) (t : Int) (w : World) (hz : Recs w w.heap.size a rs) (hm : rs.length ≤ maxLen) :
    Calls Try.prog 7 #[.slice a rs.length cap, .int .i64 t] w (Keeps (.bool true) w) := by
  have Hz := Lib.hid hz
  clear hz
  by_cases hs : (1048576 : Int) - rs.length < 0
  · have Hl : Hid (leftN 1048576 rs.length = -1) := by
      show leftN 1048576 rs.length = -1
      unfold leftN
      rw [if_pos hs]
    clear hs
    go_enter Try.func7, Try.ntmps7
    go_wp2_with fail
    refine (szRecS_any a rs.length cap 1048576 _ (by omega) (by omega) hm).mono ?_
    rintro e w1 ⟨rfl, rfl⟩
    rw [Hl.out]
    go_wp2
    go_ret
    exact ⟨rfl, Below.refl _ _⟩
  · have mx : rs.length ≤ 1000000000 := by omega
    have mx' : rs.length ≤ 1048576 := by omega
    have Hl : Hid (leftN 1048576 rs.length = 1048576 - (rs.length : Int)) := by
      show leftN 1048576 rs.length = 1048576 - (rs.length : Int)
      unfold leftN
      rw [if_neg hs]
    have zl : (pagesB rs t).length ≤ 1000 := Nat.le_trans (pagesB_len rs t) (by omega)
    obtain ⟨zs, hzs⟩ : ∃ zs, pagesB rs t = zs := ⟨_, rfl⟩
    rw [hzs] at zl
    have Hs := Lib.hid hzs
    clear hzs
    obtain ⟨mm, hmm⟩ : ∃ m : Int, 1 + (zs.length : Int) = m := ⟨_, rfl⟩
    have m0 : decide (mm < 0) = false := by simp; omega
    have m1 : (mm != mm) = false := by simp
    have Hm := Lib.hid hmm
    clear hmm
    obtain ⟨kk, hkk⟩ : ∃ k : Int, 1 + 8 * (rs.length : Int) = k := ⟨_, rfl⟩
    have k0 : decide (kk < 0) = false := by simp; omega
    have Hk := Lib.hid hkk
    clear hkk
    go_enter Try.func7, Try.ntmps7
    go_wp2_with fail
    refine (szRecS_any a rs.length cap 1048576 _ (by omega) (by omega) hm).mono ?_
    rintro e w1 ⟨rfl, rfl⟩
    rw [Hl.out]
    have hq : decide (1048576 - (rs.length : Int) < 0) = false := by simp; omega
    go_wp2_with fail
    refine (toRecS_any rs a cap w.heap.size _ (Nat.le_refl _) Hz.out mx).mono ?_
    rintro e w1 ⟨rfl, b1, r1, x1⟩
    have l1 := x1.1
    have B1 := Lib.hid b1
    have R1 := Lib.hid r1
    clear b1 r1 x1
    go_wp2_with fail
    refine (specLogPages_any rs t _ rs.length w1.heap.size _ (Nat.le_refl _) (R1.out.recs l1) (Nat.le_refl _) mx).mono ?_
    rintro e w2 ⟨a0, c0, rfl, b2, i2⟩
    rw [Hs.out] at i2 ⊢
    have I2 := Lib.hid i2.ints
    have B2 : Hid (Below w.heap.size w w2) := B1.out.trans (b2.mono (by omega))
    have l2 := B2.out.size
    clear b2 i2 R1 B1
    go_wp2_with fail
    refine (toRecS_any rs a cap w.heap.size _ l2 (Hz.out.below B2.out) mx).mono ?_
    rintro e w3 ⟨rfl, b3, r3, x3⟩
    have l3 := x3.1
    have B3 : Hid (Below w.heap.size w w3) := B2.out.trans (b3.mono l2)
    have I3 := Lib.hid (I2.out.below b3)
    have R3 := Lib.hid r3
    have X3 := Lib.hid x3
    clear b3 r3 x3 B2 I2
    go_wp2_with fail
    refine (logPages_any rs t _ rs.length w3.heap.size _ (Nat.le_refl _) (R3.out.recs l3) (Nat.le_refl _) mx).mono ?_
    rintro e w4 ⟨a1, c1, rfl, b4, m4⟩
    rw [Hs.out] at m4 ⊢
    have l4 : w3.heap.size ≤ w4.heap.size := b4.size
    have B4 : Hid (Below w.heap.size w w4) := B3.out.trans (b4.mono (by omega))
    have R4 := Lib.hid (R3.out.below b4 l3)
    have X4 := Lib.hid (X3.out.below b4 l3)
    have I4 := Lib.hid (I3.out.below (b4.mono (by omega)))
    have M4 := Lib.hid m4
    clear b4 m4 R3 X3 I3 B3
    go_wp2_with fail
    refine (eqIntS_same zs a1 a0 c1 c0 w4.heap.size _ (Nat.le_refl _) M4.out.ints (I4.out.more (by omega)) (by omega)).mono ?_
    rintro e w5 ⟨rfl, b5⟩
    have l5 : w4.heap.size ≤ w5.heap.size := b5.size
    have B5 : Hid (Below w.heap.size w w5) := B4.out.trans (b5.mono (by omega))
    have R5 := Lib.hid (R4.out.below b5 (by omega))
    have X5 := Lib.hid (X4.out.below b5 (by omega))
    have I5 := Lib.hid (I4.out.below (b5.mono (by omega)))
    have M5 := Lib.hid (M4.out.below b5)
    clear b5 R4 X4 I4 M4 B4
    go_wp2_with fail
    refine (toRecS_any rs a cap w.heap.size _ (by omega) (Hz.out.below B5.out) mx).mono ?_
    rintro e w6 ⟨rfl, b6, r6, x6⟩
    have l6 := x6.1
    have B6 : Hid (Below w.heap.size w w6) := B5.out.trans (b6.mono (by omega))
    have R6 := Lib.hid r6
    have R56 := Lib.hid (R5.out.below b6 (by omega))
    have X56 := Lib.hid (X5.out.below b6 (by omega))
    have I6 := Lib.hid (I5.out.below (b6.mono (by omega)))
    have M6 := Lib.hid (M5.out.below b6)
    clear b6 r6 x6 R5 X5 I5 M5 B5
    go_wp2_with fail
    refine (eqRecS_same rs _ _ _ _ w6.heap.size _ (Nat.le_refl _) (R56.out.recs (by omega)) (R6.out.recs l6) mx).mono ?_
    rintro e w7 ⟨rfl, b7⟩
    have l7 : w6.heap.size ≤ w7.heap.size := b7.size
    have B7 : Hid (Below w.heap.size w w7) := B6.out.trans (b7.mono (by omega))
    have R7 := Lib.hid (R56.out.below b7 (by omega))
    have X7 := Lib.hid (X56.out.below b7 (by omega))
    have I7 := Lib.hid (I6.out.below (b7.mono (by omega)))
    have M7 := Lib.hid (M6.out.below b7)
    clear b7 R6 R56 X56 I6 M6 B6
    go_wp2_with fail
    refine (markRecS_any rs.length w2.heap.size rs.length 1 _ R7.out.ex X7.out (by omega) (by omega) mx').mono ?_
    rintro e w8 ⟨rfl, g8, s8⟩
    rw [Hk.out]
    have l8 : w7.heap.size ≤ w8.heap.size := Nat.le_of_eq s8.symm
    have B8 : Hid (Below w.heap.size w w8) := B7.out.trans (below_grown g8 (by omega) (by omega))
    have I8 := Lib.hid (I7.out.below (below_grown g8 (Nat.le_refl _) (by omega)))
    have M8 := Lib.hid (M7.out.grown g8 l3)
    clear g8 s8 R7 X7 I7 M7 B7
    go_wp2_with fail
    refine (eqIntS_same zs a1 a0 c1 c0 w8.heap.size _ (Nat.le_refl _) M8.out.ints (I8.out.more (by omega)) (by omega)).mono ?_
    rintro e w9 ⟨rfl, b9⟩
    have l9 : w8.heap.size ≤ w9.heap.size := b9.size
    have B9 : Hid (Below w.heap.size w w9) := B8.out.trans (b9.mono (by omega))
    have I9 := Lib.hid (I8.out.below (b9.mono (by omega)))
    have M9 := Lib.hid (M8.out.below b9)
    clear b9 I8 M8 B8
    go_wp2_with fail
    refine (markIntS_mine zs a1 c1 w3.heap.size 1 _ M9.out (by omega) (by omega) (by omega) (by omega)).mono ?_
    rintro e w10 ⟨rfl, b10, m10⟩
    rw [Hm.out]
    have l10 : w9.heap.size ≤ w10.heap.size := b10.size
    have B10 : Hid (Below w.heap.size w w10) := B9.out.trans (b10.mono (by omega))
    have I10 := Lib.hid (I9.out.below (b10.mono (by omega)))
    have M10 := Lib.hid m10
    clear b10 m10 I9 M9 B9
    go_wp2_with fail
    refine (heldIntS_any zs.length a1 c1 w10.heap.size 1 _ M10.out.ints (by omega) (by omega) (by omega)).mono ?_
    rintro e w11 ⟨rfl, rfl⟩
    rw [Hm.out]
    go_wp2_with fail
    refine (toRecS_any rs a cap w.heap.size _ (by omega) (Hz.out.below B10.out) mx).mono ?_
    rintro e w11 ⟨rfl, b11, r11, x11⟩
    have l11 := x11.1
    have B11 : Hid (Below w.heap.size w w11) := B10.out.trans (b11.mono (by omega))
    have R11 := Lib.hid r11
    have I11 := Lib.hid (I10.out.below (b11.mono (by omega)))
    have M11 := Lib.hid (M10.out.below b11)
    clear b11 r11 x11 I10 M10 B10
    go_wp2_with fail
    refine (logPages_any rs t _ rs.length w11.heap.size _ (Nat.le_refl _) (R11.out.recs l11) (Nat.le_refl _) mx).mono ?_
    rintro e w12 ⟨a2, c2, rfl, b12, m12⟩
    rw [Hs.out] at m12 ⊢
    have l12 : w11.heap.size ≤ w12.heap.size := b12.size
    have B12 : Hid (Below w.heap.size w w12) := B11.out.trans (b12.mono (by omega))
    have I12 := Lib.hid (I11.out.below (b12.mono (by omega)))
    have M12 := Lib.hid (M11.out.below b12)
    have N12 := Lib.hid m12
    clear b12 m12 R11 I11 M11 B11
    go_wp2_with fail
    refine (eqIntS_same zs a2 a0 c2 c0 w12.heap.size _ (Nat.le_refl _) N12.out.ints (I12.out.more (by omega)) (by omega)).mono ?_
    rintro e w13 ⟨rfl, b13⟩
    have B13 : Hid (Below w.heap.size w w13) := B12.out.trans (b13.mono (by omega))
    have M13 := Lib.hid (M12.out.below b13)
    clear b13 I12 M12 N12 B12
    go_wp2_with fail
    refine (heldIntS_any zs.length a1 c1 w13.heap.size 1 _ M13.out.ints (by omega) (by omega) (by omega)).mono ?_
    rintro e w14 ⟨rfl, rfl⟩
    rw [Hm.out]
    go_wp2
    go_ret
    exact ⟨rfl, B13.out⟩

theorem own : ownKnob Try.prog.godebug = none := by kernel_rfl
theorem laidOut : laidOutB Try.prog = true := by kernel_rfl

set_option maxRecDepth 100000 in
theorem lifted (os : Os) (started : os.Started) (H : Type) (enc : TypeId × Value → H) :
    ReturnsInHanded {} Try.checked os 7 .any (Rows.fnExactLogPagesSpec.pre6 enc Try.prog Try.f7 Rows.fnExactLogPagesRow.domain false) (Rows.fnExactLogPagesSpec.post enc Try.prog Try.f7 false true false false) := by
  refine returnsInHanded_of_change (C := Try.checked) own started (by kernel_rfl) Try.func7
    (ChangeSpec.witness6 (enc := enc) (C := Try.checked) false ⟨#[], #[.slice none 0 0, .int .i64 0], []⟩ 8 (by kernel_rfl) (by kernel_rfl) (by kernel_rfl) (by kernel_rfl)) ?_
  intro W base args ds gs before hval0 hW hcnd _
  have hval : ∀ (j : Nat) t v, Try.f7.params[j]? = some t → args[j]? = some v → Value.okWide Try.prog W .any base t v := hval0
  have hW' := hW
  obtain ⟨p, q, hA0, hV, rfl, hfz, hnd⟩ := hW
  have hA : DataW.TrodAll enc Try.prog W 0 (fun _ => true) true Try.f7.params.toList args.toList ds p := hA0
  rw [Try.params7] at hA hval
  obtain ⟨v0, vs0, d0, ds0, p0, q0, hargs, rfl, rfl, h0, r0⟩ := trodAll_cons hA
  obtain ⟨v1, vs1, d1, ds1, p1, q1, hargs1, rfl, rfl, h1, r1⟩ := trodAll_cons r0
  obtain ⟨rfl, rfl, rfl⟩ := trodAll_nil r1
  subst hargs1
  obtain rfl : args = #[v0, v1] := by cases args; simp_all
  obtain ⟨rfl, rfl⟩ := trodVars_none hV
  have k0 := h0
  have k1 := h1
  have lt0 : ∀ x ∈ p0, x.block < W.heap.size := by obtain ⟨m, hm⟩ := k0; exact DataW.trod_lt m _ _ _ hm
  have lt1 : ∀ x ∈ p1, x.block < W.heap.size := by obtain ⟨m, hm⟩ := k1; exact DataW.trod_lt m _ _ _ hm
  obtain ⟨a, rs, cap, rfl, hz, hc, hm⟩ := openRecs (hval 0 22 v0 rfl rfl) h0
  obtain ⟨t, rfl⟩ := okWide_int (P := Try.prog) (t := 3) Try.underlying3 (hval 1 3 v1 rfl rfl)
  clear hA0 hval0
  refine (walk rs a cap t W hz (Nat.le_trans hc hm)).mono fun e W' ⟨he, bel⟩ => ?_
  subst he
  exact ⟨_, rfl, _, _, _, [], _, [], hW', trodAll_mk1 (shut_bool Try.underlying4 _), (trodAll_cons_mk (Below.trod laidOut (by kernel_rfl) (of_decide_eq_true (by kernel_rfl)) k0 bel lt0) (trodAll_cons_mk (Below.trod laidOut (by kernel_rfl) (of_decide_eq_true (by kernel_rfl)) k1 bel lt1) trodAll_mk0)), rfl, bel.frame _, fun h => by cases h⟩

theorem proved : Rows.FnExactLogPagesSaid :=
  OpenClaim.holds_of_wide 7 Try.f7 rfl rfl rfl rfl rfl rfl rfl ⟨rfl, rfl, rfl, rfl, rfl⟩ rfl rfl rfl rfl rfl (by kernel_rfl) Try.func7 (by kernel_rfl)
    (of_decide_eq_true (by kernel_rfl)) (by unfold Func.isWrapper; first | (rw [if_pos (by decide +kernel)]; kernel_rfl) | (rw [if_neg (by decide +kernel)]; exact ⟨rfl, rfl⟩))
    (fun os started H enc _ => lifted os started H enc)
#print axioms proved
end Go.Proofs.Ytjiclphpeoffdaa.FnExactLogPages
