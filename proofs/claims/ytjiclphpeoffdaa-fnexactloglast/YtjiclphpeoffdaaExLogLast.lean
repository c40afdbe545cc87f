/-
  Proved: FnExactLogLast returns true, whatever the arguments: LogLast answers as its model, and leaves its argument as it was. No conditions.
-/
import Derived.Test.YtjiclphpeoffdaaLogL
import Derived.Test.YtjiclphpeoffdaaToRecs
import Derived.Test.YtjiclphpeoffdaaOpenRs
import Derived.OpenShut
import Derived.ShutString
import Derived.ChangeOld
namespace Go.Proofs.Ytjiclphpeoffdaa.FnExactLogLast
open Go.ChangeShapes Go.WideShapes Go.ChangeAt Go.RowKit Base

set_option maxHeartbeats 2000000 in
theorem walk (rs : List R) (a : Option Addr) (cap : Nat) (t : Int) (w : World) (hz : Recs w w.heap.size a rs) (hm : rs.length ≤ maxLen) :
    Calls Try.prog 4 #[.slice a rs.length cap, .int .i64 t] w (Keeps (.bool true) w) := by
  have Hz := Lib.hid hz
  clear hz
  by_cases hs : (1048576 : Int) - rs.length < 0
  · have Hl : Hid (leftN 1048576 rs.length = -1) := by
      show leftN 1048576 rs.length = -1
      unfold leftN
      rw [if_pos hs]
    clear hs
    go_enter Try.func4, Try.ntmps4
    go_wp2_with fail
    refine (szRecS_any a rs.length cap 1048576 _ (by omega) (by omega) hm).mono ?_
    rintro e w1 ⟨rfl, rfl⟩
    rw [Hl.out]
    go_wp2
    go_ret
    exact ⟨rfl, Below.refl _ _⟩
  · have mx : rs.length ≤ 1000000000 := by omega
    have Hl : Hid (leftN 1048576 rs.length = 1048576 - (rs.length : Int)) := by
      show leftN 1048576 rs.length = 1048576 - (rs.length : Int)
      unfold leftN
      rw [if_neg hs]
    have hs' : (0 : Int) ≤ 1048576 - (rs.length : Int) := by omega
    go_enter Try.func4, Try.ntmps4
    go_wp2_with fail
    refine (szRecS_any a rs.length cap 1048576 _ (by omega) (by omega) hm).mono ?_
    rintro e w1 ⟨rfl, rfl⟩
    rw [Hl.out]
    have hq : decide (1048576 - (rs.length : Int) < 0) = false := by simp; omega
    go_wp2_with fail
    refine (toRecS_any rs a cap w.heap.size _ (Nat.le_refl _) Hz.out mx).mono ?_
    rintro e w1 ⟨rfl, b1, r1, x1⟩
    have l1 := x1.1
    have B1 := Lib.hid b1
    have R1 := Lib.hid r1
    clear b1 r1 x1
    go_wp2_with fail
    refine (specLogLast_any rs t _ rs.length w1.heap.size _ (Nat.le_refl _) (R1.out.recs l1) (Nat.le_refl _) mx).mono ?_
    rintro e w2 ⟨rfl, b2⟩
    have B2 : Hid (Below w.heap.size w w2) := B1.out.trans (b2.mono (by omega))
    have l2 := B2.out.size
    clear b2 R1 B1
    go_wp2_with fail
    refine (toRecS_any rs a cap w.heap.size _ l2 (Hz.out.below B2.out) mx).mono ?_
    rintro e w3 ⟨rfl, b3, r3, x3⟩
    have l3 := x3.1
    have B3 : Hid (Below w.heap.size w w3) := B2.out.trans (b3.mono l2)
    have R3 := Lib.hid r3
    clear b3 r3 x3 B2
    go_wp2_with fail
    refine (logLast_any rs t _ rs.length w3.heap.size _ (Nat.le_refl _) (R3.out.recs l3) (Nat.le_refl _) mx).mono ?_
    rintro e w4 ⟨rfl, b4⟩
    have B4 : Hid (Below w.heap.size w w4) := B3.out.trans (b4.mono (by omega))
    have R4 := Lib.hid (R3.out.below b4 l3)
    have l4 : w2.heap.size < w4.heap.size := Nat.lt_of_lt_of_le l3 b4.size
    clear b4 R3 B3
    have l4' : w.heap.size ≤ w4.heap.size := B4.out.size
    have hbb : (lastB rs t != lastB rs t) = false := by simp
    generalize lastB rs t = z at *
    all_goals
      go_wp2_with fail
      refine (toRecS_any rs a cap w.heap.size _ l4' (Hz.out.below B4.out) mx).mono ?_
      rintro e w5 ⟨rfl, b5, r5, x5⟩
      have l5 := x5.1
      have B5 : Hid (Below w.heap.size w w5) := B4.out.trans (b5.mono l4')
      have R5 := Lib.hid r5
      have R45 := Lib.hid (R4.out.below b5 l4)
      clear b5 r5 x5
      go_wp2_with fail
      refine (eqRecS_same rs _ _ _ _ w5.heap.size _ (Nat.le_refl _) (R45.out.recs (by omega)) (R5.out.recs l5) mx).mono ?_
      rintro e w6 ⟨rfl, b6⟩
      have B6 : Hid (Below w.heap.size w w6) := B5.out.trans (b6.mono (by omega))
      clear b6
      go_wp2
      go_ret
      exact ⟨rfl, B6.out⟩

theorem own : ownKnob Try.prog.godebug = none := by kernel_rfl
theorem laidOut : laidOutB Try.prog = true := by kernel_rfl

set_option maxRecDepth 100000 in
theorem lifted (os : Os) (started : os.Started) (H : Type) (enc : TypeId × Value → H) :
    ReturnsInHanded {} Try.checked os 4 .any (Rows.fnExactLogLastSpec.pre6 enc Try.prog Try.f4 Rows.fnExactLogLastRow.domain false) (Rows.fnExactLogLastSpec.post enc Try.prog Try.f4 false true false false) := by
  refine returnsInHanded_of_change (C := Try.checked) own started (by kernel_rfl) Try.func4
    (ChangeSpec.witness6 (enc := enc) (C := Try.checked) false ⟨#[], #[.slice none 0 0, .int .i64 0], []⟩ 8 (by kernel_rfl) (by kernel_rfl) (by kernel_rfl) (by kernel_rfl)) ?_
  intro W base args ds gs before hval0 hW hcnd _
  have hval : ∀ (j : Nat) t v, Try.f4.params[j]? = some t → args[j]? = some v → Value.okWide Try.prog W .any base t v := hval0
  have hW' := hW
  obtain ⟨p, q, hA0, hV, rfl, hfz, hnd⟩ := hW
  have hA : DataW.TrodAll enc Try.prog W 0 (fun _ => true) true Try.f4.params.toList args.toList ds p := hA0
  rw [Try.params4] at hA hval
  obtain ⟨v0, vs0, d0, ds0, p0, q0, hargs, rfl, rfl, h0, r0⟩ := trodAll_cons hA
  obtain ⟨v1, vs1, d1, ds1, p1, q1, hargs1, rfl, rfl, h1, r1⟩ := trodAll_cons r0
  obtain ⟨rfl, rfl, rfl⟩ := trodAll_nil r1
  subst hargs1
  obtain rfl : args = #[v0, v1] := by cases args; simp_all
  obtain ⟨rfl, rfl⟩ := trodVars_none hV
  have k0 := h0
  have k1 := h1
  have lt0 : ∀ x ∈ p0, x.block < W.heap.size := by obtain ⟨m, hm⟩ := k0; exact DataW.trod_lt m _ _ _ hm
  have lt1 : ∀ x ∈ p1, x.block < W.heap.size := by obtain ⟨m, hm⟩ := k1; exact DataW.trod_lt m _ _ _ hm
  obtain ⟨a, rs, cap, rfl, hz, hc, hm⟩ := openRecs (hval 0 22 v0 rfl rfl) h0
  obtain ⟨t, rfl⟩ := okWide_int (P := Try.prog) (t := 3) Try.underlying3 (hval 1 3 v1 rfl rfl)
  clear hA0 hval0
  refine (walk rs a cap t W hz (Nat.le_trans hc hm)).mono fun e W' ⟨he, bel⟩ => ?_
  subst he
  exact ⟨_, rfl, _, _, _, [], _, [], hW', trodAll_mk1 (shut_bool Try.underlying4 _), (trodAll_cons_mk (Below.trod laidOut (by kernel_rfl) (of_decide_eq_true (by kernel_rfl)) k0 bel lt0) (trodAll_cons_mk (Below.trod laidOut (by kernel_rfl) (of_decide_eq_true (by kernel_rfl)) k1 bel lt1) trodAll_mk0)), rfl, bel.frame _, fun h => by cases h⟩

theorem proved : Rows.FnExactLogLastSaid :=
  OpenClaim.holds_of_wide 4 Try.f4 rfl rfl rfl rfl rfl rfl rfl ⟨rfl, rfl, rfl, rfl, rfl⟩ rfl rfl rfl rfl rfl (by kernel_rfl) Try.func4 (by kernel_rfl)
    (of_decide_eq_true (by kernel_rfl)) (by unfold Func.isWrapper; first | (rw [if_pos (by decide +kernel)]; kernel_rfl) | (rw [if_neg (by decide +kernel)]; exact ⟨rfl, rfl⟩))
    (fun os started H enc _ => lifted os started H enc)
#print axioms proved
end Go.Proofs.Ytjiclphpeoffdaa.FnExactLogLast
