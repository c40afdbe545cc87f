/-
  Proved: FnExactPageEmpty returns true, whatever the page: PageEmpty answers as its model and leaves its argument as it was. No conditions.
-/
import Derived.Test.YtodnamaeadjhmaaTo
import Derived.Test.YtodnamaeadjhmaaOpenP
import Derived.Deep.RegionHeld3
import Derived.OpenShut
import Derived.ShutString
import Derived.ChangeOld
namespace Go.Proofs.Ytodnamaeadjhmaa.FnExactPageEmpty
open Go.ChangeShapes Go.WideShapes Go.ChangeAt Go.RowKit Base
set_option linter.unusedVariables false

set_option maxHeartbeats 2000000 in
theorem walk (l o : Int) (zs : List Int) (a : Option Addr) (cap : Nat) (w : World) (hz : Ints .i64 w w.heap.size a zs) (hc : zs.length ≤ cap) (hm : cap ≤ maxLen) :
    Calls Try.prog 7 #[pageV l o a zs.length cap] w (Keeps (.bool true) w) := by
  have Hz := Lib.hid hz
  have hm' : zs.length ≤ maxLen := Nat.le_trans hc hm
  clear hz
  go_enter Try.func7, Try.ntmps7
  go_wp2_with fail
  refine (szPage_any l o a zs.length cap 1048576 _ (by omega) (by omega) hm').mono ?_
  rintro e w1 ⟨rfl, b1⟩
  have q1 := (Has.new w 34 #[.int .i64 l, .int .i64 o, .slice a zs.length cap]).below b1 (by simp)
  have h1 : w.heap.size < w1.heap.size := q1.lt
  have B1 : Hid (Below w.heap.size w w1) := (below_one _ _).trans (b1.mono (by simp))
  clear b1
  obtain ⟨c0, c1, c2⟩ := q1.three
  have Q1 := Lib.hid q1
  clear q1
  by_cases hbig : (1048576 : Int) - zs.length < 0
  · have hq : Base.leftOf 1048576 zs.length = -1 := by unfold Base.leftOf; rw [if_pos hbig]
    rw [hq]
    clear hq
    go_wp2
    go_ret
    exact ⟨rfl, B1.out⟩
  · have hq : Base.leftOf 1048576 zs.length = 1048576 - zs.length := by unfold Base.leftOf; rw [if_neg hbig]
    rw [hq]
    clear hq
    have mx : zs.length ≤ 1000000000 := by omega
    go_wp2_with fail
    refine (toPage_any l o zs a cap w.heap.size _ (by omega) (Hz.out.below B1.out) mx).mono ?_
    rintro e w2 ⟨g2, rfl, b2, s2, r2, x2⟩
    have h2 := b2.size
    have q2 := Q1.out.below b2 (by omega)
    have B2 : Hid (Below w.heap.size w w2) := B1.out.trans (b2.mono (by omega))
    have R2 := Lib.hid r2
    have l2 := x2.1
    clear b2 r2 x2 c0 c1 c2 B1 Q1
    obtain ⟨c0, c1, c2⟩ := q2.three
    have Q2 := Lib.hid q2
    clear q2
    go_wp2_with fail
    refine (specPageEmpty_any l o zs _ zs.length w2.heap.size _ (Nat.le_refl _) (R2.out.ints l2) mx).mono ?_
    rintro e w3 ⟨rfl, b3⟩
    have h3 := b3.size
    have q3 := Q2.out.below b3 (by omega)
    have B3 : Hid (Below w.heap.size w w3) := B2.out.trans (b3.mono (by omega))
    clear b3 c0 c1 c2 B2 Q2 R2
    obtain ⟨c0, c1, c2⟩ := q3.three
    have Q3 := Lib.hid q3
    clear q3
    go_wp2_with fail
    refine (toPage_any l o zs a cap w.heap.size _ (by omega) (Hz.out.below B3.out) mx).mono ?_
    rintro e w4 ⟨g4, rfl, b4, s4, r4, x4⟩
    have h4 := b4.size
    have q4 := Q3.out.below b4 (by omega)
    have B4 : Hid (Below w.heap.size w w4) := B3.out.trans (b4.mono (by omega))
    have R4 := Lib.hid r4
    have l4 := x4.1
    have n4 : w.heap.size < w4.heap.size := by omega
    clear b4 r4 x4 c0 c1 c2 B3 Q3
    obtain ⟨c0, c1, c2⟩ := q4.three
    have Q4 := Lib.hid q4
    clear q4
    go_wp2_with fail
    refine (pageEmpty_any l o zs _ zs.length w4.heap.size _ (by simp) ((R4.out.ints l4).below (below_one _ _)) (Nat.le_refl _)).mono ?_
    rintro e w5 ⟨rfl, b5⟩
    have h5 := b5.size
    rw [World.size_alloc] at h5
    have q5 := (Q4.out.alloc _).below b5 (by simp; omega)
    have p5 := (Has.new w4 25 #[.int .i64 l, .int .i64 o, .slice (some ⟨g4, 0, none⟩) zs.length zs.length]).below b5 (by simp)
    have B5 : Hid (Below w.heap.size w w5) := (B4.out.alloc (by omega) _).trans (b5.mono (by simp; omega))
    have R5 := Lib.hid ((R4.out.below (below_one _ _) (by omega)).below b5 (by simp; omega))
    clear b5 c0 c1 c2 B4 Q4 R4
    obtain ⟨c0, c1, c2⟩ := q5.three
    obtain ⟨d0, d1, d2⟩ := p5.three
    have Q5 := Lib.hid q5
    have P5 := Lib.hid p5
    clear q5 p5
    cases (okP l o zs && zerosB zs)
    all_goals
      go_wp2_with fail
      go_region_held3 (fun w' => (w'.cell? ⟨w4.heap.size, 0, none⟩ = some (.int .i64 l) ∧ w'.cell? ⟨w4.heap.size, 1, none⟩ = some (.int .i64 o) ∧ w'.cell? ⟨w4.heap.size, 2, none⟩ = some (.slice (some ⟨g4, 0, none⟩) zs.length zs.length)) ∧ w'.cell? ⟨w.heap.size, 0, none⟩ = some (.int .i64 l) ∧ w'.cell? ⟨w.heap.size, 1, none⟩ = some (.int .i64 o) ∧ w'.cell? ⟨w.heap.size, 2, none⟩ = some (.slice a zs.length cap)) (go_keep)
        (first
          | (go_at_call 20; refine (toPage_any l o zs a cap w.heap.size _ (by simp; omega) (Hz.out.below B5.out.drew) mx).mono ?_; rintro e w6 ⟨g6, rfl, b6, s6, r6, x6⟩; obtain ⟨a0, a1, a2⟩ := (Q5.out.drew.below b6 (by simp; omega)).three; obtain ⟨e0, e1, e2⟩ := (P5.out.drew.below b6 (by simp; omega)).three; have h6 := b6.size; have l6 := x6.1; have B6 : Hid (Below w.heap.size w w6) := B5.out.drew.trans (b6.mono (by simp; omega)); have R56 := Lib.hid (R5.out.drew.below b6 (by simp; omega)); have R6 := Lib.hid r6; clear b6 r6 x6)
          | (go_at_call 16; refine (eqPage_any l l o o zs zs _ _ _ _ w6.heap.size _ (Nat.le_refl _) (R56.out.ints (by simp at h6; omega)) (R6.out.ints l6) mx mx).mono ?_; rintro e w7 ⟨rfl, b7⟩; obtain ⟨i0, i1, i2⟩ := three_keep b7 (by simp at h6; omega) ⟨e0, e1, e2⟩; obtain ⟨j0, j1, j2⟩ := three_keep b7 (by simp at h6; omega) ⟨a0, a1, a2⟩; have B7 : Hid (Below w.heap.size w w7) := B6.out.trans (b7.mono (by simp at h6; omega)); clear b7))
      clear a0 a1 a2 e0 e1 e2 i0 i1 i2 j0 j1 j2
      go_wp2
      go_ret
      exact ⟨rfl, B7.out⟩

theorem own : ownKnob Try.prog.godebug = none := by kernel_rfl
theorem laidOut : laidOutB Try.prog = true := by kernel_rfl

set_option maxRecDepth 100000 in
theorem lifted (os : Os) (started : os.Started) (H : Type) (enc : TypeId × Value → H) :
    ReturnsInHanded {} Try.checked os 7 .any (Rows.fnExactPageEmptySpec.pre6 enc Try.prog Try.f7 Rows.fnExactPageEmptyRow.domain false) (Rows.fnExactPageEmptySpec.post enc Try.prog Try.f7 false true false false) := by
  refine returnsInHanded_of_change (C := Try.checked) own started (by kernel_rfl) Try.func7
    (ChangeSpec.witness6 (enc := enc) (C := Try.checked) false ⟨#[], #[.agg #[.int .i64 0, .int .i64 0, .slice none 0 0]], []⟩ 8 (by kernel_rfl) (by kernel_rfl) (by kernel_rfl) (by kernel_rfl)) ?_
  intro W base args ds gs before hval0 hW hcnd _
  have hval : ∀ (j : Nat) t v, Try.f7.params[j]? = some t → args[j]? = some v → Value.okWide Try.prog W .any base t v := hval0
  have hW' := hW
  obtain ⟨p, q, hA0, hV, rfl, hfz, hnd⟩ := hW
  have hA : DataW.TrodAll enc Try.prog W 0 (fun _ => true) true Try.f7.params.toList args.toList ds p := hA0
  rw [Try.params7] at hA hval
  obtain ⟨v0, vs0, d0, ds0, p0, q0, hargs, rfl, rfl, h0, r0⟩ := trodAll_cons hA
  obtain ⟨rfl, rfl, rfl⟩ := trodAll_nil r0
  obtain rfl : args = #[v0] := by cases args; simp_all
  obtain ⟨rfl, rfl⟩ := trodVars_none hV
  have k0 := h0
  have lt0 : ∀ x ∈ p0, x.block < W.heap.size := by obtain ⟨m, hm⟩ := k0; exact DataW.trod_lt m _ _ _ hm
  obtain ⟨l, o, zs, a, cap, rfl, hz, hc, hm⟩ := openPage (hval 0 34 v0 rfl rfl) h0
  clear hA0 hval0
  refine (walk l o zs a cap W hz hc hm).mono fun e W' ⟨he, bel⟩ => ?_
  subst he
  exact ⟨_, rfl, _, _, _, [], _, [], hW', trodAll_mk1 (shut_bool Try.underlying4 _), (trodAll_cons_mk (Below.trod laidOut (by kernel_rfl) (of_decide_eq_true (by kernel_rfl)) k0 bel lt0) trodAll_mk0), rfl, bel.frame _, fun h => by cases h⟩

theorem proved : Rows.FnExactPageEmptySaid :=
  OpenClaim.holds_of_wide 7 Try.f7 rfl rfl rfl rfl rfl rfl rfl ⟨rfl, rfl, rfl, rfl, rfl⟩ rfl rfl rfl rfl rfl (by kernel_rfl) Try.func7 (by kernel_rfl)
    (of_decide_eq_true (by kernel_rfl)) (by unfold Func.isWrapper; first | (rw [if_pos (by decide +kernel)]; kernel_rfl) | (rw [if_neg (by decide +kernel)]; exact ⟨rfl, rfl⟩))
    (fun os started H enc _ => lifted os started H enc)
#print axioms proved
end Go.Proofs.Ytodnamaeadjhmaa.FnExactPageEmpty
