/-
  Proved: FnExactPageNew returns true, whatever the memory: PageNew answers as its model, twice, in memory of its own. No conditions.
-/
import Derived.Test.YtodnamaeadjhmaaPages
import Derived.OpenShut
import Derived.ShutString
import Derived.ChangeOld
namespace Go.Proofs.Ytodnamaeadjhmaa.FnExactPageNew
open Go.ChangeShapes Go.WideShapes Go.ChangeAt Go.RowKit Base
set_option linter.unusedVariables false

set_option maxHeartbeats 2000000 in
theorem walk (w : World) : Calls Try.prog 5 #[] w (Keeps (.bool true) w) := by
  go_enter Try.func5, Try.ntmps5
  go_wp2_with fail
  refine (specPageNew_any _).mono ?_
  rintro e w1 ⟨g1, o1, rfl, b1, s1, r1, x1⟩
  have B1 := Lib.hid b1
  have R1 := Lib.hid r1
  have X1 := Lib.hid x1
  have l1 := b1.size
  have l1' := x1.1
  clear b1 r1 x1
  go_wp2_with fail
  refine (pageNew_any _).mono ?_
  rintro e w2 ⟨g2, o2, rfl, b2, s2, r2, x2⟩
  have B2 := Lib.hid b2
  have R2 := Lib.hid r2
  have X2 := Lib.hid x2
  clear b2 r2 x2
  rw [World.size_alloc] at s2
  have hz := X2.out.1
  have hz1 : w1.heap.size < w2.heap.size := by omega
  have q1 := (Has.new w1 25 #[.int .i64 0, .int .i64 0, .slice (some ⟨g1, o1, none⟩) 3 3]).below B2.out (by simp)
  obtain ⟨c0, c1, c2⟩ := q1.three
  have Q1 := Lib.hid q1
  have r1 := (R1.out.below (below_one _ _) l1').below B2.out (by simp; omega)
  have R12 := Lib.hid r1
  have b12 : Below w.heap.size w w2 := (B1.out.alloc l1 _).trans (B2.out.mono (by simp; omega))
  have B12 := Lib.hid b12
  clear q1 r1 b12
  go_wp2_with fail
  refine (eqPage_any 0 0 0 0 [0, 0, 0] [0, 0, 0] _ _ 3 3 w2.heap.size _ (by simp) ((R2.out.ints hz).below (below_one _ _)) ((R12.out.ints (by omega)).below (below_one _ _)) (by simp) (by simp)).mono ?_
  rintro e w3 ⟨rfl, b3⟩
  have h3 : w2.heap.size < w3.heap.size := by have := b3.size; simp at this; omega
  have q1 := (Q1.out.alloc _).below b3 (by simp; omega)
  have q2 := (Has.new w2 25 #[.int .i64 0, .int .i64 0, .slice (some ⟨g2, o2, none⟩) 3 3]).below b3 (by simp)
  have R13 := Lib.hid ((R12.out.below (below_one _ _) (by omega)).below b3 (by simp; omega))
  have R23 := Lib.hid ((R2.out.below (below_one _ _) (by omega)).below b3 (by simp; omega))
  have X23 := Lib.hid ((X2.out.below (below_one _ _) (by omega)).below b3 (by simp; omega))
  have B13 := Lib.hid ((B12.out.alloc (by omega) _).trans (b3.mono (by simp; omega)))
  clear c0 c1 c2 b3 Q1 B12 R12 R1 X1 B1 B2 R2 X2
  obtain ⟨c0, c1, c2⟩ := q1.three
  obtain ⟨d0, d1, d2⟩ := q2.three
  have Q1 := Lib.hid q1
  have Q2 := Lib.hid q2
  clear q1 q2
  go_wp2_with fail
  refine (markPage_any 0 0 [0, 0, 0] g2 o2 3 1 _ R23.out X23.out (by omega) (by omega) (by simp)).mono ?_
  rintro e w4 ⟨rfl, g4, r4, x4⟩
  have h4 := g4.size
  have q1 := Q1.out.grown g4 (fun e => by injection e; omega)
  have q2 := Q2.out.grown g4 (fun e => by injection e; omega)
  have R14 := Lib.hid (R13.out.grown g4 (by omega) (fun e => by injection e; omega))
  have R24 := Lib.hid r4
  have B14 := Lib.hid (B13.out.trans (below_grown g4 (by omega) (by omega)))
  clear c0 c1 c2 d0 d1 d2 g4 r4 x4 Q1 Q2 R13 R23 X23 B13
  obtain ⟨c0, c1, c2⟩ := q1.three
  obtain ⟨d0, d1, d2⟩ := q2.three
  have Q1 := Lib.hid q1
  have Q2 := Lib.hid q2
  clear q1 q2
  go_wp2_with fail
  refine (heldPage_any 0 0 3 _ 3 w4.heap.size 1 _ (Nat.le_refl _) (R24.out.ints (by omega)) (by omega) (by omega) (by omega)).mono ?_
  rintro e w5 ⟨rfl, b5⟩
  have h5 := b5.size
  have q1 := Q1.out.below b5 (by omega)
  have q2 := Q2.out.below b5 (by omega)
  have R15 := Lib.hid (R14.out.below b5 (by omega))
  have R25 := Lib.hid (R24.out.below b5 (by omega))
  have B15 := Lib.hid (B14.out.trans (b5.mono (by omega)))
  clear c0 c1 c2 d0 d1 d2 b5 Q1 Q2 R14 R24 B14
  obtain ⟨c0, c1, c2⟩ := q1.three
  obtain ⟨d0, d1, d2⟩ := q2.three
  have Q1 := Lib.hid q1
  have Q2 := Lib.hid q2
  clear q1 q2
  go_wp2_with fail
  refine (pageNew_any _).mono ?_
  rintro e w6 ⟨g3, o3, rfl, b6, s6, r6, x6⟩
  have h6 := b6.size
  have h6' := x6.1
  have q1 := Q1.out.below b6 (by omega)
  have q2 := Q2.out.below b6 (by omega)
  have R16 := Lib.hid (R15.out.below b6 (by omega))
  have R26 := Lib.hid (R25.out.below b6 (by omega))
  have R36 := Lib.hid r6
  have B16 := Lib.hid (B15.out.trans (b6.mono (by omega)))
  clear c0 c1 c2 d0 d1 d2 b6 r6 x6 Q1 Q2 R15 R25 B15
  obtain ⟨c0, c1, c2⟩ := q1.three
  obtain ⟨d0, d1, d2⟩ := q2.three
  have n1 : w1.heap.size < w6.heap.size := by omega
  have n2 : w2.heap.size < w6.heap.size := by omega
  have Q2 := Lib.hid q2
  clear q1 q2
  go_wp2_with fail
  refine (eqPage_any 0 0 0 0 [0, 0, 0] [0, 0, 0] _ _ 3 3 w6.heap.size _ (by simp) ((R36.out.ints h6').below (below_one _ _)) ((R16.out.ints (by omega)).below (below_one _ _)) (by simp) (by simp)).mono ?_
  rintro e w7 ⟨rfl, b7⟩
  have h7 : w6.heap.size < w7.heap.size := by have := b7.size; simp at this; omega
  have q2 := (Q2.out.alloc _).below b7 (by simp; omega)
  have R27 := Lib.hid ((R26.out.below (below_one _ _) (by omega)).below b7 (by simp; omega))
  have B17 := Lib.hid ((B16.out.alloc (by omega) _).trans (b7.mono (by simp; omega)))
  clear c0 c1 c2 d0 d1 d2 b7 Q2 R16 R26 R36 B16
  obtain ⟨d0, d1, d2⟩ := q2.three
  clear q2
  go_wp2_with fail
  refine (heldPage_any 0 0 3 _ 3 w7.heap.size 1 _ (Nat.le_refl _) (R27.out.ints (by omega)) (by omega) (by omega) (by omega)).mono ?_
  rintro e w8 ⟨rfl, b8⟩
  have B18 := Lib.hid (B17.out.trans (b8.mono (by omega)))
  clear d0 d1 d2 b8 R27 B17
  go_wp2
  go_ret
  exact ⟨rfl, B18.out⟩

theorem own : ownKnob Try.prog.godebug = none := by kernel_rfl

set_option maxRecDepth 100000 in
theorem lifted (os : Os) (started : os.Started) (H : Type) (enc : TypeId × Value → H) :
    ReturnsInHanded {} Try.checked os 5 .any (Rows.fnExactPageNewSpec.pre6 enc Try.prog Try.f5 Rows.fnExactPageNewRow.domain false) (Rows.fnExactPageNewSpec.post enc Try.prog Try.f5 false true false false) := by
  refine returnsInHanded_of_change (C := Try.checked) own started (by kernel_rfl) Try.func5
    (ChangeSpec.witness6 (enc := enc) (C := Try.checked) false ⟨#[], #[], []⟩ 8 (by kernel_rfl) (by kernel_rfl) (by kernel_rfl) (by kernel_rfl)) ?_
  intro W base args ds gs before hval0 hW hcnd _
  have hW' := hW
  obtain ⟨p, q, hA0, hV, rfl, hfz, hnd⟩ := hW
  have hA : DataW.TrodAll enc Try.prog W 0 (fun _ => true) true Try.f5.params.toList args.toList ds p := hA0
  rw [Try.params5] at hA
  obtain ⟨rfl, rfl, rfl⟩ := trodAll_none hA
  obtain ⟨rfl, rfl⟩ := trodVars_none hV
  clear hA0 hval0
  simp only [List.append_nil] at hW'
  refine (walk W).mono fun e W' ⟨he, bel⟩ => ?_
  subst he
  exact ⟨_, rfl, _, _, _, [], [], [], hW', trodAll_mk1 (shut_bool Try.underlying4 _), trodAll_mk0, rfl, bel.frame _, fun h => by cases h⟩

theorem proved : Rows.FnExactPageNewSaid :=
  OpenClaim.holds_of_wide 5 Try.f5 rfl rfl rfl rfl rfl rfl rfl ⟨rfl, rfl, rfl, rfl, rfl⟩ rfl rfl rfl rfl rfl (by kernel_rfl) Try.func5 (by kernel_rfl)
    (of_decide_eq_true (by kernel_rfl)) (by unfold Func.isWrapper; first | (rw [if_pos (by decide +kernel)]; kernel_rfl) | (rw [if_neg (by decide +kernel)]; exact ⟨rfl, rfl⟩))
    (fun os started H enc _ => lifted os started H enc)
#print axioms proved
end Go.Proofs.Ytodnamaeadjhmaa.FnExactPageNew
