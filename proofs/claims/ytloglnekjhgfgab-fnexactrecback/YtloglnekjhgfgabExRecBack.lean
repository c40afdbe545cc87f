/-
  Proved: FnExactRecBack returns true, whatever the record and the number: RecBack answers as its model. No conditions.
-/
import Derived.Test.YtloglnekjhgfgabBack
import Derived.Test.YtloglnekjhgfgabEqRec
import Derived.Test.YtloglnekjhgfgabOpenR
import Derived.OpenShut
import Derived.ShutString
import Derived.ChangeOld
namespace Go.Proofs.Ytloglnekjhgfgab.FnExactRecBack
open Go.ChangeShapes Go.WideShapes Go.ChangeAt Go.RowKit Base

set_option maxHeartbeats 2000000 in
theorem walk (r : R) (prev : Int) (w : World) : Calls Try.prog 4 #[recV r, .int .i64 prev] w (Keeps (.bool true) w) := by
  go_enter Try.func4, Try.ntmps4
  go_wp2_with fail
  refine (toRec_any r _).mono ?_
  rintro e w1 ⟨rfl, b1⟩
  have Q1 := Lib.hid ((Has.new w 26 #[.int .i64 r.k, .int .i64 r.t, .int .i64 r.p, .int .i64 r.s, .int .i64 r.o, .int .i64 r.n, .int .i64 r.v, .int .i64 r.x]).below b1 (by simp))
  have B1 : Hid (Below w.heap.size w w1) := (below_one _ _).trans (b1.mono (by simp))
  have l1 : w.heap.size < w1.heap.size := Q1.out.lt
  clear b1
  go_wp2_with fail
  refine (specRecBack_any r prev _).mono ?_
  rintro e w2 ⟨rfl, b2⟩
  have Q2 := Lib.hid (Q1.out.below b2 l1)
  have B2 := Lib.hid (B1.out.trans (b2.mono (by omega)))
  have l2 : w.heap.size < w2.heap.size := Q2.out.lt
  clear b2 Q1 B1
  generalize hq : (if backB r prev then backR r prev else zR) = q at *
  have HQ := Lib.hid hq
  clear hq
  have W3 := Lib.hid (Has.new w2 32 #[.int .i64 q.k, .int .i64 q.t, .int .i64 q.p, .int .i64 q.s, .int .i64 q.o, .int .i64 q.n, .int .i64 q.v, .int .i64 q.x])
  have Q3 := Lib.hid (Q2.out.alloc (.cells #[.int .i64 q.k, .int .i64 q.t, .int .i64 q.p, .int .i64 q.s, .int .i64 q.o, .int .i64 q.n, .int .i64 q.v, .int .i64 q.x] 32))
  have B3 := Lib.hid (B2.out.alloc B2.out.size (.cells #[.int .i64 q.k, .int .i64 q.t, .int .i64 q.p, .int .i64 q.s, .int .i64 q.o, .int .i64 q.n, .int .i64 q.v, .int .i64 q.x] 32))
  clear Q2 B2
  go_upto_region 2 with (fail)
  generalize (w2.alloc (.cells #[.int .i64 q.k, .int .i64 q.t, .int .i64 q.p, .int .i64 q.s, .int .i64 q.o, .int .i64 q.n, .int .i64 q.v, .int .i64 q.x] 32)) = w3 at *
  generalize w2.heap.size = wb at *
  obtain ⟨c0, c1, c2, c3, c4, c5, c6, c7⟩ := eight Q3.out
  go_wp2_with fail
  refine (toRec_any r _).mono ?_
  rintro e w4 ⟨rfl, b4⟩
  have W4 := Lib.hid (W3.out.below b4 W3.out.lt)
  have B4 := Lib.hid (B3.out.trans (b4.mono B3.out.size))
  clear b4 W3 B3 Q3 c0 c1 c2 c3 c4 c5 c6 c7
  go_wp2_with fail
  refine (recBack_any r prev _).mono ?_
  rintro e w5 ⟨rfl, b5⟩
  rw [HQ.out]
  have W5 := W4.out.below b5 W4.out.lt
  have b5' := B4.out.trans (b5.mono B4.out.size)
  have W6 := Lib.hid (W5.alloc (.cells #[.int .i64 q.k, .int .i64 q.t, .int .i64 q.p, .int .i64 q.s, .int .i64 q.o, .int .i64 q.n, .int .i64 q.v, .int .i64 q.x] 32))
  have V6 := Lib.hid (Has.new w5 32 #[.int .i64 q.k, .int .i64 q.t, .int .i64 q.p, .int .i64 q.s, .int .i64 q.o, .int .i64 q.n, .int .i64 q.v, .int .i64 q.x])
  have B6 := Lib.hid (b5'.alloc b5'.size (.cells #[.int .i64 q.k, .int .i64 q.t, .int .i64 q.p, .int .i64 q.s, .int .i64 q.o, .int .i64 q.n, .int .i64 q.v, .int .i64 q.x] 32))
  clear b5 b5' W4 W5 B4
  go_upto_region 3 with (fail)
  generalize (w5.alloc (.cells #[.int .i64 q.k, .int .i64 q.t, .int .i64 q.p, .int .i64 q.s, .int .i64 q.o, .int .i64 q.n, .int .i64 q.v, .int .i64 q.x] 32)) = w6 at *
  generalize w5.heap.size = vb at *
  obtain ⟨d0, d1, d2, d3, d4, d5, d6, d7⟩ := eight W6.out
  obtain ⟨f0, f1, f2, f3, f4, f5, f6, f7⟩ := eight V6.out
  go_wp2_with fail
  refine (eqRec_same q _).mono ?_
  rintro e w7 ⟨rfl, b7⟩
  have B7 := Lib.hid (B6.out.trans (b7.mono B6.out.size))
  clear b7 W6 V6 B6 d0 d1 d2 d3 d4 d5 d6 d7 f0 f1 f2 f3 f4 f5 f6 f7
  cases backB r prev
  all_goals
    go_wp2
    go_ret
    exact ⟨rfl, B7.out⟩

theorem own : ownKnob Try.prog.godebug = none := by kernel_rfl
theorem laidOut : laidOutB Try.prog = true := by kernel_rfl

set_option maxRecDepth 100000 in
theorem lifted (os : Os) (started : os.Started) (H : Type) (enc : TypeId × Value → H) :
    ReturnsInHanded {} Try.checked os 4 .any (Rows.fnExactRecBackSpec.pre6 enc Try.prog Try.f4 Rows.fnExactRecBackRow.domain false) (Rows.fnExactRecBackSpec.post enc Try.prog Try.f4 false true false false) := by
  refine returnsInHanded_of_change (C := Try.checked) own started (by kernel_rfl) Try.func4
    (ChangeSpec.witness6 (enc := enc) (C := Try.checked) false ⟨#[], #[.agg #[.int .i64 0, .int .i64 0, .int .i64 0, .int .i64 0, .int .i64 0, .int .i64 0, .int .i64 0, .int .i64 0], .int .i64 0], []⟩ 8 (by kernel_rfl) (by kernel_rfl) (by kernel_rfl) (by kernel_rfl)) ?_
  intro W base args ds gs before hval0 hW hcnd _
  have hval : ∀ (j : Nat) t v, Try.f4.params[j]? = some t → args[j]? = some v → Value.okWide Try.prog W .any base t v := hval0
  have hW' := hW
  obtain ⟨p, q, hA0, hV, rfl, hfz, hnd⟩ := hW
  have hA : DataW.TrodAll enc Try.prog W 0 (fun _ => true) true Try.f4.params.toList args.toList ds p := hA0
  rw [Try.params4] at hA hval
  obtain ⟨v0, vs0, d0, ds0, p0, q0, hargs, rfl, rfl, h0, r0⟩ := trodAll_cons hA
  obtain ⟨v1, vs1, d1, ds1, p1, q1, rfl, rfl, rfl, h1, r1⟩ := trodAll_cons r0
  obtain ⟨rfl, rfl, rfl⟩ := trodAll_nil r1
  obtain rfl : args = #[v0, v1] := by cases args; simp_all
  obtain ⟨rfl, rfl⟩ := trodVars_none hV
  have k0 := h0
  have k1 := h1
  have lt0 : ∀ x ∈ p0, x.block < W.heap.size := by obtain ⟨m, hm⟩ := k0; exact DataW.trod_lt m _ _ _ hm
  have lt1 : ∀ x ∈ p1, x.block < W.heap.size := by obtain ⟨m, hm⟩ := k1; exact DataW.trod_lt m _ _ _ hm
  obtain ⟨r, rfl⟩ := openRec (hval 0 26 v0 rfl rfl)
  obtain ⟨prev, rfl⟩ := okWide_int Try.underlying3 (hval 1 3 v1 rfl rfl)
  clear hA0 hval0
  refine (walk r prev W).mono fun e W' ⟨he, bel⟩ => ?_
  subst he
  exact ⟨_, rfl, _, _, _, [], _, [], hW', trodAll_mk1 (shut_bool Try.underlying4 _), (trodAll_cons_mk (Below.trod laidOut (by kernel_rfl) (of_decide_eq_true (by kernel_rfl)) k0 bel lt0) (trodAll_cons_mk (Below.trod laidOut (by kernel_rfl) (of_decide_eq_true (by kernel_rfl)) k1 bel lt1) trodAll_mk0)), rfl, bel.frame _, fun h => by cases h⟩

theorem proved : Rows.FnExactRecBackSaid :=
  OpenClaim.holds_of_wide 4 Try.f4 rfl rfl rfl rfl rfl rfl rfl ⟨rfl, rfl, rfl, rfl, rfl⟩ rfl rfl rfl rfl rfl (by kernel_rfl) Try.func4 (by kernel_rfl)
    (of_decide_eq_true (by kernel_rfl)) (by unfold Func.isWrapper; first | (rw [if_pos (by decide +kernel)]; kernel_rfl) | (rw [if_neg (by decide +kernel)]; exact ⟨rfl, rfl⟩))
    (fun os started H enc _ => lifted os started H enc)
#print axioms proved
end Go.Proofs.Ytloglnekjhgfgab.FnExactRecBack
