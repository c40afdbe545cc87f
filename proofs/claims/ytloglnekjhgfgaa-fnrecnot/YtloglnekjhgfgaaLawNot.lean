/-
  Proved: FnRecNot returns true, whatever the codes: RecBack answers as its model, and what changes no page is not undone. No conditions.
-/
import Derived.Test.YtloglnekjhgfgaaBack
import Derived.Test.YtloglnekjhgfgaaDrawBack
import Derived.Test.YtloglnekjhgfgaaOpen
import Derived.Deep.RegionHeld3
import Derived.OpenShut
import Derived.ShutString
import Derived.ChangeOld
namespace Go.Proofs.Ytloglnekjhgfgaa.FnRecNot
open Go.ChangeShapes Go.WideShapes Go.ChangeAt Go.RowKit Base
set_option linter.unusedVariables false

attribute [local go_sem ↓] neq8 eql8

theorem again (r : R) (prev : Int) (b : Bool) : backB (if b then backR r prev else zR) prev = false := by
  cases b
  · simp [backB, zR, pu]
  · simp [backB, backR, pu]

set_option maxRecDepth 100000 in
set_option maxHeartbeats 8000000 in
theorem walk (a : Option Addr) (cs : List Int) (cap : Nat) (w : World) (hc : Bytes w w.heap.size a cs cap) :
    Calls Try.prog 7 #[.slice a cs.length cap] w (Keeps (.bool true) w) := by
  have hm : cs.length ≤ maxLen := Nat.le_trans hc.fit hc.most
  unfold maxLen at hm
  have H := Lib.hid hc
  clear hc
  by_cases hbig : (1048576 : Int) < cs.length
  · go_enter Try.func7, Try.ntmps7
    go_wp2
    go_ret
    exact ⟨rfl, Below.refl _ _⟩
  have bbig : decide ((1048576 : Int) < cs.length) = false := by simpa using hbig
  clear hbig
  go_enter Try.func7, Try.ntmps7
  go_wp2_with fail
  refine (drawRecBack_any a cs cap w.heap.size _ (Nat.le_refl _) H.out).mono ?_
  rintro e w1 ⟨b1, r, prev, rfl, hp0, hp1⟩
  have R2 := Lib.hid (Has.new w1 24 #[.int .i64 r.k, .int .i64 r.t, .int .i64 r.p, .int .i64 r.s, .int .i64 r.o, .int .i64 r.n, .int .i64 r.v, .int .i64 r.x])
  have B2 := Lib.hid (b1.alloc b1.size (.cells #[.int .i64 r.k, .int .i64 r.t, .int .i64 r.p, .int .i64 r.s, .int .i64 r.o, .int .i64 r.n, .int .i64 r.v, .int .i64 r.x] 24))
  clear b1 H
  go_wp2_with fail
  generalize (w1.alloc (.cells #[.int .i64 r.k, .int .i64 r.t, .int .i64 r.p, .int .i64 r.s, .int .i64 r.o, .int .i64 r.n, .int .i64 r.v, .int .i64 r.x] 24)) = w2 at *
  generalize w1.heap.size = rb at *
  refine (specRecBack_any r prev _).mono ?_
  rintro e w3 ⟨rfl, b3⟩
  have n2 : rb < w2.heap.size := R2.out.lt
  have R3 := Lib.hid (R2.out.below b3 n2)
  have B3 := Lib.hid (B2.out.trans (b3.mono (by have := B2.out.size; omega)))
  have AG := Lib.hid (again r prev (backB r prev))
  have n3 : rb < w3.heap.size := R3.out.lt
  clear b3 R2 B2
  generalize hq : (if backB r prev then backR r prev else zR) = q at *
  have R4 := Lib.hid (R3.out.alloc (.cells #[.int .i64 q.k, .int .i64 q.t, .int .i64 q.p, .int .i64 q.s, .int .i64 q.o, .int .i64 q.n, .int .i64 q.v, .int .i64 q.x] 24))
  have W4 := Lib.hid (Has.new w3 24 #[.int .i64 q.k, .int .i64 q.t, .int .i64 q.p, .int .i64 q.s, .int .i64 q.o, .int .i64 q.n, .int .i64 q.v, .int .i64 q.x])
  have B4 := Lib.hid (B3.out.alloc B3.out.size (.cells #[.int .i64 q.k, .int .i64 q.t, .int .i64 q.p, .int .i64 q.s, .int .i64 q.o, .int .i64 q.n, .int .i64 q.v, .int .i64 q.x] 24))
  obtain ⟨c0, c1, c2, c3, c4, c5, c6, c7⟩ := eight R3.out
  have HQ := Lib.hid hq
  clear hq R3 B3
  go_wp2_with fail
  generalize (w3.alloc (.cells #[.int .i64 q.k, .int .i64 q.t, .int .i64 q.p, .int .i64 q.s, .int .i64 q.o, .int .i64 q.n, .int .i64 q.v, .int .i64 q.x] 24)) = w4 at *
  generalize w3.heap.size = wb at *
  clear c0 c1 c2 c3 c4 c5 c6 c7
  refine (recBack_any r prev _).mono ?_
  rintro e w5 ⟨rfl, b5⟩
  rw [HQ.out]
  have R6 := Lib.hid ((R4.out.below b5 R4.out.lt).alloc (.cells #[.int .i64 q.k, .int .i64 q.t, .int .i64 q.p, .int .i64 q.s, .int .i64 q.o, .int .i64 q.n, .int .i64 q.v, .int .i64 q.x] 24))
  have W6 := Lib.hid ((W4.out.below b5 W4.out.lt).alloc (.cells #[.int .i64 q.k, .int .i64 q.t, .int .i64 q.p, .int .i64 q.s, .int .i64 q.o, .int .i64 q.n, .int .i64 q.v, .int .i64 q.x] 24))
  have V6 := Lib.hid (Has.new w5 24 #[.int .i64 q.k, .int .i64 q.t, .int .i64 q.p, .int .i64 q.s, .int .i64 q.o, .int .i64 q.n, .int .i64 q.v, .int .i64 q.x])
  have b6 := B4.out.trans (b5.mono B4.out.size)
  have B6 := Lib.hid (b6.alloc b6.size (.cells #[.int .i64 q.k, .int .i64 q.t, .int .i64 q.p, .int .i64 q.s, .int .i64 q.o, .int .i64 q.n, .int .i64 q.v, .int .i64 q.x] 24))
  clear b5 b6 R4 W4 B4
  go_upto_region 6 with (fail)
  generalize (w5.alloc (.cells #[.int .i64 q.k, .int .i64 q.t, .int .i64 q.p, .int .i64 q.s, .int .i64 q.o, .int .i64 q.n, .int .i64 q.v, .int .i64 q.x] 24)) = w6 at *
  generalize w5.heap.size = vb at *
  have heq : eqR ⟨q.k, q.t, q.p, q.s, q.o, q.n, q.v, q.x⟩ ⟨q.k, q.t, q.p, q.s, q.o, q.n, q.v, q.x⟩ = true := eqR_refl _
  obtain ⟨c0, c1, c2, c3, c4, c5, c6, c7⟩ := eight R6.out
  obtain ⟨d0, d1, d2, d3, d4, d5, d6, d7⟩ := eight W6.out
  obtain ⟨f0, f1, f2, f3, f4, f5, f6, f7⟩ := eight V6.out
  have nr : rb < w6.heap.size := R6.out.lt
  cases hb : backB r prev
  all_goals
    have HB := Lib.hid hb
    clear hb
    go_wp2_with fail
    refine (specRecOk_any r _).mono ?_
    rintro e w7 ⟨rfl, b7⟩
    have R7 := Lib.hid (R6.out.below b7 nr)
    have W7 := Lib.hid (W6.out.below b7 W6.out.lt)
    have V7 := Lib.hid (V6.out.below b7 V6.out.lt)
    have B7 := Lib.hid (B6.out.trans (b7.mono B6.out.size))
    clear b7 R6 W6 V6 B6 c0 c1 c2 c3 c4 c5 c6 c7 d0 d1 d2 d3 d4 d5 d6 d7 f0 f1 f2 f3 f4 f5 f6 f7
    obtain ⟨c0, c1, c2, c3, c4, c5, c6, c7⟩ := eight R7.out
    obtain ⟨d0, d1, d2, d3, d4, d5, d6, d7⟩ := eight W7.out
    obtain ⟨f0, f1, f2, f3, f4, f5, f6, f7⟩ := eight V7.out
    have K := Lib.hid B7.out
    cases hr : okR r
    · clear hr R7 W7 V7 B7
      go_wp2
      go_ret
      exact ⟨rfl, K.out⟩
    by_cases hn : prev < 0
    · have bn : decide (prev < 0) = true := by simpa using hn
      clear hr hn R7 W7 V7 B7
      go_wp2
      go_ret
      exact ⟨rfl, K.out⟩
    have bn : decide (prev < 0) = false := by simpa using hn
    by_cases hm : 150 < prev
    · have bm : decide (150 < prev) = true := by simpa using hm
      clear hr hn hm R7 W7 V7 B7
      go_wp2
      go_ret
      exact ⟨rfl, K.out⟩
    have bm : decide (150 < prev) = false := by simpa using hm
    have HU : Hid (backB r prev = pu r.k) := by
      show backB r prev = pu r.k
      have hi : inB prev 0 150 = true := by simp only [inB, Bool.and_eq_true, decide_eq_true_eq]; omega
      simp [backB, hr, hi]
    clear hr hn hm
    go_wp2_with fail
    refine (recBack_any q prev _).mono ?_
    rintro e w8 ⟨rfl, b8⟩
    rw [AG.out]
    have R8 := Lib.hid (R7.out.below b8 R7.out.lt)
    have B8 := Lib.hid (B7.out.trans (b8.mono B7.out.size))
    have n8 : rb < w8.heap.size := R8.out.lt
    clear b8 R7 W7 V7 B7 K c0 c1 c2 c3 c4 c5 c6 c7 d0 d1 d2 d3 d4 d5 d6 d7 f0 f1 f2 f3 f4 f5 f6 f7
    obtain ⟨c0, c1, c2, c3, c4, c5, c6, c7⟩ := eight R8.out
    have hu := HU.out
    rw [HB.out] at hu
    cases k1 : (r.k == 1) <;> cases k2 : (r.k == 2)
    all_goals first
      | (exfalso; simp [pu, k1, k2] at hu; done)
      | (clear hu; go_wp2; go_ret; exact ⟨rfl, B8.out.alloc B8.out.size _⟩)

theorem own : ownKnob Try.prog.godebug = none := by kernel_rfl
theorem laidOut : laidOutB Try.prog = true := by kernel_rfl

set_option maxRecDepth 100000 in
theorem lifted (os : Os) (started : os.Started) (H : Type) (enc : TypeId × Value → H) :
    ReturnsInHanded {} Try.checked os 7 .any (Rows.fnRecNotSpec.pre6 enc Try.prog Try.f7 Rows.fnRecNotRow.domain false) (Rows.fnRecNotSpec.post enc Try.prog Try.f7 false true false false) := by
  refine returnsInHanded_of_change (C := Try.checked) own started (by kernel_rfl) Try.func7
    (ChangeSpec.witness6 (enc := enc) (C := Try.checked) false ⟨#[], #[.slice none 0 0], []⟩ 8 (by kernel_rfl) (by kernel_rfl) (by kernel_rfl) (by kernel_rfl)) ?_
  intro W base args ds gs before hval0 hW hcnd _
  have hval : ∀ (j : Nat) t v, Try.f7.params[j]? = some t → args[j]? = some v → Value.okWide Try.prog W .any base t v := hval0
  have hW' := hW
  obtain ⟨p, q, hA0, hV, rfl, hfz, hnd⟩ := hW
  have hA : DataW.TrodAll enc Try.prog W 0 (fun _ => true) true Try.f7.params.toList args.toList ds p := hA0
  rw [Try.params7] at hA hval
  obtain ⟨v0, vs0, d0, ds0, p0, q0, hargs, rfl, rfl, h0, r0⟩ := trodAll_cons hA
  obtain ⟨rfl, rfl, rfl⟩ := trodAll_nil r0
  obtain rfl : args = #[v0] := by cases args; simp_all
  obtain ⟨rfl, rfl⟩ := trodVars_none hV
  have k0 := h0
  have lt0 : ∀ x ∈ p0, x.block < W.heap.size := by obtain ⟨m, hm⟩ := k0; exact DataW.trod_lt m _ _ _ hm
  obtain ⟨a, cs, cap, rfl, hc⟩ := openBytes Try.underlying22 Try.underlying5 (by kernel_rfl) (hval 0 22 v0 rfl rfl) h0
  clear hA0 hval0
  refine (walk a cs cap W hc).mono fun e W' ⟨he, bel⟩ => ?_
  subst he
  exact ⟨_, rfl, _, _, _, [], _, [], hW', trodAll_mk1 (shut_bool Try.underlying4 _), (trodAll_cons_mk (Below.trod laidOut (by kernel_rfl) (of_decide_eq_true (by kernel_rfl)) k0 bel lt0) trodAll_mk0), rfl, bel.frame _, fun h => by cases h⟩

theorem proved : Rows.FnRecNotSaid :=
  OpenClaim.holds_of_wide 7 Try.f7 rfl rfl rfl rfl rfl rfl rfl ⟨rfl, rfl, rfl, rfl, rfl⟩ rfl rfl rfl rfl rfl (by kernel_rfl) Try.func7 (by kernel_rfl)
    (of_decide_eq_true (by kernel_rfl)) (by unfold Func.isWrapper; first | (rw [if_pos (by decide +kernel)]; kernel_rfl) | (rw [if_neg (by decide +kernel)]; exact ⟨rfl, rfl⟩))
    (fun os started H enc _ => lifted os started H enc)
#print axioms proved
end Go.Proofs.Ytloglnekjhgfgaa.FnRecNot
