/-
  Proved: FnRecForm returns true, whatever the code: RecOk answers as its model, and a valid record is invalid with another transaction, page, kind or slot that is none. No conditions.
-/
import Derived.Test.YtcahmiklcjlkmaaRecOkI
import Derived.Test.YtcahmiklcjlkmaaDrawOk
import Derived.Test.YtcahmiklcjlkmaaOpen
import Derived.Deep.DeepCutAuto
import Derived.OpenShut
import Derived.ShutString
import Derived.ChangeOld
namespace Go.Proofs.Ytcahmiklcjlkmaa.FnRecForm
open Go.ChangeShapes Go.WideShapes Go.ChangeAt Go.RowKit Base

theorem bad_tx (k p s o n v x : Int) : okR ⟨k, 0, p, s, o, n, v, x⟩ = false := by simp [okR, inB]
theorem bad_kind (t p s o n v x : Int) : okR ⟨7, t, p, s, o, n, v, x⟩ = false := by simp [okR, formB]
theorem bad_page (k t s o n v x : Int) : okR ⟨k, t, 5, s, o, n, v, x⟩ = false := by simp [okR, formB, ofB, inB]
theorem bad_slot (k t p o n v x : Int) : okR ⟨k, t, p, 3, o, n, v, x⟩ = false := by simp [okR, formB, ofB, inB]

set_option maxRecDepth 100000 in
set_option maxHeartbeats 8000000 in
theorem walk (a : Option Addr) (cs : List Int) (cap : Nat) (w : World) (hc : Bytes w w.heap.size a cs cap) :
    Calls Try.prog 3 #[.slice a cs.length cap] w (Keeps (.bool true) w) := by
  have hm : cs.length ≤ maxLen := Nat.le_trans hc.fit hc.most
  unfold maxLen at hm
  have H := Lib.hid hc
  clear hc
  by_cases hbig : (1048576 : Int) < cs.length
  · go_enter Try.func3, Try.ntmps3
    go_wp2
    go_ret
    exact ⟨rfl, Below.refl _ _⟩
  have bbig : decide ((1048576 : Int) < cs.length) = false := by simpa using hbig
  clear hbig
  go_enter Try.func3, Try.ntmps3
  go_wp2_with fail
  refine (drawRecOk_any a cs cap w.heap.size _ (Nat.le_refl _) H.out).mono ?_
  rintro e w1 ⟨b1, r, rfl⟩
  have R2 := Lib.hid (Has.new w1 24 #[.int .i64 r.k, .int .i64 r.t, .int .i64 r.p, .int .i64 r.s, .int .i64 r.o, .int .i64 r.n, .int .i64 r.v, .int .i64 r.x])
  have B2 := Lib.hid (b1.alloc b1.size (.cells #[.int .i64 r.k, .int .i64 r.t, .int .i64 r.p, .int .i64 r.s, .int .i64 r.o, .int .i64 r.n, .int .i64 r.v, .int .i64 r.x] 24))
  clear b1 H
  go_wp2_with fail
  generalize (w1.alloc (.cells #[.int .i64 r.k, .int .i64 r.t, .int .i64 r.p, .int .i64 r.s, .int .i64 r.o, .int .i64 r.n, .int .i64 r.v, .int .i64 r.x] 24)) = w2 at *
  generalize w1.heap.size = rb at *
  refine (recOk_any r _).mono ?_
  rintro e w3 ⟨rfl, b3⟩
  have R3 := Lib.hid (R2.out.below b3 R2.out.lt)
  have B3 := Lib.hid (B2.out.trans (b3.mono B2.out.size))
  clear b3 R2 B2
  obtain ⟨c0, c1, c2, c3, c4, c5, c6, c7⟩ := eight R3.out
  go_wp2_with fail
  refine (specRecOk_any r _).mono ?_
  rintro e w4 ⟨rfl, b4⟩
  have R4 := Lib.hid (R3.out.below b4 R3.out.lt)
  have B4 := Lib.hid (B3.out.trans (b4.mono B3.out.size))
  have n4 : rb < w4.heap.size := R4.out.lt
  clear b4 R3 B3 c0 c1 c2 c3 c4 c5 c6 c7
  obtain ⟨c0, c1, c2, c3, c4, c5, c6, c7⟩ := eight R4.out
  cases hk : okR r
  · have Hk := Lib.hid hk
    clear hk
    go_wp2_with fail
    refine (specRecOk_any r _).mono ?_
    rintro e w5 ⟨rfl, b5⟩
    have B5 := Lib.hid (B4.out.trans (b5.mono B4.out.size))
    rw [Hk.out]
    clear b5
    go_wp2
    go_ret
    exact ⟨rfl, B5.out⟩
  · have Hk := Lib.hid hk
    clear hk
    have RR := R4
    have BB := B4
    clear R4 B4
    have Q0 : Hid (Has (w4.alloc (.cells #[.int .i64 r.k, .int .i64 0, .int .i64 r.p, .int .i64 r.s, .int .i64 r.o, .int .i64 r.n, .int .i64 r.v, .int .i64 r.x] 24)) w4.heap.size 24 #[.int .i64 r.k, .int .i64 0, .int .i64 r.p, .int .i64 r.s, .int .i64 r.o, .int .i64 r.n, .int .i64 r.v, .int .i64 r.x]) := Has.new _ _ _
    have RR0 : Hid (Has (w4.alloc (.cells #[.int .i64 r.k, .int .i64 0, .int .i64 r.p, .int .i64 r.s, .int .i64 r.o, .int .i64 r.n, .int .i64 r.v, .int .i64 r.x] 24)) rb 24 #[.int .i64 r.k, .int .i64 r.t, .int .i64 r.p, .int .i64 r.s, .int .i64 r.o, .int .i64 r.n, .int .i64 r.v, .int .i64 r.x]) := RR.out.alloc _
    have BB0 : Hid (Below w.heap.size w (w4.alloc (.cells #[.int .i64 r.k, .int .i64 0, .int .i64 r.p, .int .i64 r.s, .int .i64 r.o, .int .i64 r.n, .int .i64 r.v, .int .i64 r.x] 24))) := BB.out.alloc BB.out.size _
    go_upto_region 9 with (fail)
    clear c0 c1 c2 c3 c4 c5 c6 c7
    clear RR BB
    generalize (w4.alloc (.cells #[.int .i64 r.k, .int .i64 0, .int .i64 r.p, .int .i64 r.s, .int .i64 r.o, .int .i64 r.n, .int .i64 r.v, .int .i64 r.x] 24)) = w5 at *
    generalize w4.heap.size = m0 at *
    have RR := RR0
    clear RR0
    have BB := BB0
    clear BB0
    have P0 := Q0
    clear Q0
    have n0 : rb < w5.heap.size := RR.out.lt
    obtain ⟨c0, c1, c2, c3, c4, c5, c6, c7⟩ := eight RR.out
    have Q1 : Hid (Has (w5.alloc (.cells #[.int .i64 r.k, .int .i64 r.t, .int .i64 5, .int .i64 r.s, .int .i64 r.o, .int .i64 r.n, .int .i64 r.v, .int .i64 r.x] 24)) w5.heap.size 24 #[.int .i64 r.k, .int .i64 r.t, .int .i64 5, .int .i64 r.s, .int .i64 r.o, .int .i64 r.n, .int .i64 r.v, .int .i64 r.x]) := Has.new _ _ _
    have RR1 : Hid (Has (w5.alloc (.cells #[.int .i64 r.k, .int .i64 r.t, .int .i64 5, .int .i64 r.s, .int .i64 r.o, .int .i64 r.n, .int .i64 r.v, .int .i64 r.x] 24)) rb 24 #[.int .i64 r.k, .int .i64 r.t, .int .i64 r.p, .int .i64 r.s, .int .i64 r.o, .int .i64 r.n, .int .i64 r.v, .int .i64 r.x]) := RR.out.alloc _
    have P01 : Hid (Has (w5.alloc (.cells #[.int .i64 r.k, .int .i64 r.t, .int .i64 5, .int .i64 r.s, .int .i64 r.o, .int .i64 r.n, .int .i64 r.v, .int .i64 r.x] 24)) m0 24 #[.int .i64 r.k, .int .i64 0, .int .i64 r.p, .int .i64 r.s, .int .i64 r.o, .int .i64 r.n, .int .i64 r.v, .int .i64 r.x]) := P0.out.alloc _
    have BB1 : Hid (Below w.heap.size w (w5.alloc (.cells #[.int .i64 r.k, .int .i64 r.t, .int .i64 5, .int .i64 r.s, .int .i64 r.o, .int .i64 r.n, .int .i64 r.v, .int .i64 r.x] 24))) := BB.out.alloc BB.out.size _
    go_upto_region 11 with (fail)
    clear c0 c1 c2 c3 c4 c5 c6 c7
    clear RR P0 BB
    generalize (w5.alloc (.cells #[.int .i64 r.k, .int .i64 r.t, .int .i64 5, .int .i64 r.s, .int .i64 r.o, .int .i64 r.n, .int .i64 r.v, .int .i64 r.x] 24)) = w6 at *
    generalize w5.heap.size = m1 at *
    have RR := RR1
    clear RR1
    have P0 := P01
    clear P01
    have BB := BB1
    clear BB1
    have P1 := Q1
    clear Q1
    have n1 : rb < w6.heap.size := RR.out.lt
    obtain ⟨c0, c1, c2, c3, c4, c5, c6, c7⟩ := eight RR.out
    have Q2 : Hid (Has (w6.alloc (.cells #[.int .i64 7, .int .i64 r.t, .int .i64 r.p, .int .i64 r.s, .int .i64 r.o, .int .i64 r.n, .int .i64 r.v, .int .i64 r.x] 24)) w6.heap.size 24 #[.int .i64 7, .int .i64 r.t, .int .i64 r.p, .int .i64 r.s, .int .i64 r.o, .int .i64 r.n, .int .i64 r.v, .int .i64 r.x]) := Has.new _ _ _
    have RR2 : Hid (Has (w6.alloc (.cells #[.int .i64 7, .int .i64 r.t, .int .i64 r.p, .int .i64 r.s, .int .i64 r.o, .int .i64 r.n, .int .i64 r.v, .int .i64 r.x] 24)) rb 24 #[.int .i64 r.k, .int .i64 r.t, .int .i64 r.p, .int .i64 r.s, .int .i64 r.o, .int .i64 r.n, .int .i64 r.v, .int .i64 r.x]) := RR.out.alloc _
    have P02 : Hid (Has (w6.alloc (.cells #[.int .i64 7, .int .i64 r.t, .int .i64 r.p, .int .i64 r.s, .int .i64 r.o, .int .i64 r.n, .int .i64 r.v, .int .i64 r.x] 24)) m0 24 #[.int .i64 r.k, .int .i64 0, .int .i64 r.p, .int .i64 r.s, .int .i64 r.o, .int .i64 r.n, .int .i64 r.v, .int .i64 r.x]) := P0.out.alloc _
    have P12 : Hid (Has (w6.alloc (.cells #[.int .i64 7, .int .i64 r.t, .int .i64 r.p, .int .i64 r.s, .int .i64 r.o, .int .i64 r.n, .int .i64 r.v, .int .i64 r.x] 24)) m1 24 #[.int .i64 r.k, .int .i64 r.t, .int .i64 5, .int .i64 r.s, .int .i64 r.o, .int .i64 r.n, .int .i64 r.v, .int .i64 r.x]) := P1.out.alloc _
    have BB2 : Hid (Below w.heap.size w (w6.alloc (.cells #[.int .i64 7, .int .i64 r.t, .int .i64 r.p, .int .i64 r.s, .int .i64 r.o, .int .i64 r.n, .int .i64 r.v, .int .i64 r.x] 24))) := BB.out.alloc BB.out.size _
    go_upto_region 13 with (fail)
    clear c0 c1 c2 c3 c4 c5 c6 c7
    clear RR P0 P1 BB
    generalize (w6.alloc (.cells #[.int .i64 7, .int .i64 r.t, .int .i64 r.p, .int .i64 r.s, .int .i64 r.o, .int .i64 r.n, .int .i64 r.v, .int .i64 r.x] 24)) = w7 at *
    generalize w6.heap.size = m2 at *
    have RR := RR2
    clear RR2
    have P0 := P02
    clear P02
    have P1 := P12
    clear P12
    have BB := BB2
    clear BB2
    have P2 := Q2
    clear Q2
    have n2 : rb < w7.heap.size := RR.out.lt
    obtain ⟨c0, c1, c2, c3, c4, c5, c6, c7⟩ := eight RR.out
    have Q3 : Hid (Has (w7.alloc (.cells #[.int .i64 r.k, .int .i64 r.t, .int .i64 r.p, .int .i64 3, .int .i64 r.o, .int .i64 r.n, .int .i64 r.v, .int .i64 r.x] 24)) w7.heap.size 24 #[.int .i64 r.k, .int .i64 r.t, .int .i64 r.p, .int .i64 3, .int .i64 r.o, .int .i64 r.n, .int .i64 r.v, .int .i64 r.x]) := Has.new _ _ _
    have RR3 : Hid (Has (w7.alloc (.cells #[.int .i64 r.k, .int .i64 r.t, .int .i64 r.p, .int .i64 3, .int .i64 r.o, .int .i64 r.n, .int .i64 r.v, .int .i64 r.x] 24)) rb 24 #[.int .i64 r.k, .int .i64 r.t, .int .i64 r.p, .int .i64 r.s, .int .i64 r.o, .int .i64 r.n, .int .i64 r.v, .int .i64 r.x]) := RR.out.alloc _
    have P03 : Hid (Has (w7.alloc (.cells #[.int .i64 r.k, .int .i64 r.t, .int .i64 r.p, .int .i64 3, .int .i64 r.o, .int .i64 r.n, .int .i64 r.v, .int .i64 r.x] 24)) m0 24 #[.int .i64 r.k, .int .i64 0, .int .i64 r.p, .int .i64 r.s, .int .i64 r.o, .int .i64 r.n, .int .i64 r.v, .int .i64 r.x]) := P0.out.alloc _
    have P13 : Hid (Has (w7.alloc (.cells #[.int .i64 r.k, .int .i64 r.t, .int .i64 r.p, .int .i64 3, .int .i64 r.o, .int .i64 r.n, .int .i64 r.v, .int .i64 r.x] 24)) m1 24 #[.int .i64 r.k, .int .i64 r.t, .int .i64 5, .int .i64 r.s, .int .i64 r.o, .int .i64 r.n, .int .i64 r.v, .int .i64 r.x]) := P1.out.alloc _
    have P23 : Hid (Has (w7.alloc (.cells #[.int .i64 r.k, .int .i64 r.t, .int .i64 r.p, .int .i64 3, .int .i64 r.o, .int .i64 r.n, .int .i64 r.v, .int .i64 r.x] 24)) m2 24 #[.int .i64 7, .int .i64 r.t, .int .i64 r.p, .int .i64 r.s, .int .i64 r.o, .int .i64 r.n, .int .i64 r.v, .int .i64 r.x]) := P2.out.alloc _
    have BB3 : Hid (Below w.heap.size w (w7.alloc (.cells #[.int .i64 r.k, .int .i64 r.t, .int .i64 r.p, .int .i64 3, .int .i64 r.o, .int .i64 r.n, .int .i64 r.v, .int .i64 r.x] 24))) := BB.out.alloc BB.out.size _
    go_upto_region 15 with (fail)
    clear c0 c1 c2 c3 c4 c5 c6 c7
    clear RR P0 P1 P2 BB
    generalize (w7.alloc (.cells #[.int .i64 r.k, .int .i64 r.t, .int .i64 r.p, .int .i64 3, .int .i64 r.o, .int .i64 r.n, .int .i64 r.v, .int .i64 r.x] 24)) = w8 at *
    generalize w7.heap.size = m3 at *
    have RR := RR3
    clear RR3
    have P0 := P03
    clear P03
    have P1 := P13
    clear P13
    have P2 := P23
    clear P23
    have BB := BB3
    clear BB3
    have P3 := Q3
    clear Q3
    have n3 : rb < w8.heap.size := RR.out.lt
    obtain ⟨c0, c1, c2, c3, c4, c5, c6, c7⟩ := eight P0.out
    go_wp2_with fail
    refine (recOk_any ⟨r.k, 0, r.p, r.s, r.o, r.n, r.v, r.x⟩ _).mono ?_
    rintro e x0 ⟨rfl, b5⟩
    rw [bad_tx]
    replace BB := Lib.hid (BB.out.trans (b5.mono BB.out.size))
    replace P1 := Lib.hid (P1.out.below b5 P1.out.lt)
    replace P2 := Lib.hid (P2.out.below b5 P2.out.lt)
    replace P3 := Lib.hid (P3.out.below b5 P3.out.lt)
    clear b5 P0 c0 c1 c2 c3 c4 c5 c6 c7
    obtain ⟨c0, c1, c2, c3, c4, c5, c6, c7⟩ := eight P1.out
    go_wp2_with fail
    refine (recOk_any ⟨r.k, r.t, 5, r.s, r.o, r.n, r.v, r.x⟩ _).mono ?_
    rintro e x1 ⟨rfl, b5⟩
    rw [bad_page]
    replace BB := Lib.hid (BB.out.trans (b5.mono BB.out.size))
    replace P2 := Lib.hid (P2.out.below b5 P2.out.lt)
    replace P3 := Lib.hid (P3.out.below b5 P3.out.lt)
    clear b5 P1 c0 c1 c2 c3 c4 c5 c6 c7
    obtain ⟨c0, c1, c2, c3, c4, c5, c6, c7⟩ := eight P2.out
    go_wp2_with fail
    refine (recOk_any ⟨7, r.t, r.p, r.s, r.o, r.n, r.v, r.x⟩ _).mono ?_
    rintro e x2 ⟨rfl, b5⟩
    rw [bad_kind]
    replace BB := Lib.hid (BB.out.trans (b5.mono BB.out.size))
    replace P3 := Lib.hid (P3.out.below b5 P3.out.lt)
    clear b5 P2 c0 c1 c2 c3 c4 c5 c6 c7
    obtain ⟨c0, c1, c2, c3, c4, c5, c6, c7⟩ := eight P3.out
    go_wp2_with fail
    refine (recOk_any ⟨r.k, r.t, r.p, 3, r.o, r.n, r.v, r.x⟩ _).mono ?_
    rintro e x3 ⟨rfl, b5⟩
    rw [bad_slot]
    replace BB := Lib.hid (BB.out.trans (b5.mono BB.out.size))
    clear b5 P3 c0 c1 c2 c3 c4 c5 c6 c7
    go_wp2
    go_ret
    exact ⟨rfl, BB.out⟩

theorem own : ownKnob Try.prog.godebug = none := by kernel_rfl
theorem laidOut : laidOutB Try.prog = true := by kernel_rfl

set_option maxRecDepth 100000 in
theorem lifted (os : Os) (started : os.Started) (H : Type) (enc : TypeId × Value → H) :
    ReturnsInHanded {} Try.checked os 3 .any (Rows.fnRecFormSpec.pre6 enc Try.prog Try.f3 Rows.fnRecFormRow.domain false) (Rows.fnRecFormSpec.post enc Try.prog Try.f3 false true false false) := by
  refine returnsInHanded_of_change (C := Try.checked) own started (by kernel_rfl) Try.func3
    (ChangeSpec.witness6 (enc := enc) (C := Try.checked) false ⟨#[], #[.slice none 0 0], []⟩ 8 (by kernel_rfl) (by kernel_rfl) (by kernel_rfl) (by kernel_rfl)) ?_
  intro W base args ds gs before hval0 hW hcnd _
  have hval : ∀ (j : Nat) t v, Try.f3.params[j]? = some t → args[j]? = some v → Value.okWide Try.prog W .any base t v := hval0
  have hW' := hW
  obtain ⟨p, q, hA0, hV, rfl, hfz, hnd⟩ := hW
  have hA : DataW.TrodAll enc Try.prog W 0 (fun _ => true) true Try.f3.params.toList args.toList ds p := hA0
  rw [Try.params3] at hA hval
  obtain ⟨v0, vs0, d0, ds0, p0, q0, hargs, rfl, rfl, h0, r0⟩ := trodAll_cons hA
  obtain ⟨rfl, rfl, rfl⟩ := trodAll_nil r0
  obtain rfl : args = #[v0] := by cases args; simp_all
  obtain ⟨rfl, rfl⟩ := trodVars_none hV
  have k0 := h0
  have lt0 : ∀ x ∈ p0, x.block < W.heap.size := by obtain ⟨m, hm⟩ := k0; exact DataW.trod_lt m _ _ _ hm
  obtain ⟨a, cs, cap, rfl, hc⟩ := openBytes Try.underlying22 Try.underlying5 (by kernel_rfl) (hval 0 22 v0 rfl rfl) h0
  clear hA0 hval0
  refine (walk a cs cap W hc).mono fun e W' ⟨he, bel⟩ => ?_
  subst he
  exact ⟨_, rfl, _, _, _, [], _, [], hW', trodAll_mk1 (shut_bool Try.underlying4 _), (trodAll_cons_mk (Below.trod laidOut (by kernel_rfl) (of_decide_eq_true (by kernel_rfl)) k0 bel lt0) trodAll_mk0), rfl, bel.frame _, fun h => by cases h⟩

theorem proved : Rows.FnRecFormSaid :=
  OpenClaim.holds_of_wide 3 Try.f3 rfl rfl rfl rfl rfl rfl rfl ⟨rfl, rfl, rfl, rfl, rfl⟩ rfl rfl rfl rfl rfl (by kernel_rfl) Try.func3 (by kernel_rfl)
    (of_decide_eq_true (by kernel_rfl)) (by unfold Func.isWrapper; first | (rw [if_pos (by decide +kernel)]; kernel_rfl) | (rw [if_neg (by decide +kernel)]; exact ⟨rfl, rfl⟩))
    (fun os started H enc _ => lifted os started H enc)
#print axioms proved
end Go.Proofs.Ytcahmiklcjlkmaa.FnRecForm
