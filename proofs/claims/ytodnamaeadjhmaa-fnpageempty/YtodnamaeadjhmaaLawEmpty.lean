/-
  Proved: FnPageEmpty returns true, whatever the code: PageEmpty is true of exactly the valid pages with 0 in every slot, and of a new page. No conditions.
-/
import Derived.Test.YtodnamaeadjhmaaDrawP
import Derived.Test.YtodnamaeadjhmaaOpen
import Derived.OpenShut
import Derived.ShutString
import Derived.ChangeOld
namespace Go.Proofs.Ytodnamaeadjhmaa.FnPageEmpty
open Go.ChangeShapes Go.WideShapes Go.ChangeAt Go.RowKit Base
set_option linter.unusedVariables false

/-- the sum of the first t values -/
def sumTo (zs : List Int) : Nat → Int
  | 0 => 0
  | t + 1 => sumTo zs t + zs.getD t 0

theorem sum_zero (l o : Int) (zs : List Int) (h : okP l o zs = true) : (sumTo zs zs.length == 0) = zerosB zs := by
  by_cases h3 : zs.length = 3
  · match zs, h3 with
    | [x, y, z], _ =>
      simp [okP, okF, inB] at h
      have : sumTo [x, y, z] [x, y, z].length = x + y + z := by simp [sumTo]
      rw [this, Bool.eq_iff_iff]
      simp [zerosB]
      omega
  · simp [okP, h3] at h

set_option maxHeartbeats 4000000 in
theorem walk (a : Option Addr) (cs : List Int) (cap : Nat) (w : World) (hc : Bytes w w.heap.size a cs cap) :
    Calls Try.prog 4 #[.slice a cs.length cap] w (Keeps (.bool true) w) := by
  have hm : cs.length ≤ maxLen := Nat.le_trans hc.fit hc.most
  unfold maxLen at hm
  have H := Lib.hid hc
  clear hc
  by_cases hbig : (1048576 : Int) < cs.length
  · go_enter Try.func4, Try.ntmps4
    go_wp2
    go_ret
    exact ⟨rfl, Below.refl _ _⟩
  have bbig : decide ((1048576 : Int) < cs.length) = false := by simpa using hbig
  clear hbig
  go_enter Try.func4, Try.ntmps4
  go_wp2_with fail
  refine (drawPageEmpty_any a cs cap w.heap.size _ (Nat.le_refl _) H.out).mono ?_
  rintro e w1 ⟨⟨l, o, zs, g, q, c, rfl, hrd, hwr, hg, hc1, hc2, hsm⟩, b1⟩
  have n1 := b1.size
  have n2 := hwr.1
  have B1 := Lib.hid (b1.alloc n1 (.cells #[.int .i64 l, .int .i64 o, .slice (some ⟨g, q, none⟩) zs.length c] 25))
  have R1 := Lib.hid (hrd.below (below_one w1 (.cells #[.int .i64 l, .int .i64 o, .slice (some ⟨g, q, none⟩) zs.length c] 25)) n2)
  have q1 := Has.new w1 25 #[.int .i64 l, .int .i64 o, .slice (some ⟨g, q, none⟩) zs.length c]
  have n3 : w1.heap.size < (w1.alloc (.cells #[.int .i64 l, .int .i64 o, .slice (some ⟨g, q, none⟩) zs.length c] 25)).heap.size := by simp
  have Q1 := Lib.hid q1
  have mx : zs.length ≤ 1000000000 := by have := hsm.most; omega
  clear q1 b1 hrd hwr H
  go_wp2_with fail
  generalize (w1.alloc (.cells #[.int .i64 l, .int .i64 o, .slice (some ⟨g, q, none⟩) zs.length c] 25)) = w2 at *
  obtain ⟨ok, hok⟩ : ∃ b, (okP l o zs && zerosB zs) = b := ⟨_, rfl⟩
  have Hok := Lib.hid hok
  clear hok
  refine (pageEmpty_any l o zs _ c w2.heap.size _ (Nat.le_refl _) (R1.out.ints (by omega)) hc1).mono ?_
  rintro e w3 ⟨rfl, b3⟩
  have n4 := b3.size
  have q3 := Q1.out.below b3 n3
  have B3 : Hid (Below w.heap.size w w3) := B1.out.trans (b3.mono (by omega))
  have R3 := Lib.hid (R1.out.below b3 (by omega))
  obtain ⟨c0, c1, c2⟩ := q3.three
  have Q3 := Lib.hid q3
  clear q3 b3 B1 R1 Q1
  rw [Hok.out]
  go_wp2_with fail
  refine (specPageEmpty_any l o zs _ c w3.heap.size _ (Nat.le_refl _) (R3.out.ints (by omega)) mx).mono ?_
  rintro e w4 ⟨rfl, b4⟩
  have n5 := b4.size
  have q4 := Q3.out.below b4 (by omega)
  have B4 : Hid (Below w.heap.size w w4) := B3.out.trans (b4.mono (by omega))
  have R4 := Lib.hid (R3.out.below b4 (by omega))
  clear c0 c1 c2 b4 B3 R3 Q3
  obtain ⟨c0, c1, c2⟩ := q4.three
  have Q4 := Lib.hid q4
  clear q4
  rw [Hok.out]
  have bsame : (ok != ok) = false := by simp
  go_wp2_with fail
  refine (specPageOk_any l o zs _ c w4.heap.size _ (Nat.le_refl _) (R4.out.ints (by omega)) mx).mono ?_
  rintro e w5 ⟨rfl, b5⟩
  have n6 := b5.size
  have q5 := Q4.out.below b5 (by omega)
  have B5 : Hid (Below w.heap.size w w5) := B4.out.trans (b5.mono (by omega))
  have R5 := Lib.hid (R4.out.below b5 (by omega))
  clear c0 c1 c2 b5 B4 R4 Q4
  obtain ⟨c0, c1, c2⟩ := q5.three
  have Q5 := Lib.hid q5
  clear q5 bsame
  cases hk : okP l o zs
  · clear hk
    go_wp2_with fail
    refine (specPageEmpty_any l o zs _ c w5.heap.size _ (Nat.le_refl _) (R5.out.ints (by omega)) mx).mono ?_
    rintro e w6 ⟨rfl, b6⟩
    have B6 : Hid (Below w.heap.size w w6) := B5.out.trans (b6.mono (by omega))
    rw [Hok.out]
    clear c0 c1 c2 b6
    go_wp2
    go_ret
    exact ⟨ret_bool (by simp), B6.out⟩
  · have Hk := Lib.hid hk
    clear hk
    go_wp2_with fail
    go_loop [5, 6] (fun sm i => ∃ t : Nat, t ≤ zs.length ∧ i = .int .i64 t ∧ sm = .int .i64 (sumTo zs t) ∧ -(t : Int) ≤ sumTo zs t ∧ sumTo zs t ≤ 12 * t) (fun _ i => zs.length - (intOf i).toNat)
    case atStart => exact ⟨0, Nat.zero_le _, rfl, rfl, by simp [sumTo], by simp [sumTo]⟩
    case round =>
      obtain ⟨t, ht, rfl, rfl, s0, s1⟩ := hrel
      have hm3 := hsm.most
      by_cases hlt : t < zs.length
      · have d1 := R5.out t hlt
        have hv := hsm.vals t hlt
        have HS : Hid (sumTo zs (t + 1) = sumTo zs t + zs.getD t 0) := rfl
        generalize hx : zs.getD t 0 = x at *
        have Hx := Lib.hid hx
        clear hx
        generalize hs : sumTo zs t = sm at *
        have Hs := Lib.hid hs
        clear hs
        go_wp2
        refine ⟨⟨t + 1, by omega, by go_num, ?_, ?_, ?_⟩, by simp [intOf]; omega⟩
        · rw [HS.out]
        · rw [HS.out]; omega
        · rw [HS.out]; omega
      · obtain rfl : t = zs.length := by omega
        have hz0 := sum_zero l o zs Hk.out
        have hz1 : (sumTo zs zs.length == 0) = ok := by rw [hz0, ← Hok.out, Hk.out]; simp
        have bok : (ok == ok) = true := by simp
        generalize sumTo zs zs.length = sm at *
        clear hz0
        go_wp2_with fail
        refine (pageNew_any _).mono ?_
        rintro e w6 ⟨g6, o6, rfl, b6, s6, r6, x6⟩
        have R6 := Lib.hid r6
        have n7 := b6.size
        have n8 := x6.1
        have B6 : Hid (Below w.heap.size w w6) := B5.out.trans (b6.mono (by omega))
        clear c0 c1 c2 b6 r6 x6
        go_wp2_with fail
        refine (pageEmpty_any 0 0 [0, 0, 0] _ 3 w6.heap.size _ (Nat.le_refl _) (R6.out.ints n8) (by simp)).mono ?_
        rintro e w7 ⟨rfl, b7⟩
        have B7 : Hid (Below w.heap.size w w7) := B6.out.trans (b7.mono (by omega))
        clear b7
        have hnew : (okP 0 0 [0, 0, 0] && zerosB [0, 0, 0]) = true := by decide
        rw [hnew]
        clear hnew
        go_wp2
        go_ret
        exact ⟨rfl, B7.out⟩

theorem own : ownKnob Try.prog.godebug = none := by kernel_rfl
theorem laidOut : laidOutB Try.prog = true := by kernel_rfl

set_option maxRecDepth 100000 in
theorem lifted (os : Os) (started : os.Started) (H : Type) (enc : TypeId × Value → H) :
    ReturnsInHanded {} Try.checked os 4 .any (Rows.fnPageEmptySpec.pre6 enc Try.prog Try.f4 Rows.fnPageEmptyRow.domain false) (Rows.fnPageEmptySpec.post enc Try.prog Try.f4 false true false false) := by
  refine returnsInHanded_of_change (C := Try.checked) own started (by kernel_rfl) Try.func4
    (ChangeSpec.witness6 (enc := enc) (C := Try.checked) false ⟨#[], #[.slice none 0 0], []⟩ 8 (by kernel_rfl) (by kernel_rfl) (by kernel_rfl) (by kernel_rfl)) ?_
  intro W base args ds gs before hval0 hW hcnd _
  have hval : ∀ (j : Nat) t v, Try.f4.params[j]? = some t → args[j]? = some v → Value.okWide Try.prog W .any base t v := hval0
  have hW' := hW
  obtain ⟨p, q, hA0, hV, rfl, hfz, hnd⟩ := hW
  have hA : DataW.TrodAll enc Try.prog W 0 (fun _ => true) true Try.f4.params.toList args.toList ds p := hA0
  rw [Try.params4] at hA hval
  obtain ⟨v0, vs0, d0, ds0, p0, q0, hargs, rfl, rfl, h0, r0⟩ := trodAll_cons hA
  obtain ⟨rfl, rfl, rfl⟩ := trodAll_nil r0
  obtain rfl : args = #[v0] := by cases args; simp_all
  obtain ⟨rfl, rfl⟩ := trodVars_none hV
  have k0 := h0
  have lt0 : ∀ x ∈ p0, x.block < W.heap.size := by obtain ⟨m, hm⟩ := k0; exact DataW.trod_lt m _ _ _ hm
  obtain ⟨a, cs, cap, rfl, hc⟩ := openBytes Try.underlying22 Try.underlying5 (by kernel_rfl) (hval 0 22 v0 rfl rfl) h0
  clear hA0 hval0
  refine (walk a cs cap W hc).mono fun e W' ⟨he, bel⟩ => ?_
  subst he
  exact ⟨_, rfl, _, _, _, [], _, [], hW', trodAll_mk1 (shut_bool Try.underlying4 _), (trodAll_cons_mk (Below.trod laidOut (by kernel_rfl) (of_decide_eq_true (by kernel_rfl)) k0 bel lt0) trodAll_mk0), rfl, bel.frame _, fun h => by cases h⟩

theorem proved : Rows.FnPageEmptySaid :=
  OpenClaim.holds_of_wide 4 Try.f4 rfl rfl rfl rfl rfl rfl rfl ⟨rfl, rfl, rfl, rfl, rfl⟩ rfl rfl rfl rfl rfl (by kernel_rfl) Try.func4 (by kernel_rfl)
    (of_decide_eq_true (by kernel_rfl)) (by unfold Func.isWrapper; first | (rw [if_pos (by decide +kernel)]; kernel_rfl) | (rw [if_neg (by decide +kernel)]; exact ⟨rfl, rfl⟩))
    (fun os started H enc _ => lifted os started H enc)
#print axioms proved
end Go.Proofs.Ytodnamaeadjhmaa.FnPageEmpty
