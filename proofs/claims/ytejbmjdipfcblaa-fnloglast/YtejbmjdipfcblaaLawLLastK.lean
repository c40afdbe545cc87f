/-
  Proved: FnLogLast returns true, whatever the code: LogLast answers as its model; in a log it is the number of the last record of one that is not done, and 0 for one that is done or has none. No conditions.
-/
import Derived.Test.YtejbmjdipfcblaaDrawnK
import Derived.Deep.DeepCutAuto
import Derived.OpenShut
import Derived.ShutString
import Derived.ChangeOld
namespace Go.Proofs.Ytejbmjdipfcblaa.FnLogLast
open Go.ChangeShapes Go.WideShapes Go.ChangeAt Go.RowKit Base

set_option maxRecDepth 100000 in
set_option maxHeartbeats 8000000 in
theorem walk (a : Option Addr) (cs : List Int) (cap : Nat) (w : World) (hc : Bytes w w.heap.size a cs cap) :
    Calls Try.prog 5 #[.slice a cs.length cap] w (Keeps (.bool true) w) := by
  have hm : cs.length ≤ maxLen := Nat.le_trans hc.fit hc.most
  unfold maxLen at hm
  have H := Lib.hid hc
  clear hc
  by_cases hbig : (1048576 : Int) < cs.length
  · go_enter Try.func5, Try.ntmps5
    go_wp2
    go_ret
    exact ⟨rfl, Below.refl _ _⟩
  have bbig : decide ((1048576 : Int) < cs.length) = false := by simpa using hbig
  clear hbig
  go_enter Try.func5, Try.ntmps5
  go_wp2_with fail
  refine (drawLogLast_any a cs cap w.heap.size _ (Nat.le_refl _) H.out).mono ?_
  rintro e w1 ⟨b, o, c, rs, t, rfl, hL, hl, t0, t4, hb⟩
  have L1 := Lib.hid hL
  have B1 := Lib.hid hb
  have lb := hL.lt
  have hfit := hL.fit
  have s1 := hb.size
  clear hL hb H
  go_wp2_with fail
  refine (logLast_any rs t (some ⟨b, o * 8, none⟩) c w1.heap.size _ (Nat.le_refl _) (L1.out.rd.recs lb.2) hfit (by omega)).mono ?_
  rintro e w2 ⟨rfl, b2⟩
  have L2 := Lib.hid (L1.out.below b2)
  have B2 := Lib.hid (B1.out.trans (b2.mono s1))
  have l2 := L2.out.lt
  clear b2 L1 B1
  go_wp2_with fail
  refine (specLogLast_any rs t (some ⟨b, o * 8, none⟩) c w2.heap.size _ (Nat.le_refl _) (L2.out.rd.recs l2.2) hfit (by omega)).mono ?_
  rintro e w3 ⟨rfl, b3⟩
  have L3 := Lib.hid (L2.out.below b3)
  have B3 := Lib.hid (B2.out.trans (b3.mono B2.out.size))
  have l3 := L3.out.lt
  clear b3 L2 B2
  have hne : (lastB rs t != lastB rs t) = false := by simp
  go_wp2_with fail
  refine (specLogOk_any rs (some ⟨b, o * 8, none⟩) c w3.heap.size _ (Nat.le_refl _) (L3.out.rd.recs l3.2) hfit (by omega)).mono ?_
  rintro e w4 ⟨rfl, b4⟩
  have L4 := Lib.hid (L3.out.below b4)
  have B4 := Lib.hid (B3.out.trans (b4.mono B3.out.size))
  have l4 := L4.out.lt
  clear b4 L3 B3
  cases hk : logB rs
  · clear hk
    go_wp2_with fail
    refine (specLogLast_any rs t (some ⟨b, o * 8, none⟩) c w4.heap.size _ (Nat.le_refl _) (L4.out.rd.recs l4.2) hfit (by omega)).mono ?_
    rintro e w5 ⟨rfl, b5⟩
    have B5 := Lib.hid (B4.out.trans (b5.mono B4.out.size))
    go_wp2
    go_ret
    exact ⟨ret_bool (by simp), B5.out⟩
  · have Hy := Lib.hid (lastB_yes rs t hk)
    clear hk
    have hlb := lastN_le rs t rs.length
    have hl1 : (lastN rs t rs.length : Int) ≤ 152 := by omega
    rw [Hy.out]
    generalize hlast : lastN rs t rs.length = last at hl1
    have Hlast := Lib.hid hlast
    clear hlast Hy hne
    go_wp2_with fail
    go_loopw [6] (fun iv wx => ∃ k : Nat, k ≤ rs.length ∧ iv = .int .i64 ((k : Int) - 1) ∧ lastN rs t k = last ∧ OwnL wx w.heap.size b o c rs ∧ Below w.heap.size w wx) (fun iv _ => (intOf iv + 1).toNat)
    case atStart => exact ⟨rs.length, Nat.le_refl _, rfl, Hlast.out, L4.out, B4.out⟩
    case round =>
      clear L4 B4 Hlast
      obtain ⟨k, hk, rfl, hlast, hL, hb⟩ := hrel
      have Hl := Lib.hid hlast
      have L6 := Lib.hid hL
      have B6 := Lib.hid hb
      clear hL hb hlast
      match k, hk with
      | 0, _ =>
        have h0 : Hid (last = 0) := Hl.out.symm
        have bl : decide ((0 : Int) ≤ ((0 : Nat) : Int) - 1) = false := by simp
        go_wp2
        go_ret
        exact ⟨ret_bool (by rw [h0.out]; rfl), B6.out⟩
      | k + 1, hk =>
        have ek : ((k + 1 : Nat) : Int) - 1 = (k : Int) := by omega
        rw [ek]
        have hr := L6.out.rd k (by omega)
        have c0 := hr.k
        have c1 := hr.t
        clear hr
        have hlt : k < rs.length := by omega
        by_cases ht : (recAt rs k).t = t
        · have bt : ((recAt rs k).t == t) = true := by simpa using ht
          cases he : endR (recAt rs k)
          · have Hk : Hid (last = k + 1) := by
              show last = k + 1
              rw [← Hl.out]
              show (if (recAt rs k).t = t then (if endR (recAt rs k) = true then 0 else k + 1) else lastN rs t k) = k + 1
              rw [if_pos ht, he]
              rfl
            unfold endR at he
            rw [Bool.or_eq_false_iff] at he
            obtain ⟨e4, e5⟩ := he
            have hz : ((last : Int) == 0) = false := by rw [Hk.out]; simp; omega
            have hs : ((last : Int) == (k : Int) + 1) = true := by rw [Hk.out]; simp
            clear ht
            go_wp2
            go_ret
            exact ⟨ret_bool (by first | rfl | simp), B6.out⟩
          · have Hk : Hid (last = 0) := by
              show last = 0
              rw [← Hl.out]
              show (if (recAt rs k).t = t then (if endR (recAt rs k) = true then 0 else k + 1) else lastN rs t k) = 0
              rw [if_pos ht, he]
              rfl
            have hz : ((last : Int) == 0) = true := by rw [Hk.out]; rfl
            unfold endR at he
            clear ht
            cases e4 : ((recAt rs k).k == 4)
            · have e5 : ((recAt rs k).k == 5) = true := by rw [e4] at he; simpa using he
              clear he
              go_wp2
              go_ret
              exact ⟨ret_bool (by first | rfl | simp), B6.out⟩
            · clear he
              go_wp2
              go_ret
              exact ⟨ret_bool (by first | rfl | simp), B6.out⟩
        · have bt : ((recAt rs k).t == t) = false := by simpa using ht
          have Hk : Hid (lastN rs t k = last) := by
            show lastN rs t k = last
            rw [← Hl.out]
            show _ = (if (recAt rs k).t = t then (if endR (recAt rs k) = true then 0 else k + 1) else lastN rs t k)
            rw [if_neg ht]
          clear ht
          go_wp2
          exact ⟨⟨k, by omega, by go_num, Hk.out, L6.out, B6.out⟩, by simp [intOf]⟩

theorem own : ownKnob Try.prog.godebug = none := by kernel_rfl
theorem laidOut : laidOutB Try.prog = true := by kernel_rfl

set_option maxRecDepth 100000 in
theorem lifted (os : Os) (started : os.Started) (H : Type) (enc : TypeId × Value → H) :
    ReturnsInHanded {} Try.checked os 5 .any (Rows.fnLogLastSpec.pre6 enc Try.prog Try.f5 Rows.fnLogLastRow.domain false) (Rows.fnLogLastSpec.post enc Try.prog Try.f5 false true false false) := by
  refine returnsInHanded_of_change (C := Try.checked) own started (by kernel_rfl) Try.func5
    (ChangeSpec.witness6 (enc := enc) (C := Try.checked) false ⟨#[], #[.slice none 0 0], []⟩ 8 (by kernel_rfl) (by kernel_rfl) (by kernel_rfl) (by kernel_rfl)) ?_
  intro W base args ds gs before hval0 hW hcnd _
  have hval : ∀ (j : Nat) t v, Try.f5.params[j]? = some t → args[j]? = some v → Value.okWide Try.prog W .any base t v := hval0
  have hW' := hW
  obtain ⟨p, q, hA0, hV, rfl, hfz, hnd⟩ := hW
  have hA : DataW.TrodAll enc Try.prog W 0 (fun _ => true) true Try.f5.params.toList args.toList ds p := hA0
  rw [Try.params5] at hA hval
  obtain ⟨v0, vs0, d0, ds0, p0, q0, hargs, rfl, rfl, h0, r0⟩ := trodAll_cons hA
  obtain ⟨rfl, rfl, rfl⟩ := trodAll_nil r0
  obtain rfl : args = #[v0] := by cases args; simp_all
  obtain ⟨rfl, rfl⟩ := trodVars_none hV
  have k0 := h0
  have lt0 : ∀ x ∈ p0, x.block < W.heap.size := by obtain ⟨m, hm⟩ := k0; exact DataW.trod_lt m _ _ _ hm
  obtain ⟨a, cs, cap, rfl, hc⟩ := openBytes Try.underlying22 Try.underlying5 (by kernel_rfl) (hval 0 22 v0 rfl rfl) h0
  clear hA0 hval0
  refine (walk a cs cap W hc).mono fun e W' ⟨he, bel⟩ => ?_
  subst he
  exact ⟨_, rfl, _, _, _, [], _, [], hW', trodAll_mk1 (shut_bool Try.underlying4 _), (trodAll_cons_mk (Below.trod laidOut (by kernel_rfl) (of_decide_eq_true (by kernel_rfl)) k0 bel lt0) trodAll_mk0), rfl, bel.frame _, fun h => by cases h⟩

theorem proved : Rows.FnLogLastSaid :=
  OpenClaim.holds_of_wide 5 Try.f5 rfl rfl rfl rfl rfl rfl rfl ⟨rfl, rfl, rfl, rfl, rfl⟩ rfl rfl rfl rfl rfl (by kernel_rfl) Try.func5 (by kernel_rfl)
    (of_decide_eq_true (by kernel_rfl)) (by unfold Func.isWrapper; first | (rw [if_pos (by decide +kernel)]; kernel_rfl) | (rw [if_neg (by decide +kernel)]; exact ⟨rfl, rfl⟩))
    (fun os started H enc _ => lifted os started H enc)
#print axioms proved
end Go.Proofs.Ytejbmjdipfcblaa.FnLogLast
