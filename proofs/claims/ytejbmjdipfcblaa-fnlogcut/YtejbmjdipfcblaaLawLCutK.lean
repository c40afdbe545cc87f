/-
  Proved: FnLogCut returns true, whatever the codes: LogOk answers as its model; the first records of a log, and none, are a log; without its first record it is none if another record tells of that one. No conditions.
-/
import Derived.Test.YtejbmjdipfcblaaDrawnK
import Derived.Deep.DeepCutAuto
import Derived.OpenShut
import Derived.ShutString
import Derived.ChangeOld
namespace Go.Proofs.Ytejbmjdipfcblaa.FnLogCut
open Go.ChangeShapes Go.WideShapes Go.ChangeAt Go.RowKit Base

set_option maxRecDepth 100000 in
set_option maxHeartbeats 8000000 in
theorem walk (a : Option Addr) (cs : List Int) (cap : Nat) (a' : Option Addr) (ms : List Int) (cap' : Nat) (w : World) (hc : Bytes w w.heap.size a cs cap) (hc' : Bytes w w.heap.size a' ms cap') :
    Calls Try.prog 3 #[.slice a cs.length cap, .slice a' ms.length cap'] w (Keeps (.bool true) w) := by
  have hm : cs.length ≤ maxLen := Nat.le_trans hc.fit hc.most
  have hm' : ms.length ≤ maxLen := Nat.le_trans hc'.fit hc'.most
  unfold maxLen at hm hm'
  have H := Lib.hid hc
  clear hc hc'
  by_cases hbig : (1048576 : Int) < cs.length
  · go_enter Try.func3, Try.ntmps3
    go_wp2
    go_ret
    exact ⟨rfl, Below.refl _ _⟩
  have bbig : decide ((1048576 : Int) < cs.length) = false := by simpa using hbig
  clear hbig
  by_cases hbig : (1048576 : Int) < ms.length
  · go_enter Try.func3, Try.ntmps3
    go_wp2
    go_ret
    exact ⟨rfl, Below.refl _ _⟩
  have bbig' : decide ((1048576 : Int) < ms.length) = false := by simpa using hbig
  clear hbig
  go_enter Try.func3, Try.ntmps3
  go_wp2_with fail
  refine (drawLogOk_any a cs cap w.heap.size _ (Nat.le_refl _) H.out).mono ?_
  rintro e w1 ⟨b, o, c, rs, rfl, hL, hl, hb⟩
  have L1 := Lib.hid hL
  have B1 := Lib.hid hb
  have lb := hL.lt
  have hfit := hL.fit
  have s1 := hb.size
  clear hL hb H
  go_wp2_with fail
  refine (logOk_any rs (some ⟨b, o * 8, none⟩) c w1.heap.size _ (Nat.le_refl _) (L1.out.rd.recs lb.2) hfit (by omega)).mono ?_
  rintro e w2 ⟨rfl, b2⟩
  have L2 := Lib.hid (L1.out.below b2)
  have B2 := Lib.hid (B1.out.trans (b2.mono s1))
  have l2 := L2.out.lt
  clear b2 L1 B1
  go_wp2_with fail
  refine (specLogOk_any rs (some ⟨b, o * 8, none⟩) c w2.heap.size _ (Nat.le_refl _) (L2.out.rd.recs l2.2) hfit (by omega)).mono ?_
  rintro e w3 ⟨rfl, b3⟩
  have L3 := Lib.hid (L2.out.below b3)
  have B3 := Lib.hid (B2.out.trans (b3.mono B2.out.size))
  have l3 := L3.out.lt
  clear b3 L2 B2
  cases hk : logB rs
  · have Hk := Lib.hid hk
    clear hk
    go_wp2_with fail
    refine (specLogOk_any rs (some ⟨b, o * 8, none⟩) c w3.heap.size _ (Nat.le_refl _) (L3.out.rd.recs l3.2) hfit (by omega)).mono ?_
    rintro e w4 ⟨rfl, b4⟩
    have B4 := Lib.hid (B3.out.trans (b4.mono B3.out.size))
    rw [Hk.out]
    go_wp2
    go_ret
    exact ⟨rfl, B4.out⟩
  · have Hk := Lib.hid hk
    clear hk
    obtain ⟨qs, hqs⟩ : ∃ qs, qs = rs.take (ms.length % (rs.length + 1)) := ⟨_, rfl⟩
    have hkm : ms.length % (rs.length + 1) ≤ rs.length := Nat.le_of_lt_succ (Nat.mod_lt _ (by omega))
    have hql : qs.length = ms.length % (rs.length + 1) := by rw [hqs, List.length_take]; omega
    have hmod : Int.tmod (ms.length : Int) ((rs.length : Int) + 1) = (qs.length : Int) := by
      rw [hql, Int.tmod_eq_emod_of_nonneg (by omega)]
      exact (Int.natCast_emod ms.length (rs.length + 1)).symm
    have Hq : Hid (logB qs = true) := by rw [hqs]; exact logB_take Hk.out _ hkm
    have Rq : Hid (RdR w3 b (o * 8) qs) := by rw [hqs]; exact L3.out.rd.take _
    have hqc : (qs.length : Int) ≤ (c : Int) := by omega
    have hqc' : qs.length ≤ c := by omega
    have hqm : qs.length ≤ rs.length := by omega
    clear hqs hkm hql
    go_wp2_with fail
    refine (logOk_any qs (some ⟨b, o * 8, none⟩) c w3.heap.size _ (Nat.le_refl _) (Rq.out.recs l3.2) hqc' (by omega)).mono ?_
    rintro e w4 ⟨rfl, b4⟩
    rw [Hq.out]
    have L4 := Lib.hid (L3.out.below b4)
    have B4 := Lib.hid (B3.out.trans (b4.mono B3.out.size))
    clear b4 L3 B3 Rq
    go_wp2_with fail
    refine (logOk_any [] none 0 w4.heap.size _ (Nat.le_refl _) (fun h => absurd h (by simp)) (by simp) (by simp)).mono ?_
    rintro e w5 ⟨rfl, b5⟩
    have L5 := Lib.hid (L4.out.below b5)
    have B5 := Lib.hid (B4.out.trans (b5.mono B4.out.size))
    clear b5 L4 B4
    rw [show logB [] = true from rfl]
    go_wp2_with fail
    clear hmod hqc hqc' Hq
    go_loopw [7] (fun iv wx => ∃ k : Nat, iv = .int .i64 (k : Int) ∧ 1 ≤ k ∧ OwnL wx w.heap.size b o c rs ∧ Below w.heap.size w wx) (fun iv _ => rs.length - (intOf iv).toNat)
    case atStart => exact ⟨1, rfl, by omega, L5.out, B5.out⟩
    case round =>
      clear L5 B5
      obtain ⟨k, rfl, hk1, hL, hb⟩ := hrel
      have L6 := Lib.hid hL
      have B6 := Lib.hid hb
      have l6 := hL.lt
      clear hL hb
      by_cases hlt : k < rs.length
      · have c6 := (L6.out.rd k hlt).v
        by_cases hv : (recAt rs k).v = 1
        · have bv : ((recAt rs k).v == 1) = true := by simpa using hv
          obtain ⟨r0, tl, hrs⟩ : ∃ r0 tl, rs = r0 :: tl := by
            cases hh : rs with
            | nil => rw [hh] at hlt; simp at hlt
            | cons r0 tl => exact ⟨r0, tl, rfl⟩
          have Hf : Hid (logB tl = false) := by
            have h := Hk.out
            rw [hrs] at h
            refine logB_tail h (i := k - 1) (by rw [hrs] at hlt; simp at hlt; omega) ?_
            rw [← hv, hrs]
            obtain ⟨k', rfl⟩ : ∃ k', k = k' + 1 := ⟨k - 1, by omega⟩
            simp [recAt]
          have W6 : Hid (RdR wr b (o * 8 + 8) tl) := by
            have h := L6.out
            rw [hrs] at h
            have h := h.tail.rd
            rwa [Nat.add_mul, Nat.one_mul] at h
          have htl : rs.length = tl.length + 1 := by rw [hrs]; rfl
          clear hrs hv
          have h1 : (1 : Int) ≤ (rs.length : Int) := by omega
          have h2 : (rs.length : Int) ≤ (c : Int) := by omega
          have h3 : ¬ c = 1 := by omega
          go_wp2_with fail
          refine (logOk_any tl (some ⟨b, o * 8 + 8, none⟩) (c - 1) wr.heap.size _ (Nat.le_refl _) (W6.out.recs l6.2) (by omega) (by omega)).mono ?_
          rintro e w7 ⟨rfl, b7⟩
          have B7 := Lib.hid (B6.out.trans (b7.mono B6.out.size))
          rw [Hf.out]
          go_wp2
          go_ret
          exact ⟨rfl, B7.out⟩
        · have bv : ((recAt rs k).v == 1) = false := by simpa using hv
          clear hv
          go_wp2
          exact ⟨⟨k + 1, by go_num, by omega, L6.out, B6.out⟩, by simp [intOf]; omega⟩
      · have hlt' : decide ((k : Int) < (rs.length : Int)) = false := by simp; omega
        go_wp2
        go_ret
        exact ⟨rfl, B6.out⟩

theorem own : ownKnob Try.prog.godebug = none := by kernel_rfl
theorem laidOut : laidOutB Try.prog = true := by kernel_rfl

set_option maxRecDepth 100000 in
theorem lifted (os : Os) (started : os.Started) (H : Type) (enc : TypeId × Value → H) :
    ReturnsInHanded {} Try.checked os 3 .any (Rows.fnLogCutSpec.pre6 enc Try.prog Try.f3 Rows.fnLogCutRow.domain false) (Rows.fnLogCutSpec.post enc Try.prog Try.f3 false true false false) := by
  refine returnsInHanded_of_change (C := Try.checked) own started (by kernel_rfl) Try.func3
    (ChangeSpec.witness6 (enc := enc) (C := Try.checked) false ⟨#[], #[.slice none 0 0, .slice none 0 0], []⟩ 8 (by kernel_rfl) (by kernel_rfl) (by kernel_rfl) (by kernel_rfl)) ?_
  intro W base args ds gs before hval0 hW hcnd _
  have hval : ∀ (j : Nat) t v, Try.f3.params[j]? = some t → args[j]? = some v → Value.okWide Try.prog W .any base t v := hval0
  have hW' := hW
  obtain ⟨p, q, hA0, hV, rfl, hfz, hnd⟩ := hW
  have hA : DataW.TrodAll enc Try.prog W 0 (fun _ => true) true Try.f3.params.toList args.toList ds p := hA0
  rw [Try.params3] at hA hval
  obtain ⟨v0, vs0, d0, ds0, p0, q0, hargs, rfl, rfl, h0, r0⟩ := trodAll_cons hA
  obtain ⟨v1, vs1, d1, ds1, p1, q1, rfl, rfl, rfl, h1, r1⟩ := trodAll_cons r0
  obtain ⟨rfl, rfl, rfl⟩ := trodAll_nil r1
  obtain rfl : args = #[v0, v1] := by cases args; simp_all
  obtain ⟨rfl, rfl⟩ := trodVars_none hV
  have k0 := h0
  have k1 := h1
  have lt0 : ∀ x ∈ p0, x.block < W.heap.size := by obtain ⟨m, hm⟩ := k0; exact DataW.trod_lt m _ _ _ hm
  have lt1 : ∀ x ∈ p1, x.block < W.heap.size := by obtain ⟨m, hm⟩ := k1; exact DataW.trod_lt m _ _ _ hm
  obtain ⟨a, cs, cap, rfl, hc⟩ := openBytes Try.underlying22 Try.underlying5 (by kernel_rfl) (hval 0 22 v0 rfl rfl) h0
  obtain ⟨a', ms, cap', rfl, hc'⟩ := openBytes Try.underlying22 Try.underlying5 (by kernel_rfl) (hval 1 22 v1 rfl rfl) h1
  clear hA0 hval0
  refine (walk a cs cap a' ms cap' W hc hc').mono fun e W' ⟨he, bel⟩ => ?_
  subst he
  exact ⟨_, rfl, _, _, _, [], _, [], hW', trodAll_mk1 (shut_bool Try.underlying4 _), (trodAll_cons_mk (Below.trod laidOut (by kernel_rfl) (of_decide_eq_true (by kernel_rfl)) k0 bel lt0) (trodAll_cons_mk (Below.trod laidOut (by kernel_rfl) (of_decide_eq_true (by kernel_rfl)) k1 bel lt1) trodAll_mk0)), rfl, bel.frame _, fun h => by cases h⟩

theorem proved : Rows.FnLogCutSaid :=
  OpenClaim.holds_of_wide 3 Try.f3 rfl rfl rfl rfl rfl rfl rfl ⟨rfl, rfl, rfl, rfl, rfl⟩ rfl rfl rfl rfl rfl (by kernel_rfl) Try.func3 (by kernel_rfl)
    (of_decide_eq_true (by kernel_rfl)) (by unfold Func.isWrapper; first | (rw [if_pos (by decide +kernel)]; kernel_rfl) | (rw [if_neg (by decide +kernel)]; exact ⟨rfl, rfl⟩))
    (fun os started H enc _ => lifted os started H enc)
#print axioms proved
end Go.Proofs.Ytejbmjdipfcblaa.FnLogCut
