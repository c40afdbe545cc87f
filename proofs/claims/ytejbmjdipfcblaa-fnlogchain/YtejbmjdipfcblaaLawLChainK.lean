/-
  Proved: FnLogChain returns true, whatever the code: LogChain answers as its model; in a log its records are of one, each tells the one ahead of it, down to none. No conditions.
-/
import Derived.Test.YtejbmjdipfcblaaDrawnK
import Derived.Deep.DeepCutAuto
import Derived.OpenShut
import Derived.ShutString
import Derived.ChangeOld
namespace Go.Proofs.Ytejbmjdipfcblaa.FnLogChain
open Go.ChangeShapes Go.WideShapes Go.ChangeAt Go.RowKit Base

set_option maxRecDepth 100000 in
set_option maxHeartbeats 8000000 in
theorem walk (a : Option Addr) (cs : List Int) (cap : Nat) (w : World) (hc : Bytes w w.heap.size a cs cap) :
    Calls Try.prog 4 #[.slice a cs.length cap] w (Keeps (.bool true) w) := by
  have hm : cs.length ≤ maxLen := Nat.le_trans hc.fit hc.most
  unfold maxLen at hm
  have H := Lib.hid hc
  clear hc
  by_cases hbig : (1048576 : Int) < cs.length
  · go_enter Try.func4, Try.ntmps4
    go_wp2
    go_ret
    exact ⟨rfl, Below.refl _ _⟩
  have bbig : decide ((1048576 : Int) < cs.length) = false := by simpa using hbig
  clear hbig
  go_enter Try.func4, Try.ntmps4
  go_wp2_with fail
  refine (drawLogChain_any a cs cap w.heap.size _ (Nat.le_refl _) H.out).mono ?_
  rintro e w1 ⟨b, o, c, rs, t, rfl, hL, hl, t0, t4, hb⟩
  have L1 := Lib.hid hL
  have B1 := Lib.hid hb
  have lb := hL.lt
  have hfit := hL.fit
  have s1 := hb.size
  clear hL hb H
  have hlen := chainB_len rs t
  go_wp2_with fail
  refine (logChain_any rs t (some ⟨b, o * 8, none⟩) c w1.heap.size _ (Nat.le_refl _) (L1.out.rd.recs lb.2) hfit (by omega)).mono ?_
  rintro e w2 ⟨ca, cc, rfl, b2, m2⟩
  have L2 := Lib.hid (L1.out.below b2)
  have B2 := Lib.hid (B1.out.trans (b2.mono s1))
  have M2 := Lib.hid (m2.low s1)
  have l2 := L2.out.lt
  clear b2 m2 L1 B1
  go_wp2_with fail
  refine (specLogChain_any rs t (some ⟨b, o * 8, none⟩) c w2.heap.size _ (Nat.le_refl _) (L2.out.rd.recs l2.2) hfit (by omega)).mono ?_
  rintro e w3 ⟨sa, sc, rfl, b3, m3⟩
  have L3 := Lib.hid (L2.out.below b3)
  have B3 := Lib.hid (B2.out.trans (b3.mono B2.out.size))
  have M3 := Lib.hid (M2.out.below b3)
  have S3 := Lib.hid m3
  have l3 := L3.out.lt
  clear b3 m3 L2 B2 M2
  go_wp2_with fail
  refine (ltInts_any (chainB rs t) (chainB rs t) ca sa cc sc w3.heap.size _ M3.out.ints S3.out.ints (by omega) (by omega)).mono ?_
  rintro e w4 ⟨rfl, m, rfl⟩
  rw [show (chainB rs t == chainB rs t) = true from beq_self_eq_true _]
  have L4 := Lib.hid (L3.out.keep (w' := w3.drewN m) rfl)
  have B4 := Lib.hid (far_drewN B3.out m)
  have M4 := Lib.hid (M3.out.below (far_drewN (Below.refl _ _) m))
  have l4 := L4.out.lt
  clear S3 L3 B3 M3
  go_wp2_with fail
  generalize w3.drewN m = w4 at *
  refine (specLogOk_any rs (some ⟨b, o * 8, none⟩) c w4.heap.size _ (Nat.le_refl _) (L4.out.rd.recs l4.2) hfit (by omega)).mono ?_
  rintro e w5 ⟨rfl, b5⟩
  have L5 := Lib.hid (L4.out.below b5)
  have B5 := Lib.hid (B4.out.trans (b5.mono B4.out.size))
  have M5 := Lib.hid (M4.out.below b5)
  have l5 := L5.out.lt
  clear b5 L4 B4 M4
  cases hk : logB rs
  · clear hk
    go_wp2_with fail
    refine (specLogChain_any rs t (some ⟨b, o * 8, none⟩) c w5.heap.size _ (Nat.le_refl _) (L5.out.rd.recs l5.2) hfit (by omega)).mono ?_
    rintro e w6 ⟨sa', sc', rfl, b6, m6⟩
    have B6 := Lib.hid (B5.out.trans (b6.mono B5.out.size))
    have M6 := Lib.hid (M5.out.below b6)
    have S6 := Lib.hid m6
    clear b6 m6 L5 B5 M5
    go_wp2_with fail
    refine (ltInts_any (chainB rs t) (chainB rs t) ca sa' cc sc' w6.heap.size _ M6.out.ints S6.out.ints (by omega) (by omega)).mono ?_
    rintro e w7 ⟨rfl, m', rfl⟩
    rw [show (chainB rs t == chainB rs t) = true from beq_self_eq_true _]
    go_wp2
    go_ret
    exact ⟨rfl, far_drewN B6.out _⟩
  · have Hk := Lib.hid hk
    clear hk
    go_wp2_with fail
    refine (logLast_any rs t (some ⟨b, o * 8, none⟩) c w5.heap.size _ (Nat.le_refl _) (L5.out.rd.recs l5.2) hfit (by omega)).mono ?_
    rintro e w6 ⟨rfl, b6⟩
    have L6 := Lib.hid (L5.out.below b6)
    have B6 := Lib.hid (B5.out.trans (b6.mono B5.out.size))
    have M6 := Lib.hid (M5.out.below b6)
    clear b6 L5 B5 M5
    rw [at0_lastB]
    go_wp2_with fail
    go_loopw [6, 7] (fun av iv wx => ∃ k n : Nat, av = .int .i64 (n : Int) ∧ iv = .int .i64 (k : Int) ∧ ChSt rs t k n ∧ OwnL wx w.heap.size b o c rs ∧ Mine wx w.heap.size ca (chainB rs t) ∧ Below w.heap.size w wx) (fun _ iv _ => (chainB rs t).length - (intOf iv).toNat)
    case atStart => exact ⟨0, _, rfl, rfl, ChSt.init Hk.out t, L6.out, M6.out, B6.out⟩
    case round =>
      clear L6 B6 M6
      obtain ⟨k, n, rfl, rfl, hS, hL, hM, hb⟩ := hrel
      have S7 := Lib.hid hS
      have L7 := Lib.hid hL
      have M7 := Lib.hid hM
      have B7 := Lib.hid hb
      clear hS hL hM hb
      match n with
      | 0 =>
        have hend : k = (chainB rs t).length := S7.out.done
        have hlt : ¬ k < (chainB rs t).length := by omega
        clear hend
        go_wp2
        go_ret
        exact ⟨rfl, B7.out⟩
      | n + 1 =>
        obtain ⟨hlt, hget, hn, ht, he, n', hv, hS'⟩ := S7.out.next Hk.out
        have S8 := Lib.hid hS'
        obtain ⟨cg, rfl, hcg, hrd, hwr⟩ := M7.out (by omega)
        have ck := hrd k hlt
        rw [Nat.zero_add] at ck
        obtain ⟨c0, c1, c2, c3, c4, c5, c6, c7⟩ := L7.out.rd n hn
        generalize hr : recAt rs n = r at *
        obtain ⟨rk, rt, rp, rsl, ro, rn, rv, rx⟩ := r
        simp only at ht hv c0 c1 c2 c3 c4 c5 c6 c7
        subst hv
        have bt : (rt != t) = false := by rw [ht]; simp
        clear ht
        unfold endR at he
        simp only [Bool.or_eq_false_iff] at he
        obtain ⟨e4, e5⟩ := he
        have kb := Lib.hid (below_one wr (Obj.cells #[.int .i64 rk, .int .i64 rt, .int .i64 rp, .int .i64 rsl, .int .i64 ro, .int .i64 rn, .int .i64 (n' : Int), .int .i64 rx] 27))
        have X8 := Lib.hid (Has.new wr 27 #[.int .i64 rk, .int .i64 rt, .int .i64 rp, .int .i64 rsl, .int .i64 ro, .int .i64 rn, .int .i64 (n' : Int), .int .i64 rx])
        have ck8 := (hrd.below kb.out hwr.1) k hlt
        rw [hget, Nat.zero_add] at ck8
        rw [hget] at ck
        have C8 := Lib.hid ck8
        have L8 := Lib.hid (L7.out.below kb.out)
        have M8 := Lib.hid (M7.out.below kb.out)
        have B8 := Lib.hid (B7.out.trans (kb.out.mono B7.out.size))
        clear kb ck8 hget
        go_upto_region 12 with (fail)
        generalize wr.alloc (Obj.cells #[.int .i64 rk, .int .i64 rt, .int .i64 rp, .int .i64 rsl, .int .i64 ro, .int .i64 rn, .int .i64 (n' : Int), .int .i64 rx] 27) = w8 at *
        generalize wr.heap.size = rb at *
        clear c0 c1 c2 c3 c4 c5 c6 c7 ck
        have ck8 := C8.out
        obtain ⟨d0, d1, d2, d3, d4, d5, d6, d7⟩ := eight X8.out
        go_wp2
        exact ⟨⟨k + 1, n', by go_num, by go_num, S8.out, L8.out, M8.out, B8.out⟩, by simp [intOf]; omega⟩

theorem own : ownKnob Try.prog.godebug = none := by kernel_rfl
theorem laidOut : laidOutB Try.prog = true := by kernel_rfl

set_option maxRecDepth 100000 in
theorem lifted (os : Os) (started : os.Started) (H : Type) (enc : TypeId × Value → H) :
    ReturnsInHanded {} Try.checked os 4 .any (Rows.fnLogChainSpec.pre6 enc Try.prog Try.f4 Rows.fnLogChainRow.domain false) (Rows.fnLogChainSpec.post enc Try.prog Try.f4 false true false false) := by
  refine returnsInHanded_of_change (C := Try.checked) own started (by kernel_rfl) Try.func4
    (ChangeSpec.witness6 (enc := enc) (C := Try.checked) false ⟨#[], #[.slice none 0 0], []⟩ 8 (by kernel_rfl) (by kernel_rfl) (by kernel_rfl) (by kernel_rfl)) ?_
  intro W base args ds gs before hval0 hW hcnd _
  have hval : ∀ (j : Nat) t v, Try.f4.params[j]? = some t → args[j]? = some v → Value.okWide Try.prog W .any base t v := hval0
  have hW' := hW
  obtain ⟨p, q, hA0, hV, rfl, hfz, hnd⟩ := hW
  have hA : DataW.TrodAll enc Try.prog W 0 (fun _ => true) true Try.f4.params.toList args.toList ds p := hA0
  rw [Try.params4] at hA hval
  obtain ⟨v0, vs0, d0, ds0, p0, q0, hargs, rfl, rfl, h0, r0⟩ := trodAll_cons hA
  obtain ⟨rfl, rfl, rfl⟩ := trodAll_nil r0
  obtain rfl : args = #[v0] := by cases args; simp_all
  obtain ⟨rfl, rfl⟩ := trodVars_none hV
  have k0 := h0
  have lt0 : ∀ x ∈ p0, x.block < W.heap.size := by obtain ⟨m, hm⟩ := k0; exact DataW.trod_lt m _ _ _ hm
  obtain ⟨a, cs, cap, rfl, hc⟩ := openBytes Try.underlying22 Try.underlying5 (by kernel_rfl) (hval 0 22 v0 rfl rfl) h0
  clear hA0 hval0
  refine (walk a cs cap W hc).mono fun e W' ⟨he, bel⟩ => ?_
  subst he
  exact ⟨_, rfl, _, _, _, [], _, [], hW', trodAll_mk1 (shut_bool Try.underlying4 _), (trodAll_cons_mk (Below.trod laidOut (by kernel_rfl) (of_decide_eq_true (by kernel_rfl)) k0 bel lt0) trodAll_mk0), rfl, bel.frame _, fun h => by cases h⟩

theorem proved : Rows.FnLogChainSaid :=
  OpenClaim.holds_of_wide 4 Try.f4 rfl rfl rfl rfl rfl rfl rfl ⟨rfl, rfl, rfl, rfl, rfl⟩ rfl rfl rfl rfl rfl (by kernel_rfl) Try.func4 (by kernel_rfl)
    (of_decide_eq_true (by kernel_rfl)) (by unfold Func.isWrapper; first | (rw [if_pos (by decide +kernel)]; kernel_rfl) | (rw [if_neg (by decide +kernel)]; exact ⟨rfl, rfl⟩))
    (fun os started H enc _ => lifted os started H enc)
#print axioms proved
end Go.Proofs.Ytejbmjdipfcblaa.FnLogChain
