/-
  Proved: FnLogPages returns true, whatever the code: LogPages answers as its model; in a log it has the pages of the records of the chain, ascending. No conditions.
-/
import Derived.Test.YtejbmjdipfcblaaDrawnK
import Derived.Test.YtejbmjdipfcblaaLogPK
import Derived.Deep.DeepCutAuto
import Derived.OpenShut
import Derived.ShutString
import Derived.ChangeOld
namespace Go.Proofs.Ytejbmjdipfcblaa.FnLogPages
open Go.ChangeShapes Go.WideShapes Go.ChangeAt Go.RowKit Base

theorem chain_kth {rs : List R} {t : Int} {i : Nat} (hi : i < (chainB rs t).length) :
    ∃ n : Nat, (chainB rs t).getD i 0 = (n : Int) + 1 ∧ n < rs.length ∧ ∀ p, hasIn rs ((chainC rs (at0 rs t)).take (i + 1)) p = (hasIn rs ((chainC rs (at0 rs t)).take i) p || ((recAt rs n).p == p)) := by
  have hi' : i < (chainC rs (at0 rs t)).length := by
    unfold chainB at hi
    rwa [List.length_map] at hi
  have hm := chain_mem rs (at0 rs t) (at0_steps rs t) (at0 rs t) (Nat.le_refl _) _ (List.getElem_mem hi')
  have hle := (at0_le rs t).1
  refine ⟨(chainC rs (at0 rs t))[i] - 1, ?_, by omega, fun p => ?_⟩
  · unfold chainB
    rw [List.getD_eq_getElem?_getD, List.getElem?_map, List.getElem?_eq_getElem hi']
    simp only [Option.map_some, Option.getD_some]
    omega
  · rw [List.take_add_one, List.getElem?_eq_getElem hi']
    unfold hasIn
    rw [List.any_append]
    simp

set_option maxRecDepth 100000 in
set_option maxHeartbeats 8000000 in
theorem walk (a : Option Addr) (cs : List Int) (cap : Nat) (w : World) (hc : Bytes w w.heap.size a cs cap) :
    Calls Try.prog 6 #[.slice a cs.length cap] w (Keeps (.bool true) w) := by
  have hm : cs.length ≤ maxLen := Nat.le_trans hc.fit hc.most
  unfold maxLen at hm
  have H := Lib.hid hc
  clear hc
  by_cases hbig : (1048576 : Int) < cs.length
  · go_enter Try.func6, Try.ntmps6
    go_wp2
    go_ret
    exact ⟨rfl, Below.refl _ _⟩
  have bbig : decide ((1048576 : Int) < cs.length) = false := by simpa using hbig
  clear hbig
  go_enter Try.func6, Try.ntmps6
  go_wp2_with fail
  refine (drawLogPages_any a cs cap w.heap.size _ (Nat.le_refl _) H.out).mono ?_
  rintro e w1 ⟨b, o, c, rs, t, rfl, hL, hl, t0, t4, hb⟩
  have L1 := Lib.hid hL
  have B1 := Lib.hid hb
  have lb := hL.lt
  have hfit := hL.fit
  have s1 := hb.size
  clear hL hb H
  have hlen := pagesB_len rs t
  have hclen := chainB_len rs t
  go_wp2_with fail
  refine (logPages_any rs t (some ⟨b, o * 8, none⟩) c w1.heap.size _ (Nat.le_refl _) (L1.out.rd.recs lb.2) hfit (by omega)).mono ?_
  rintro e w2 ⟨ca, cc, rfl, b2, m2⟩
  have L2 := Lib.hid (L1.out.below b2)
  have B2 := Lib.hid (B1.out.trans (b2.mono s1))
  have M2 := Lib.hid (m2.low s1)
  have l2 := L2.out.lt
  clear b2 m2 L1 B1
  go_wp2_with fail
  refine (specLogPages_any rs t (some ⟨b, o * 8, none⟩) c w2.heap.size _ (Nat.le_refl _) (L2.out.rd.recs l2.2) hfit (by omega)).mono ?_
  rintro e w3 ⟨sa, sc, rfl, b3, m3⟩
  have L3 := Lib.hid (L2.out.below b3)
  have B3 := Lib.hid (B2.out.trans (b3.mono B2.out.size))
  have M3 := Lib.hid (M2.out.below b3)
  have S3 := Lib.hid m3
  have l3 := L3.out.lt
  clear b3 m3 L2 B2 M2
  go_wp2_with fail
  refine (ltInts_any (pagesB rs t) (pagesB rs t) ca sa cc sc w3.heap.size _ M3.out.ints S3.out.ints (by omega) (by omega)).mono ?_
  rintro e w4 ⟨rfl, m, rfl⟩
  rw [show (pagesB rs t == pagesB rs t) = true from beq_self_eq_true _]
  have L4 := Lib.hid (L3.out.keep (w' := w3.drewN m) rfl)
  have B4 := Lib.hid (far_drewN B3.out m)
  have M4 := Lib.hid (M3.out.below (far_drewN (Below.refl _ _) m))
  have l4 := L4.out.lt
  clear S3 L3 B3 M3
  go_wp2_with fail
  generalize w3.drewN m = w4 at *
  refine (specLogOk_any rs (some ⟨b, o * 8, none⟩) c w4.heap.size _ (Nat.le_refl _) (L4.out.rd.recs l4.2) hfit (by omega)).mono ?_
  rintro e w5 ⟨rfl, b5⟩
  have L5 := Lib.hid (L4.out.below b5)
  have B5 := Lib.hid (B4.out.trans (b5.mono B4.out.size))
  have M5 := Lib.hid (M4.out.below b5)
  have l5 := L5.out.lt
  clear b5 L4 B4 M4
  cases hk : logB rs
  · clear hk
    go_wp2_with fail
    refine (specLogPages_any rs t (some ⟨b, o * 8, none⟩) c w5.heap.size _ (Nat.le_refl _) (L5.out.rd.recs l5.2) hfit (by omega)).mono ?_
    rintro e w6 ⟨sa', sc', rfl, b6, m6⟩
    have B6 := Lib.hid (B5.out.trans (b6.mono B5.out.size))
    have M6 := Lib.hid (M5.out.below b6)
    have S6 := Lib.hid m6
    clear b6 m6 L5 B5 M5
    go_wp2_with fail
    refine (ltInts_any (pagesB rs t) (pagesB rs t) ca sa' cc sc' w6.heap.size _ M6.out.ints S6.out.ints (by omega) (by omega)).mono ?_
    rintro e w7 ⟨rfl, m', rfl⟩
    rw [show (pagesB rs t == pagesB rs t) = true from beq_self_eq_true _]
    go_wp2
    go_ret
    exact ⟨rfl, far_drewN B6.out _⟩
  · have Hk := Lib.hid hk
    clear hk
    go_wp2_with fail
    refine (logChain_any rs t (some ⟨b, o * 8, none⟩) c w5.heap.size _ (Nat.le_refl _) (L5.out.rd.recs l5.2) hfit (by omega)).mono ?_
    rintro e w6 ⟨ha, hcap, rfl, b6, m6⟩
    have L6 := Lib.hid (L5.out.below b6)
    have B6 := Lib.hid (B5.out.trans (b6.mono B5.out.size))
    have N6 := Lib.hid (M5.out.below b6)
    have M6 := Lib.hid (m6.low B5.out.size)
    clear b6 m6 L5 B5 M5
    go_wp2_with fail
    go_loopw [7, 8] (fun kv pv wx => ∃ p : Nat, p ≤ 5 ∧ kv = .int .i64 ((pagesN rs t p).length : Int) ∧ pv = .int .i64 (p : Int) ∧ OwnL wx w.heap.size b o c rs ∧ Mine wx w.heap.size ha (chainB rs t) ∧ Mine wx w.heap.size ca (pagesB rs t) ∧ Below w.heap.size w wx) (fun _ pv _ => 5 - (intOf pv).toNat)
    case atStart => exact ⟨0, by omega, rfl, rfl, L6.out, M6.out, N6.out, B6.out⟩
    case round =>
      clear L6 B6 M6 N6
      obtain ⟨p, hp, rfl, rfl, hL, hM, hN, hb⟩ := hrel
      have L7 := Lib.hid hL
      have M7 := Lib.hid hM
      have N7 := Lib.hid hN
      have B7 := Lib.hid hb
      clear hL hM hN hb
      have hpl := pagesN_len rs t p
      by_cases hlt : p < 5
      · go_wp2_with fail
        go_loopw [9, 10] (fun bv iv wx => ∃ i : Nat, i ≤ (chainB rs t).length ∧ bv = .bool (hasIn rs ((chainC rs (at0 rs t)).take i) (p : Int)) ∧ iv = .int .i64 (i : Int) ∧ OwnL wx w.heap.size b o c rs ∧ Mine wx w.heap.size ha (chainB rs t) ∧ Mine wx w.heap.size ca (pagesB rs t) ∧ Below w.heap.size w wx) (fun _ iv _ => (chainB rs t).length - (intOf iv).toNat)
        case atStart => exact ⟨0, by omega, rfl, rfl, L7.out, M7.out, N7.out, B7.out⟩
        case round =>
          clear L7 M7 N7 B7
          obtain ⟨i, hi, rfl, rfl, hL, hM, hN, hb⟩ := hrel
          have L8 := Lib.hid hL
          have M8 := Lib.hid hM
          have N8 := Lib.hid hN
          have B8 := Lib.hid hb
          clear hL hM hN hb
          by_cases hil : i < (chainB rs t).length
          · obtain ⟨n, hget, hn, hstep⟩ := chain_kth hil
            have hst := Lib.hid (hstep (p : Int))
            clear hstep
            cases hh : hasIn rs ((chainC rs (at0 rs t)).take i) (p : Int)
            · rw [hh] at hst
              obtain ⟨cg, rfl, hcg, hrd, hwr⟩ := M8.out (by omega)
              have ck := hrd i hil
              rw [Nat.zero_add, hget] at ck
              have cp := (L8.out.rd n hn).p
              clear hget hrd
              generalize (recAt rs n).p = rp at *
              go_wp2
              exact ⟨⟨i + 1, by omega, (by rw [hst.out]; simp), by go_num, L8.out, M8.out, N8.out, B8.out⟩, by simp [intOf]; omega⟩
            · rw [hh] at hst
              go_wp2
              exact ⟨⟨i + 1, by omega, (by rw [hst.out]; simp), by go_num, L8.out, M8.out, N8.out, B8.out⟩, by simp [intOf]; omega⟩
          · have hie : Hid (i = (chainC rs (at0 rs t)).length) := by
              show i = (chainC rs (at0 rs t)).length
              have : (chainB rs t).length = (chainC rs (at0 rs t)).length := by unfold chainB; rw [List.length_map]
              omega
            have hha : hasIn rs ((chainC rs (at0 rs t)).take i) (p : Int) = hasB rs t (p : Int) := by
              rw [hie.out, List.take_length]
              rfl
            rw [hha]
            clear hha hie
            cases hh : hasB rs t (p : Int)
            · have Hs := Lib.hid (pagesN_skip rs t p hh)
              clear hh
              go_wp2
              exact ⟨⟨p + 1, by omega, by rw [Hs.out], by go_num, L8.out, M8.out, N8.out, B8.out⟩, by simp [intOf]; omega⟩
            · obtain ⟨k1, k2, k3⟩ := pagesN_kth rs t p hlt hh
              have Hs := Lib.hid k3
              clear hh k3
              obtain ⟨pg, rfl, hpg, hrd, hwr⟩ := N8.out (by omega)
              have ck := hrd _ k1
              rw [Nat.zero_add, k2] at ck
              clear k2 hrd
              generalize (pagesN rs t p).length = q at *
              go_wp2
              exact ⟨⟨p + 1, by omega, by rw [Hs.out]; go_num, by go_num, L8.out, M8.out, N8.out, B8.out⟩, by simp [intOf]; omega⟩
      · obtain rfl : p = 5 := by omega
        go_wp2
        go_ret
        exact ⟨ret_bool (by simp [pagesB]), B7.out⟩

theorem own : ownKnob Try.prog.godebug = none := by kernel_rfl
theorem laidOut : laidOutB Try.prog = true := by kernel_rfl

set_option maxRecDepth 100000 in
theorem lifted (os : Os) (started : os.Started) (H : Type) (enc : TypeId × Value → H) :
    ReturnsInHanded {} Try.checked os 6 .any (Rows.fnLogPagesSpec.pre6 enc Try.prog Try.f6 Rows.fnLogPagesRow.domain false) (Rows.fnLogPagesSpec.post enc Try.prog Try.f6 false true false false) := by
  refine returnsInHanded_of_change (C := Try.checked) own started (by kernel_rfl) Try.func6
    (ChangeSpec.witness6 (enc := enc) (C := Try.checked) false ⟨#[], #[.slice none 0 0], []⟩ 8 (by kernel_rfl) (by kernel_rfl) (by kernel_rfl) (by kernel_rfl)) ?_
  intro W base args ds gs before hval0 hW hcnd _
  have hval : ∀ (j : Nat) t v, Try.f6.params[j]? = some t → args[j]? = some v → Value.okWide Try.prog W .any base t v := hval0
  have hW' := hW
  obtain ⟨p, q, hA0, hV, rfl, hfz, hnd⟩ := hW
  have hA : DataW.TrodAll enc Try.prog W 0 (fun _ => true) true Try.f6.params.toList args.toList ds p := hA0
  rw [Try.params6] at hA hval
  obtain ⟨v0, vs0, d0, ds0, p0, q0, hargs, rfl, rfl, h0, r0⟩ := trodAll_cons hA
  obtain ⟨rfl, rfl, rfl⟩ := trodAll_nil r0
  obtain rfl : args = #[v0] := by cases args; simp_all
  obtain ⟨rfl, rfl⟩ := trodVars_none hV
  have k0 := h0
  have lt0 : ∀ x ∈ p0, x.block < W.heap.size := by obtain ⟨m, hm⟩ := k0; exact DataW.trod_lt m _ _ _ hm
  obtain ⟨a, cs, cap, rfl, hc⟩ := openBytes Try.underlying22 Try.underlying5 (by kernel_rfl) (hval 0 22 v0 rfl rfl) h0
  clear hA0 hval0
  refine (walk a cs cap W hc).mono fun e W' ⟨he, bel⟩ => ?_
  subst he
  exact ⟨_, rfl, _, _, _, [], _, [], hW', trodAll_mk1 (shut_bool Try.underlying4 _), (trodAll_cons_mk (Below.trod laidOut (by kernel_rfl) (of_decide_eq_true (by kernel_rfl)) k0 bel lt0) trodAll_mk0), rfl, bel.frame _, fun h => by cases h⟩

theorem proved : Rows.FnLogPagesSaid :=
  OpenClaim.holds_of_wide 6 Try.f6 rfl rfl rfl rfl rfl rfl rfl ⟨rfl, rfl, rfl, rfl, rfl⟩ rfl rfl rfl rfl rfl (by kernel_rfl) Try.func6 (by kernel_rfl)
    (of_decide_eq_true (by kernel_rfl)) (by unfold Func.isWrapper; first | (rw [if_pos (by decide +kernel)]; kernel_rfl) | (rw [if_neg (by decide +kernel)]; exact ⟨rfl, rfl⟩))
    (fun os started H enc _ => lifted os started H enc)
#print axioms proved
end Go.Proofs.Ytejbmjdipfcblaa.FnLogPages
