/-
  Proved: FnLogOpen returns true, whatever the codes: LogOpen answers as its model; in a log it has those who are not done; with RecDone behind it, one is open no more. No conditions.
-/
import Derived.Test.YtejbmjdipfcblaaDrawnK
import Derived.Deep.DeepCutAuto
import Derived.OpenShut
import Derived.ShutString
import Derived.ChangeOld
namespace Go.Proofs.Ytejbmjdipfcblaa.FnLogOpen
open Go.ChangeShapes Go.WideShapes Go.ChangeAt Go.RowKit Base

/-- a new, empty row of records -/
theorem OwnL.empty {w : World} {g : Nat} (h : Has w g 27 #[]) (base : Nat) (hb : base ≤ g) : OwnL w base g 0 0 [] := ⟨hb, ⟨#[], h, by simp, by simp [cellsOfRs]⟩, by simp⟩
theorem done_more {rs : List R} {z : Int} (h : logB rs = true) (hl : rs.length < 150) (hz : z ∈ opens rs 3) :
    logB (rs ++ [⟨4, z, 0, 0, 0, 0, lastB rs z, 0⟩]) = true ∧ z ∉ opens (rs ++ [⟨4, z, 0, 0, 0, 0, lastB rs z, 0⟩]) 3 := by
  obtain ⟨⟨z1, z3⟩, hn⟩ := (opens_mem rs 3 z).1 hz
  have hy := lastB_yes rs z h
  have hle := lastN_le rs z rs.length
  have hok : okR ⟨4, z, 0, 0, 0, 0, lastB rs z, 0⟩ = true := by
    simp [okR, formB, inB]
    omega
  have hx := logB_more (r := ⟨4, z, 0, 0, 0, 0, lastB rs z, 0⟩) h hok hy (by simp) (.inl rfl) (by omega)
  refine ⟨hx, fun hm => ((opens_mem _ 3 z).1 hm).2 ?_⟩
  rw [lastB_more h hx, if_pos rfl]
  exact if_pos rfl

set_option maxRecDepth 100000 in
set_option maxHeartbeats 8000000 in
theorem walk (a : Option Addr) (cs : List Int) (cap : Nat) (a' : Option Addr) (ms : List Int) (cap' : Nat) (w : World) (hc : Bytes w w.heap.size a cs cap) (hc' : Bytes w w.heap.size a' ms cap') :
    Calls Try.prog 7 #[.slice a cs.length cap, .slice a' ms.length cap'] w (Keeps (.bool true) w) := by
  have hm : cs.length ≤ maxLen := Nat.le_trans hc.fit hc.most
  have hm' : ms.length ≤ maxLen := Nat.le_trans hc'.fit hc'.most
  unfold maxLen at hm hm'
  have H := Lib.hid hc
  clear hc hc'
  by_cases hbig : (1048576 : Int) < cs.length
  · go_enter Try.func7, Try.ntmps7
    go_wp2
    go_ret
    exact ⟨rfl, Below.refl _ _⟩
  have bbig : decide ((1048576 : Int) < cs.length) = false := by simpa using hbig
  clear hbig
  by_cases hbig : (1048576 : Int) < ms.length
  · go_enter Try.func7, Try.ntmps7
    go_wp2
    go_ret
    exact ⟨rfl, Below.refl _ _⟩
  have bbig' : decide ((1048576 : Int) < ms.length) = false := by simpa using hbig
  clear hbig
  go_enter Try.func7, Try.ntmps7
  go_wp2_with fail
  refine (drawLogOpen_any a cs cap w.heap.size _ (Nat.le_refl _) H.out).mono ?_
  rintro e w1 ⟨b, o, c, rs, rfl, hL, hl, hb⟩
  have L1 := Lib.hid hL
  have B1 := Lib.hid hb
  have lb := hL.lt
  have hfit := hL.fit
  have s1 := hb.size
  clear hL hb H
  have hlen := opens_len rs 3
  go_wp2_with fail
  refine (logOpen_any rs (some ⟨b, o * 8, none⟩) c w1.heap.size _ (Nat.le_refl _) (L1.out.rd.recs lb.2) hfit (by omega)).mono ?_
  rintro e w2 ⟨ca, cc, rfl, b2, m2⟩
  have L2 := Lib.hid (L1.out.below b2)
  have B2 := Lib.hid (B1.out.trans (b2.mono s1))
  have M2 := Lib.hid (m2.low s1)
  have l2 := L2.out.lt
  clear b2 m2 L1 B1
  go_wp2_with fail
  refine (specLogOpen_any rs (some ⟨b, o * 8, none⟩) c w2.heap.size _ (Nat.le_refl _) (L2.out.rd.recs l2.2) hfit (by omega)).mono ?_
  rintro e w3 ⟨sa, sc, rfl, b3, m3⟩
  have L3 := Lib.hid (L2.out.below b3)
  have B3 := Lib.hid (B2.out.trans (b3.mono B2.out.size))
  have M3 := Lib.hid (M2.out.below b3)
  have S3 := Lib.hid m3
  have l3 := L3.out.lt
  clear b3 m3 L2 B2 M2
  go_wp2_with fail
  refine (ltInts_any (opens rs 3) (opens rs 3) ca sa cc sc w3.heap.size _ M3.out.ints S3.out.ints (by omega) (by omega)).mono ?_
  rintro e w4 ⟨rfl, m, rfl⟩
  rw [show (opens rs 3 == opens rs 3) = true from beq_self_eq_true _]
  have L4 := Lib.hid (L3.out.keep (w' := w3.drewN m) rfl)
  have B4 := Lib.hid (far_drewN B3.out m)
  have M4 := Lib.hid (M3.out.below (far_drewN (Below.refl _ _) m))
  have l4 := L4.out.lt
  clear S3 L3 B3 M3
  go_wp2_with fail
  generalize w3.drewN m = w4 at *
  refine (specLogOk_any rs (some ⟨b, o * 8, none⟩) c w4.heap.size _ (Nat.le_refl _) (L4.out.rd.recs l4.2) hfit (by omega)).mono ?_
  rintro e w5 ⟨rfl, b5⟩
  have L5 := Lib.hid (L4.out.below b5)
  have B5 := Lib.hid (B4.out.trans (b5.mono B4.out.size))
  have M5 := Lib.hid (M4.out.below b5)
  have l5 := L5.out.lt
  clear b5 L4 B4 M4
  cases hk : logB rs
  · clear hk
    go_wp2_with fail
    refine (specLogOpen_any rs (some ⟨b, o * 8, none⟩) c w5.heap.size _ (Nat.le_refl _) (L5.out.rd.recs l5.2) hfit (by omega)).mono ?_
    rintro e w6 ⟨sa', sc', rfl, b6, m6⟩
    have B6 := Lib.hid (B5.out.trans (b6.mono B5.out.size))
    have M6 := Lib.hid (M5.out.below b6)
    have S6 := Lib.hid m6
    clear b6 m6 L5 B5 M5
    go_wp2_with fail
    refine (ltInts_any (opens rs 3) (opens rs 3) ca sa' cc sc' w6.heap.size _ M6.out.ints S6.out.ints (by omega) (by omega)).mono ?_
    rintro e w7 ⟨rfl, m', rfl⟩
    rw [show (opens rs 3 == opens rs 3) = true from beq_self_eq_true _]
    go_wp2
    go_ret
    exact ⟨rfl, far_drewN B6.out _⟩
  · have Hk := Lib.hid hk
    clear hk
    go_wp2_with fail
    go_loopw [7, 8] (fun kv tv wx => ∃ t : Nat, t ≤ 3 ∧ kv = .int .i64 ((opens rs t).length : Int) ∧ tv = .int .i64 ((t : Int) + 1) ∧ OwnL wx w.heap.size b o c rs ∧ Mine wx w.heap.size ca (opens rs 3) ∧ Below w.heap.size w wx) (fun _ tv _ => 4 - (intOf tv).toNat)
    case atStart => exact ⟨0, by omega, rfl, rfl, L5.out, M5.out, B5.out⟩
    case round =>
      clear L5 B5 M5
      obtain ⟨t, ht, rfl, rfl, hL, hM, hb⟩ := hrel
      have L6 := Lib.hid hL
      have M6 := Lib.hid hM
      have B6 := Lib.hid hb
      have l6 := hL.lt
      have s6 := hb.size
      clear hL hM hb
      have htl := opens_len rs t
      by_cases hlt : t < 3
      · go_wp2_with fail
        refine (logLast_any rs ((t : Int) + 1) (some ⟨b, o * 8, none⟩) c wr.heap.size _ (Nat.le_refl _) (L6.out.rd.recs l6.2) hfit (by omega)).mono ?_
        rintro e w7 ⟨rfl, b7⟩
        have L7 := Lib.hid (L6.out.below b7)
        have M7 := Lib.hid (M6.out.below b7)
        have B7 := Lib.hid (B6.out.trans (b7.mono s6))
        have hnn := lastB_nonneg rs ((t : Int) + 1)
        clear b7 L6 M6 B6
        by_cases hz : lastB rs ((t : Int) + 1) = 0
        · have Hs := Lib.hid (opens_skip rs t hz)
          rw [hz]
          clear hz hnn
          go_wp2
          exact ⟨⟨t + 1, by omega, by rw [Hs.out], by go_num, L7.out, M7.out, B7.out⟩, by simp [intOf]; omega⟩
        · obtain ⟨k1, k2, k3⟩ := opens_kth rs t hlt hz
          have Hs := Lib.hid k3
          have bz : decide ((0 : Int) < lastB rs ((t : Int) + 1)) = true := by simp; omega
          obtain ⟨pg, rfl, hpg, hrd, hwr⟩ := M7.out (by omega)
          have ck := hrd _ k1
          rw [Nat.zero_add, k2] at ck
          clear k2 k3 hrd hz hnn
          generalize lastB rs ((t : Int) + 1) = u at *
          generalize (opens rs t).length = q at *
          go_wp2
          exact ⟨⟨t + 1, by omega, by rw [Hs.out]; go_num, by go_num, L7.out, M7.out, B7.out⟩, by simp [intOf]; omega⟩
      · obtain rfl : t = 3 := by omega
        by_cases h0 : (opens rs 3).length = 0
        · go_wp2
          go_ret
          exact ⟨ret_bool (by simp), B6.out⟩
        by_cases hful : rs.length = 150
        · have b0 : (((opens rs 3).length : Int) == 0) = false := by rw [beq_eq_false_iff_ne]; omega
          have Hz0 := Lib.hid h0
          clear h0
          go_wp2
          go_ret
          exact ⟨ret_bool (by simp), B6.out⟩
        have b0 : (((opens rs 3).length : Int) == 0) = false := by rw [beq_eq_false_iff_ne]; omega
        have b1 : ((rs.length : Int) == 150) = false := by simp; omega
        have hl150 := log_len Hk.out
        obtain ⟨q, hq⟩ : ∃ q, q = ms.length % (opens rs 3).length := ⟨_, rfl⟩
        have hql : q < (opens rs 3).length := by rw [hq]; exact Nat.mod_lt _ (by omega)
        have hmod : Int.tmod (ms.length : Int) ((opens rs 3).length : Int) = (q : Int) := by
          rw [hq, Int.tmod_eq_emod_of_nonneg (by omega)]
          exact (Int.natCast_emod ms.length (opens rs 3).length).symm
        clear hq
        obtain ⟨pg, rfl, hpg, hrd, hwr⟩ := M6.out (by omega)
        have ck := hrd _ hql
        rw [Nat.zero_add] at ck
        have hzm : (opens rs 3).getD q 0 ∈ opens rs 3 := by
          rw [List.getD_eq_getElem?_getD, List.getElem?_eq_getElem hql]
          simp
        have Hd := Lib.hid (done_more Hk.out (by omega) hzm)
        have hzr := ((opens_mem rs 3 _).1 hzm).1
        clear hzm hrd
        generalize (opens rs 3).getD q 0 = z at *
        have k0 := below_one wr (.cells #[] 27)
        have E0 := Lib.hid (OwnL.empty (Has.new wr 27 #[]) wr.heap.size (Nat.le_refl _))
        have L0 := Lib.hid (L6.out.below k0)
        have sz0 : wr.heap.size ≤ (wr.alloc (.cells #[] 27)).heap.size := k0.size
        have K0 := Lib.hid k0
        clear k0
        go_wp2_with (at_builtin; refine wp_append_L _ rfl (.tmp 79) (.tmp 80) rfl rfl E0.out b (o * 8) rs.length c rs rfl rfl L0.out.rd (by simp; omega) sz0 ?_; intro b7 o7 c7 w7 h1 h2; rw [List.nil_append] at h1 ⊢; have X7 := Lib.hid h1; have K7 := Lib.hid (K0.out.trans (below_grown h2 (Nat.le_refl _) sz0)); clear h1 h2)
        have L7 := Lib.hid (L6.out.below K7.out)
        refine (logLast_any rs z (some ⟨b, o * 8, none⟩) c w7.heap.size _ (Nat.le_refl _) (L7.out.rd.recs L7.out.lt.2) hfit (by omega)).mono ?_
        rintro e w8 ⟨rfl, b8⟩
        have k9 := below_one w8 (.cells (recC ⟨4, z, 0, 0, 0, 0, lastB rs z, 0⟩) 27)
        have X9 := Lib.hid ((X7.out.below b8).below k9)
        have K8 := K7.out.trans (b8.mono K7.out.size)
        have K9 := Lib.hid (K8.trans (k9.mono K8.size))
        have one := Lib.hid (Has.new w8 27 (recC ⟨4, z, 0, 0, 0, 0, lastB rs z, 0⟩))
        have s9 : wr.heap.size ≤ (w8.alloc (.cells (recC ⟨4, z, 0, 0, 0, 0, lastB rs z, 0⟩) 27)).heap.size := K9.out.size
        obtain ⟨xs, hxs⟩ : ∃ xs, rs ++ [⟨4, z, 0, 0, 0, 0, lastB rs z, 0⟩] = xs := ⟨_, rfl⟩
        have hxl : xs.length = rs.length + 1 := by rw [← hxs]; simp
        have hxm : xs.length ≤ 1000000 := by omega
        clear hxl
        have HX := Lib.hid hxs
        have hd1 := Hd.out.1
        have hd2 := Hd.out.2
        rw [hxs] at hd1 hd2
        have H1 := Lib.hid hd1
        have H2 : Hid (decide (z ∈ opens xs 3) = false) := Lib.hid (decide_eq_false hd2)
        clear hxs b8 k9 K8 X7 K7 K0 L0 E0 L7 Hd hd1 hd2 hmod
        go_wp2_with (at_builtin; refine wp_append_L _ rfl (.tmp 81) (.tmp 87) rfl rfl X9.out w8.heap.size 0 1 1 [⟨4, z, 0, 0, 0, 0, lastB rs z, 0⟩] rfl rfl (RdR_one one.out) (by simp; omega) s9 ?_; intro bx ox cx w10 h1 h2; rw [HX.out] at h1 ⊢; have X10 := Lib.hid h1; have K10 := Lib.hid (K9.out.trans (below_grown h2 X9.out.low s9)); clear h1 h2)
        have BA := Lib.hid (B6.out.trans (K10.out.mono s6))
        refine (logOk_any xs (some ⟨bx, ox * 8, none⟩) cx w10.heap.size _ (Nat.le_refl _) (X10.out.rd.recs X10.out.lt.2) X10.out.fit (by omega)).mono ?_
        rintro e w11 ⟨rfl, b11⟩
        have X11 := Lib.hid (X10.out.below b11)
        have BB := Lib.hid (BA.out.trans (b11.mono BA.out.size))
        rw [H1.out]
        clear b11 X10 BA X9 K9 one K10
        go_wp2_with fail
        refine (logOpen_any xs (some ⟨bx, ox * 8, none⟩) cx w11.heap.size _ (Nat.le_refl _) (X11.out.rd.recs X11.out.lt.2) X11.out.fit (by omega)).mono ?_
        rintro e w12 ⟨xa, xc, rfl, b12, m12⟩
        have BC := Lib.hid (BB.out.trans (b12.mono BB.out.size))
        have M12 := Lib.hid m12
        have hxol := opens_len xs 3
        clear b12 m12 BB X11
        go_wp2_with fail
        refine (ltAmong_any (opens xs 3) z xa xc w12.heap.size _ M12.out.ints (by omega)).mono ?_
        rintro e w13 ⟨rfl, rfl⟩
        rw [H2.out]
        go_wp2
        go_ret
        exact ⟨rfl, BC.out⟩

theorem own : ownKnob Try.prog.godebug = none := by kernel_rfl
theorem laidOut : laidOutB Try.prog = true := by kernel_rfl

set_option maxRecDepth 100000 in
theorem lifted (os : Os) (started : os.Started) (H : Type) (enc : TypeId × Value → H) :
    ReturnsInHanded {} Try.checked os 7 .any (Rows.fnLogOpenSpec.pre6 enc Try.prog Try.f7 Rows.fnLogOpenRow.domain false) (Rows.fnLogOpenSpec.post enc Try.prog Try.f7 false true false false) := by
  refine returnsInHanded_of_change (C := Try.checked) own started (by kernel_rfl) Try.func7
    (ChangeSpec.witness6 (enc := enc) (C := Try.checked) false ⟨#[], #[.slice none 0 0, .slice none 0 0], []⟩ 8 (by kernel_rfl) (by kernel_rfl) (by kernel_rfl) (by kernel_rfl)) ?_
  intro W base args ds gs before hval0 hW hcnd _
  have hval : ∀ (j : Nat) t v, Try.f7.params[j]? = some t → args[j]? = some v → Value.okWide Try.prog W .any base t v := hval0
  have hW' := hW
  obtain ⟨p, q, hA0, hV, rfl, hfz, hnd⟩ := hW
  have hA : DataW.TrodAll enc Try.prog W 0 (fun _ => true) true Try.f7.params.toList args.toList ds p := hA0
  rw [Try.params7] at hA hval
  obtain ⟨v0, vs0, d0, ds0, p0, q0, hargs, rfl, rfl, h0, r0⟩ := trodAll_cons hA
  obtain ⟨v1, vs1, d1, ds1, p1, q1, rfl, rfl, rfl, h1, r1⟩ := trodAll_cons r0
  obtain ⟨rfl, rfl, rfl⟩ := trodAll_nil r1
  obtain rfl : args = #[v0, v1] := by cases args; simp_all
  obtain ⟨rfl, rfl⟩ := trodVars_none hV
  have k0 := h0
  have k1 := h1
  have lt0 : ∀ x ∈ p0, x.block < W.heap.size := by obtain ⟨m, hm⟩ := k0; exact DataW.trod_lt m _ _ _ hm
  have lt1 : ∀ x ∈ p1, x.block < W.heap.size := by obtain ⟨m, hm⟩ := k1; exact DataW.trod_lt m _ _ _ hm
  obtain ⟨a, cs, cap, rfl, hc⟩ := openBytes Try.underlying22 Try.underlying5 (by kernel_rfl) (hval 0 22 v0 rfl rfl) h0
  obtain ⟨a', ms, cap', rfl, hc'⟩ := openBytes Try.underlying22 Try.underlying5 (by kernel_rfl) (hval 1 22 v1 rfl rfl) h1
  clear hA0 hval0
  refine (walk a cs cap a' ms cap' W hc hc').mono fun e W' ⟨he, bel⟩ => ?_
  subst he
  exact ⟨_, rfl, _, _, _, [], _, [], hW', trodAll_mk1 (shut_bool Try.underlying4 _), (trodAll_cons_mk (Below.trod laidOut (by kernel_rfl) (of_decide_eq_true (by kernel_rfl)) k0 bel lt0) (trodAll_cons_mk (Below.trod laidOut (by kernel_rfl) (of_decide_eq_true (by kernel_rfl)) k1 bel lt1) trodAll_mk0)), rfl, bel.frame _, fun h => by cases h⟩

theorem proved : Rows.FnLogOpenSaid :=
  OpenClaim.holds_of_wide 7 Try.f7 rfl rfl rfl rfl rfl rfl rfl ⟨rfl, rfl, rfl, rfl, rfl⟩ rfl rfl rfl rfl rfl (by kernel_rfl) Try.func7 (by kernel_rfl)
    (of_decide_eq_true (by kernel_rfl)) (by unfold Func.isWrapper; first | (rw [if_pos (by decide +kernel)]; kernel_rfl) | (rw [if_neg (by decide +kernel)]; exact ⟨rfl, rfl⟩))
    (fun os started H enc _ => lifted os started H enc)
#print axioms proved
end Go.Proofs.Ytejbmjdipfcblaa.FnLogOpen
