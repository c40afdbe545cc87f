/-
  Proved: FnLogOther returns true, whatever the codes: LogChain answers as its model; a record of another one changes nothing of what LogChain, LogLast and LogPages tell of one. No conditions.
-/
import Derived.Test.YtejbmjdipfcblaaDrawnK
import Derived.Test.YtejbmjdipfcblaaLogPK
import Derived.Deep.DeepCutAuto
import Derived.OpenShut
import Derived.ShutString
import Derived.ChangeOld
namespace Go.Proofs.Ytejbmjdipfcblaa.FnLogOther
open Go.ChangeShapes Go.WideShapes Go.ChangeAt Go.RowKit Base

/-- a new, empty row of records -/
theorem OwnL.empty {w : World} {g : Nat} (h : Has w g 27 #[]) (base : Nat) (hb : base ≤ g) : OwnL w base g 0 0 [] := ⟨hb, ⟨#[], h, by simp, by simp [cellsOfRs]⟩, by simp⟩
theorem put_more {rs : List R} {u p : Int} (h : logB rs = true) (hl : rs.length < 150) (u1 : 1 ≤ u) (u3 : u ≤ 3) (p0 : 0 ≤ p) (p4 : p ≤ 4) :
    logB (rs ++ [⟨1, u, p, 0, 0, 1, lastB rs u, 0⟩]) = true := by
  have hy := lastB_yes rs u h
  have hle := lastN_le rs u rs.length
  have hok : okR ⟨1, u, p, 0, 0, 1, lastB rs u, 0⟩ = true := by
    simp [okR, formB, ofB, inB, most]
    omega
  exact logB_more (r := ⟨1, u, p, 0, 0, 1, lastB rs u, 0⟩) h hok hy (by simp) (.inl rfl) (by omega)
/-- the next one -/
theorem next_tx {t : Int} (h1 : 1 ≤ t) (h3 : t ≤ 3) : 0 ≤ Int.tmod t 3 ∧ Int.tmod t 3 ≤ 2 ∧ Int.tmod t 3 + 1 ≠ t := by
  have : t = 1 ∨ t = 2 ∨ t = 3 := by omega
  rcases this with rfl | rfl | rfl <;> decide

set_option maxRecDepth 100000 in
set_option maxHeartbeats 8000000 in
theorem walk (a : Option Addr) (cs : List Int) (cap : Nat) (a' : Option Addr) (ms : List Int) (cap' : Nat) (w : World) (hc : Bytes w w.heap.size a cs cap) (hc' : Bytes w w.heap.size a' ms cap') :
    Calls Try.prog 8 #[.slice a cs.length cap, .slice a' ms.length cap'] w (Keeps (.bool true) w) := by
  have hm : cs.length ≤ maxLen := Nat.le_trans hc.fit hc.most
  have hm' : ms.length ≤ maxLen := Nat.le_trans hc'.fit hc'.most
  unfold maxLen at hm hm'
  have H := Lib.hid hc
  clear hc hc'
  by_cases hbig : (1048576 : Int) < cs.length
  · go_enter Try.func8, Try.ntmps8
    go_wp2
    go_ret
    exact ⟨rfl, Below.refl _ _⟩
  have bbig : decide ((1048576 : Int) < cs.length) = false := by simpa using hbig
  clear hbig
  by_cases hbig : (1048576 : Int) < ms.length
  · go_enter Try.func8, Try.ntmps8
    go_wp2
    go_ret
    exact ⟨rfl, Below.refl _ _⟩
  have bbig' : decide ((1048576 : Int) < ms.length) = false := by simpa using hbig
  clear hbig
  go_enter Try.func8, Try.ntmps8
  go_wp2_with fail
  refine (drawLogChain_any a cs cap w.heap.size _ (Nat.le_refl _) H.out).mono ?_
  rintro e w1 ⟨b, o, c, rs, t, rfl, hL, hl, t0, t4, hb⟩
  have L1 := Lib.hid hL
  have B1 := Lib.hid hb
  have lb := hL.lt
  have hfit := hL.fit
  have s1 := hb.size
  clear hL hb H
  have hlen := chainB_len rs t
  go_wp2_with fail
  refine (logChain_any rs t (some ⟨b, o * 8, none⟩) c w1.heap.size _ (Nat.le_refl _) (L1.out.rd.recs lb.2) hfit (by omega)).mono ?_
  rintro e w2 ⟨ca, cc, rfl, b2, m2⟩
  have L2 := Lib.hid (L1.out.below b2)
  have B2 := Lib.hid (B1.out.trans (b2.mono s1))
  have M2 := Lib.hid (m2.low s1)
  have l2 := L2.out.lt
  clear b2 m2 L1 B1
  go_wp2_with fail
  refine (specLogChain_any rs t (some ⟨b, o * 8, none⟩) c w2.heap.size _ (Nat.le_refl _) (L2.out.rd.recs l2.2) hfit (by omega)).mono ?_
  rintro e w3 ⟨sa, sc, rfl, b3, m3⟩
  have L3 := Lib.hid (L2.out.below b3)
  have B3 := Lib.hid (B2.out.trans (b3.mono B2.out.size))
  have M3 := Lib.hid (M2.out.below b3)
  have S3 := Lib.hid m3
  have l3 := L3.out.lt
  clear b3 m3 L2 B2 M2
  go_wp2_with fail
  refine (ltInts_any (chainB rs t) (chainB rs t) ca sa cc sc w3.heap.size _ M3.out.ints S3.out.ints (by omega) (by omega)).mono ?_
  rintro e w4 ⟨rfl, m, rfl⟩
  rw [show (chainB rs t == chainB rs t) = true from beq_self_eq_true _]
  have L4 := Lib.hid (L3.out.keep (w' := w3.drewN m) rfl)
  have B4 := Lib.hid (far_drewN B3.out m)
  have M4 := Lib.hid (M3.out.below (far_drewN (Below.refl _ _) m))
  have l4 := L4.out.lt
  clear S3 L3 B3 M3
  go_wp2_with fail
  generalize w3.drewN m = w4 at *
  refine (specLogOk_any rs (some ⟨b, o * 8, none⟩) c w4.heap.size _ (Nat.le_refl _) (L4.out.rd.recs l4.2) hfit (by omega)).mono ?_
  rintro e w5 ⟨rfl, b5⟩
  have L5 := Lib.hid (L4.out.below b5)
  have B5 := Lib.hid (B4.out.trans (b5.mono B4.out.size))
  have M5 := Lib.hid (M4.out.below b5)
  have l5 := L5.out.lt
  clear b5 L4 B4 M4
  cases hk : logB rs
  · clear hk
    go_wp2_with fail
    refine (specLogChain_any rs t (some ⟨b, o * 8, none⟩) c w5.heap.size _ (Nat.le_refl _) (L5.out.rd.recs l5.2) hfit (by omega)).mono ?_
    rintro e w6 ⟨sa', sc', rfl, b6, m6⟩
    have B6 := Lib.hid (B5.out.trans (b6.mono B5.out.size))
    have M6 := Lib.hid (M5.out.below b6)
    have S6 := Lib.hid m6
    clear b6 m6 L5 B5 M5
    go_wp2_with fail
    refine (ltInts_any (chainB rs t) (chainB rs t) ca sa' cc sc' w6.heap.size _ M6.out.ints S6.out.ints (by omega) (by omega)).mono ?_
    rintro e w7 ⟨rfl, m', rfl⟩
    rw [show (chainB rs t == chainB rs t) = true from beq_self_eq_true _]
    go_wp2
    go_ret
    exact ⟨rfl, far_drewN B6.out _⟩
  have Hk := Lib.hid hk
  clear hk
  by_cases h1 : t < 1
  · have bt1 : decide (t < 1) = true := by simpa using h1
    go_wp2_with fail
    refine (specLogChain_any rs t (some ⟨b, o * 8, none⟩) c w5.heap.size _ (Nat.le_refl _) (L5.out.rd.recs l5.2) hfit (by omega)).mono ?_
    rintro e w6 ⟨sa', sc', rfl, b6, m6⟩
    have B6 := Lib.hid (B5.out.trans (b6.mono B5.out.size))
    have M6 := Lib.hid (M5.out.below b6)
    have S6 := Lib.hid m6
    clear b6 m6 L5 B5 M5
    go_wp2_with fail
    refine (ltInts_any (chainB rs t) (chainB rs t) ca sa' cc sc' w6.heap.size _ M6.out.ints S6.out.ints (by omega) (by omega)).mono ?_
    rintro e w7 ⟨rfl, m', rfl⟩
    rw [show (chainB rs t == chainB rs t) = true from beq_self_eq_true _]
    go_wp2
    go_ret
    exact ⟨rfl, far_drewN B6.out _⟩
  by_cases h3 : 3 < t
  · have bt1 : decide (t < 1) = false := by simpa using h1
    have bt3 : decide (3 < t) = true := by simpa using h3
    go_wp2_with fail
    refine (specLogChain_any rs t (some ⟨b, o * 8, none⟩) c w5.heap.size _ (Nat.le_refl _) (L5.out.rd.recs l5.2) hfit (by omega)).mono ?_
    rintro e w6 ⟨sa', sc', rfl, b6, m6⟩
    have B6 := Lib.hid (B5.out.trans (b6.mono B5.out.size))
    have M6 := Lib.hid (M5.out.below b6)
    have S6 := Lib.hid m6
    clear b6 m6 L5 B5 M5
    go_wp2_with fail
    refine (ltInts_any (chainB rs t) (chainB rs t) ca sa' cc sc' w6.heap.size _ M6.out.ints S6.out.ints (by omega) (by omega)).mono ?_
    rintro e w7 ⟨rfl, m', rfl⟩
    rw [show (chainB rs t == chainB rs t) = true from beq_self_eq_true _]
    go_wp2
    go_ret
    exact ⟨rfl, far_drewN B6.out _⟩
  by_cases hful : rs.length = 150
  · have bt1 : decide (t < 1) = false := by simpa using h1
    have bt3 : decide (3 < t) = false := by simpa using h3
    have bf : ((rs.length : Int) == 150) = true := by rw [beq_iff_eq]; omega
    clear hful
    go_wp2_with fail
    refine (specLogChain_any rs t (some ⟨b, o * 8, none⟩) c w5.heap.size _ (Nat.le_refl _) (L5.out.rd.recs l5.2) hfit (by omega)).mono ?_
    rintro e w6 ⟨sa', sc', rfl, b6, m6⟩
    have B6 := Lib.hid (B5.out.trans (b6.mono B5.out.size))
    have M6 := Lib.hid (M5.out.below b6)
    have S6 := Lib.hid m6
    clear b6 m6 L5 B5 M5
    go_wp2_with fail
    refine (ltInts_any (chainB rs t) (chainB rs t) ca sa' cc sc' w6.heap.size _ M6.out.ints S6.out.ints (by omega) (by omega)).mono ?_
    rintro e w7 ⟨rfl, m', rfl⟩
    rw [show (chainB rs t == chainB rs t) = true from beq_self_eq_true _]
    go_wp2
    go_ret
    exact ⟨rfl, far_drewN B6.out _⟩
  have bt1 : decide (t < 1) = false := by simpa using h1
  have bt3 : decide (3 < t) = false := by simpa using h3
  have bf : ((rs.length : Int) == 150) = false := by rw [beq_eq_false_iff_ne]; omega
  have hl150 := log_len Hk.out
  obtain ⟨v0, v2, vt⟩ := next_tx (t := t) (by omega) (by omega)
  obtain ⟨v, hv⟩ : ∃ v, Int.tmod t 3 = v := ⟨_, rfl⟩
  rw [hv] at v0 v2 vt
  obtain ⟨q, hq⟩ : ∃ q, q = ms.length % 5 := ⟨_, rfl⟩
  have hq5 : q < 5 := by rw [hq]; exact Nat.mod_lt _ (by omega)
  have hmod : Int.tmod (ms.length : Int) 5 = (q : Int) := by
    rw [hq, Int.tmod_eq_emod_of_nonneg (by omega)]
    exact (Int.natCast_emod ms.length 5).symm
  clear hq
  have s5 := B5.out.size
  have hx := put_more Hk.out (by omega) (show 1 ≤ v + 1 by omega) (by omega) (show 0 ≤ (q : Int) by omega) (by omega)
  obtain ⟨xs, hxs⟩ : ∃ xs, rs ++ [⟨1, v + 1, (q : Int), 0, 0, 1, lastB rs (v + 1), 0⟩] = xs := ⟨_, rfl⟩
  have hxl : xs.length = rs.length + 1 := by rw [← hxs]; simp
  have C1 : Hid (chainB xs t = chainB rs t) := by rw [← hxs]; exact (chainB_other Hk.out hx vt).1
  have C2 : Hid (pagesB xs t = pagesB rs t) := by rw [← hxs]; exact pagesB_other Hk.out hx vt
  have C3 : Hid (lastB xs t = lastB rs t) := by
    rw [← hxs]
    show lastB _ t = _
    rw [lastB_more Hk.out hx, if_neg vt]
  rw [hxs] at hx
  have H1 := Lib.hid hx
  have hxm : xs.length ≤ 1000000 := by omega
  have HX := Lib.hid hxs
  clear hx hxs hxl h1 h3 hful
  have k0 := below_one w5 (.cells #[] 27)
  have E0 := Lib.hid (OwnL.empty (Has.new w5 27 #[]) w5.heap.size (Nat.le_refl _))
  have L0 := Lib.hid (L5.out.below k0)
  have sz0 : w5.heap.size ≤ (w5.alloc (.cells #[] 27)).heap.size := k0.size
  have K0 := Lib.hid k0
  clear k0
  go_wp2_with (at_builtin; refine wp_append_L _ rfl (.tmp 58) (.tmp 59) rfl rfl E0.out b (o * 8) rs.length c rs rfl rfl L0.out.rd (by simp; omega) sz0 ?_; intro b7 o7 c7 w7 g1 g2; rw [List.nil_append] at g1 ⊢; have X7 := Lib.hid g1; have K7 := Lib.hid (K0.out.trans (below_grown g2 (Nat.le_refl _) sz0)); clear g1 g2)
  have L7 := Lib.hid (L5.out.below K7.out)
  refine (logLast_any rs (v + 1) (some ⟨b, o * 8, none⟩) c w7.heap.size _ (Nat.le_refl _) (L7.out.rd.recs L7.out.lt.2) hfit (by omega)).mono ?_
  rintro e w8 ⟨rfl, b8⟩
  have k9 := below_one w8 (.cells (recC ⟨1, v + 1, (q : Int), 0, 0, 1, lastB rs (v + 1), 0⟩) 27)
  have X9 := Lib.hid ((X7.out.below b8).below k9)
  have K8 := K7.out.trans (b8.mono K7.out.size)
  have K9 := Lib.hid (K8.trans (k9.mono K8.size))
  have one := Lib.hid (Has.new w8 27 (recC ⟨1, v + 1, (q : Int), 0, 0, 1, lastB rs (v + 1), 0⟩))
  have s9 : w5.heap.size ≤ (w8.alloc (.cells (recC ⟨1, v + 1, (q : Int), 0, 0, 1, lastB rs (v + 1), 0⟩) 27)).heap.size := K9.out.size
  clear b8 k9 K8 X7 K7 K0 L0 E0 L7 hmod
  go_wp2_with (at_builtin; refine wp_append_L _ rfl (.tmp 60) (.tmp 69) rfl rfl X9.out w8.heap.size 0 1 1 [⟨1, v + 1, (q : Int), 0, 0, 1, lastB rs (v + 1), 0⟩] rfl rfl (RdR_one one.out) (by simp; omega) s9 ?_; intro bx ox cx w10 g1 g2; rw [HX.out] at g1 ⊢; have X10 := Lib.hid g1; have K10 := Lib.hid (K9.out.trans (below_grown g2 X9.out.low s9)); clear g1 g2)
  have B10 := Lib.hid (B5.out.trans (K10.out.mono s5))
  have L10 := Lib.hid (L5.out.below K10.out)
  have M10 := Lib.hid (M5.out.below K10.out)
  clear B5 L5 M5 X9 K9 one K10
  refine (logOk_any xs (some ⟨bx, ox * 8, none⟩) cx w10.heap.size _ (Nat.le_refl _) (X10.out.rd.recs X10.out.lt.2) X10.out.fit (by omega)).mono ?_
  rintro e w11 ⟨rfl, b11⟩
  have X11 := Lib.hid (X10.out.below b11)
  have L11 := Lib.hid (L10.out.below b11)
  have M11 := Lib.hid (M10.out.below b11)
  have B11 := Lib.hid (B10.out.trans (b11.mono B10.out.size))
  rw [H1.out]
  clear b11 X10 L10 M10 B10
  go_wp2_with fail
  have hcall := logChain_any xs t (some ⟨bx, ox * 8, none⟩) cx w11.heap.size _ (Nat.le_refl _) (X11.out.rd.recs X11.out.lt.2) X11.out.fit (by omega)
  rw [C1.out] at hcall
  refine hcall.mono ?_
  clear hcall
  rintro e w12 ⟨xa, xc, rfl, b12, m12⟩
  have X12 := Lib.hid (X11.out.below b12)
  have L12 := Lib.hid (L11.out.below b12)
  have M12 := Lib.hid (M11.out.below b12)
  have N12 := Lib.hid m12
  have B12 := Lib.hid (B11.out.trans (b12.mono B11.out.size))
  clear b12 m12 X11 L11 M11 B11
  go_wp2_with fail
  refine (ltInts_any (chainB rs t) (chainB rs t) xa ca xc cc w12.heap.size _ N12.out.ints M12.out.ints (by omega) (by omega)).mono ?_
  rintro e w13 ⟨rfl, m13, rfl⟩
  rw [show (chainB rs t == chainB rs t) = true from beq_self_eq_true _]
  have X13 := Lib.hid (X12.out.keep (w' := w12.drewN m13) rfl)
  have L13 := Lib.hid (L12.out.keep (w' := w12.drewN m13) rfl)
  have B13 := Lib.hid (far_drewN B12.out m13)
  clear X12 L12 M12 N12 B12
  go_wp2_with fail
  generalize w12.drewN m13 = w13 at *
  refine (logLast_any xs t (some ⟨bx, ox * 8, none⟩) cx w13.heap.size _ (Nat.le_refl _) (X13.out.rd.recs X13.out.lt.2) X13.out.fit (by omega)).mono ?_
  rintro e w14 ⟨rfl, b14⟩
  have X14 := Lib.hid (X13.out.below b14)
  have L14 := Lib.hid (L13.out.below b14)
  have B14 := Lib.hid (B13.out.trans (b14.mono B13.out.size))
  rw [C3.out]
  clear b14 X13 L13 B13
  go_wp2_with fail
  refine (logLast_any rs t (some ⟨b, o * 8, none⟩) c w14.heap.size _ (Nat.le_refl _) (L14.out.rd.recs L14.out.lt.2) hfit (by omega)).mono ?_
  rintro e w15 ⟨rfl, b15⟩
  have X15 := Lib.hid (X14.out.below b15)
  have L15 := Lib.hid (L14.out.below b15)
  have B15 := Lib.hid (B14.out.trans (b15.mono B14.out.size))
  have beq : (lastB rs t == lastB rs t) = true := beq_self_eq_true _
  clear b15 X14 L14 B14
  go_wp2_with fail
  have hcall := logPages_any xs t (some ⟨bx, ox * 8, none⟩) cx w15.heap.size _ (Nat.le_refl _) (X15.out.rd.recs X15.out.lt.2) X15.out.fit (by omega)
  rw [C2.out] at hcall
  refine hcall.mono ?_
  clear hcall
  rintro e w16 ⟨pa, pc, rfl, b16, m16⟩
  have L16 := Lib.hid (L15.out.below b16)
  have N16 := Lib.hid m16
  have B16 := Lib.hid (B15.out.trans (b16.mono B15.out.size))
  have hplen := pagesB_len rs t
  clear b16 m16 X15 L15 B15
  go_wp2_with fail
  refine (logPages_any rs t (some ⟨b, o * 8, none⟩) c w16.heap.size _ (Nat.le_refl _) (L16.out.rd.recs L16.out.lt.2) hfit (by omega)).mono ?_
  rintro e w17 ⟨qa, qc, rfl, b17, m17⟩
  have N17 := Lib.hid (N16.out.below b17)
  have O17 := Lib.hid m17
  have B17 := Lib.hid (B16.out.trans (b17.mono B16.out.size))
  clear b17 m17 L16 N16 B16
  go_wp2_with fail
  refine (ltInts_any (pagesB rs t) (pagesB rs t) pa qa pc qc w17.heap.size _ N17.out.ints O17.out.ints (by omega) (by omega)).mono ?_
  rintro e w18 ⟨rfl, m18, rfl⟩
  rw [show (pagesB rs t == pagesB rs t) = true from beq_self_eq_true _]
  go_wp2
  go_ret
  exact ⟨rfl, far_drewN B17.out _⟩

theorem own : ownKnob Try.prog.godebug = none := by kernel_rfl
theorem laidOut : laidOutB Try.prog = true := by kernel_rfl

set_option maxRecDepth 100000 in
theorem lifted (os : Os) (started : os.Started) (H : Type) (enc : TypeId × Value → H) :
    ReturnsInHanded {} Try.checked os 8 .any (Rows.fnLogOtherSpec.pre6 enc Try.prog Try.f8 Rows.fnLogOtherRow.domain false) (Rows.fnLogOtherSpec.post enc Try.prog Try.f8 false true false false) := by
  refine returnsInHanded_of_change (C := Try.checked) own started (by kernel_rfl) Try.func8
    (ChangeSpec.witness6 (enc := enc) (C := Try.checked) false ⟨#[], #[.slice none 0 0, .slice none 0 0], []⟩ 8 (by kernel_rfl) (by kernel_rfl) (by kernel_rfl) (by kernel_rfl)) ?_
  intro W base args ds gs before hval0 hW hcnd _
  have hval : ∀ (j : Nat) t v, Try.f8.params[j]? = some t → args[j]? = some v → Value.okWide Try.prog W .any base t v := hval0
  have hW' := hW
  obtain ⟨p, q, hA0, hV, rfl, hfz, hnd⟩ := hW
  have hA : DataW.TrodAll enc Try.prog W 0 (fun _ => true) true Try.f8.params.toList args.toList ds p := hA0
  rw [Try.params8] at hA hval
  obtain ⟨v0, vs0, d0, ds0, p0, q0, hargs, rfl, rfl, h0, r0⟩ := trodAll_cons hA
  obtain ⟨v1, vs1, d1, ds1, p1, q1, rfl, rfl, rfl, h1, r1⟩ := trodAll_cons r0
  obtain ⟨rfl, rfl, rfl⟩ := trodAll_nil r1
  obtain rfl : args = #[v0, v1] := by cases args; simp_all
  obtain ⟨rfl, rfl⟩ := trodVars_none hV
  have k0 := h0
  have k1 := h1
  have lt0 : ∀ x ∈ p0, x.block < W.heap.size := by obtain ⟨m, hm⟩ := k0; exact DataW.trod_lt m _ _ _ hm
  have lt1 : ∀ x ∈ p1, x.block < W.heap.size := by obtain ⟨m, hm⟩ := k1; exact DataW.trod_lt m _ _ _ hm
  obtain ⟨a, cs, cap, rfl, hc⟩ := openBytes Try.underlying22 Try.underlying5 (by kernel_rfl) (hval 0 22 v0 rfl rfl) h0
  obtain ⟨a', ms, cap', rfl, hc'⟩ := openBytes Try.underlying22 Try.underlying5 (by kernel_rfl) (hval 1 22 v1 rfl rfl) h1
  clear hA0 hval0
  refine (walk a cs cap a' ms cap' W hc hc').mono fun e W' ⟨he, bel⟩ => ?_
  subst he
  exact ⟨_, rfl, _, _, _, [], _, [], hW', trodAll_mk1 (shut_bool Try.underlying4 _), (trodAll_cons_mk (Below.trod laidOut (by kernel_rfl) (of_decide_eq_true (by kernel_rfl)) k0 bel lt0) (trodAll_cons_mk (Below.trod laidOut (by kernel_rfl) (of_decide_eq_true (by kernel_rfl)) k1 bel lt1) trodAll_mk0)), rfl, bel.frame _, fun h => by cases h⟩

theorem proved : Rows.FnLogOtherSaid :=
  OpenClaim.holds_of_wide 8 Try.f8 rfl rfl rfl rfl rfl rfl rfl ⟨rfl, rfl, rfl, rfl, rfl⟩ rfl rfl rfl rfl rfl (by kernel_rfl) Try.func8 (by kernel_rfl)
    (of_decide_eq_true (by kernel_rfl)) (by unfold Func.isWrapper; first | (rw [if_pos (by decide +kernel)]; kernel_rfl) | (rw [if_neg (by decide +kernel)]; exact ⟨rfl, rfl⟩))
    (fun os started H enc _ => lifted os started H enc)
#print axioms proved
end Go.Proofs.Ytejbmjdipfcblaa.FnLogOther
