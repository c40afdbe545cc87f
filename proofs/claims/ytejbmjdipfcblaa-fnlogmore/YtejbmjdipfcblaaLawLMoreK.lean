/-
  Proved: FnLogMore returns true, whatever the codes: LogChain answers as its model; a record more is the last one of its own, if it tells the last one ahead of it, and else the log is none. No conditions.
-/
import Derived.Test.YtejbmjdipfcblaaDrawnK
import Derived.Test.YtejbmjdipfcblaaLogPK
import Derived.Test.YtejbmjdipfcblaaIntMoreK
import Derived.Deep.DeepCutAuto
import Derived.OpenShut
import Derived.ShutString
import Derived.ChangeOld
namespace Go.Proofs.Ytejbmjdipfcblaa.FnLogMore
open Go.ChangeShapes Go.WideShapes Go.ChangeAt Go.RowKit Base

/-- a new, empty row of records -/
theorem OwnL.empty {w : World} {g : Nat} (h : Has w g 27 #[]) (base : Nat) (hb : base ≤ g) : OwnL w base g 0 0 [] := ⟨hb, ⟨#[], h, by simp, by simp [cellsOfRs]⟩, by simp⟩
theorem put_more {rs : List R} {u p : Int} (h : logB rs = true) (hl : rs.length < 150) (u1 : 1 ≤ u) (u3 : u ≤ 3) (p0 : 0 ≤ p) (p4 : p ≤ 4) :
    logB (rs ++ [⟨1, u, p, 0, 0, 1, lastB rs u, 0⟩]) = true := by
  have hy := lastB_yes rs u h
  have hle := lastN_le rs u rs.length
  have hok : okR ⟨1, u, p, 0, 0, 1, lastB rs u, 0⟩ = true := by
    simp [okR, formB, ofB, inB, most]
    omega
  exact logB_more (r := ⟨1, u, p, 0, 0, 1, lastB rs u, 0⟩) h hok hy (by simp) (.inl rfl) (by omega)
theorem put_wrong {rs : List R} {u p : Int} (h : logB rs = true) : logB (rs ++ [⟨1, u, p, 0, 0, 1, lastB rs u + 1, 0⟩]) = false := by
  have hy := lastB_yes rs u h
  refine logB_wrong ?_
  show lastB rs u + 1 ≠ (lastN rs u rs.length : Int)
  omega
set_option maxRecDepth 100000 in
set_option maxHeartbeats 8000000 in
theorem walk (a : Option Addr) (cs : List Int) (cap : Nat) (a' : Option Addr) (ms : List Int) (cap' : Nat) (w : World) (hc : Bytes w w.heap.size a cs cap) (hc' : Bytes w w.heap.size a' ms cap') :
    Calls Try.prog 9 #[.slice a cs.length cap, .slice a' ms.length cap'] w (Keeps (.bool true) w) := by
  have hm : cs.length ≤ maxLen := Nat.le_trans hc.fit hc.most
  have hm' : ms.length ≤ maxLen := Nat.le_trans hc'.fit hc'.most
  unfold maxLen at hm hm'
  have H := Lib.hid hc
  clear hc hc'
  by_cases hbig : (1048576 : Int) < cs.length
  · go_enter Try.func9, Try.ntmps9
    go_wp2
    go_ret
    exact ⟨rfl, Below.refl _ _⟩
  have bbig : decide ((1048576 : Int) < cs.length) = false := by simpa using hbig
  clear hbig
  by_cases hbig : (1048576 : Int) < ms.length
  · go_enter Try.func9, Try.ntmps9
    go_wp2
    go_ret
    exact ⟨rfl, Below.refl _ _⟩
  have bbig' : decide ((1048576 : Int) < ms.length) = false := by simpa using hbig
  clear hbig
  go_enter Try.func9, Try.ntmps9
  go_wp2_with fail
  refine (drawLogChain_any a cs cap w.heap.size _ (Nat.le_refl _) H.out).mono ?_
  rintro e w1 ⟨b, o, c, rs, t, rfl, hL, hl, t0, t4, hb⟩
  have L1 := Lib.hid hL
  have B1 := Lib.hid hb
  have lb := hL.lt
  have hfit := hL.fit
  have s1 := hb.size
  clear hL hb H
  have hlen := chainB_len rs t
  go_wp2_with fail
  refine (logChain_any rs t (some ⟨b, o * 8, none⟩) c w1.heap.size _ (Nat.le_refl _) (L1.out.rd.recs lb.2) hfit (by omega)).mono ?_
  rintro e w2 ⟨ca, cc, rfl, b2, m2⟩
  have L2 := Lib.hid (L1.out.below b2)
  have B2 := Lib.hid (B1.out.trans (b2.mono s1))
  have M2 := Lib.hid (m2.low s1)
  have l2 := L2.out.lt
  clear b2 m2 L1 B1
  go_wp2_with fail
  refine (specLogChain_any rs t (some ⟨b, o * 8, none⟩) c w2.heap.size _ (Nat.le_refl _) (L2.out.rd.recs l2.2) hfit (by omega)).mono ?_
  rintro e w3 ⟨sa, sc, rfl, b3, m3⟩
  have L3 := Lib.hid (L2.out.below b3)
  have B3 := Lib.hid (B2.out.trans (b3.mono B2.out.size))
  have M3 := Lib.hid (M2.out.below b3)
  have S3 := Lib.hid m3
  have l3 := L3.out.lt
  clear b3 m3 L2 B2 M2
  go_wp2_with fail
  refine (ltInts_any (chainB rs t) (chainB rs t) ca sa cc sc w3.heap.size _ M3.out.ints S3.out.ints (by omega) (by omega)).mono ?_
  rintro e w4 ⟨rfl, m, rfl⟩
  rw [show (chainB rs t == chainB rs t) = true from beq_self_eq_true _]
  have L4 := Lib.hid (L3.out.keep (w' := w3.drewN m) rfl)
  have B4 := Lib.hid (far_drewN B3.out m)
  have M4 := Lib.hid (M3.out.below (far_drewN (Below.refl _ _) m))
  have l4 := L4.out.lt
  clear S3 L3 B3 M3
  go_wp2_with fail
  generalize w3.drewN m = w4 at *
  refine (specLogOk_any rs (some ⟨b, o * 8, none⟩) c w4.heap.size _ (Nat.le_refl _) (L4.out.rd.recs l4.2) hfit (by omega)).mono ?_
  rintro e w5 ⟨rfl, b5⟩
  have L5 := Lib.hid (L4.out.below b5)
  have B5 := Lib.hid (B4.out.trans (b5.mono B4.out.size))
  have M5 := Lib.hid (M4.out.below b5)
  have l5 := L5.out.lt
  clear b5 L4 B4 M4
  cases hk : logB rs
  · clear hk
    go_wp2_with fail
    refine (specLogChain_any rs t (some ⟨b, o * 8, none⟩) c w5.heap.size _ (Nat.le_refl _) (L5.out.rd.recs l5.2) hfit (by omega)).mono ?_
    rintro e w6 ⟨sa', sc', rfl, b6, m6⟩
    have B6 := Lib.hid (B5.out.trans (b6.mono B5.out.size))
    have M6 := Lib.hid (M5.out.below b6)
    have S6 := Lib.hid m6
    clear b6 m6 L5 B5 M5
    go_wp2_with fail
    refine (ltInts_any (chainB rs t) (chainB rs t) ca sa' cc sc' w6.heap.size _ M6.out.ints S6.out.ints (by omega) (by omega)).mono ?_
    rintro e w7 ⟨rfl, m', rfl⟩
    rw [show (chainB rs t == chainB rs t) = true from beq_self_eq_true _]
    go_wp2
    go_ret
    exact ⟨rfl, far_drewN B6.out _⟩
  have Hk := Lib.hid hk
  clear hk
  by_cases h1 : t < 1
  · have bt1 : decide (t < 1) = true := by simpa using h1
    go_wp2_with fail
    refine (specLogChain_any rs t (some ⟨b, o * 8, none⟩) c w5.heap.size _ (Nat.le_refl _) (L5.out.rd.recs l5.2) hfit (by omega)).mono ?_
    rintro e w6 ⟨sa', sc', rfl, b6, m6⟩
    have B6 := Lib.hid (B5.out.trans (b6.mono B5.out.size))
    have M6 := Lib.hid (M5.out.below b6)
    have S6 := Lib.hid m6
    clear b6 m6 L5 B5 M5
    go_wp2_with fail
    refine (ltInts_any (chainB rs t) (chainB rs t) ca sa' cc sc' w6.heap.size _ M6.out.ints S6.out.ints (by omega) (by omega)).mono ?_
    rintro e w7 ⟨rfl, m', rfl⟩
    rw [show (chainB rs t == chainB rs t) = true from beq_self_eq_true _]
    go_wp2
    go_ret
    exact ⟨rfl, far_drewN B6.out _⟩
  by_cases h3 : 3 < t
  · have bt1 : decide (t < 1) = false := by simpa using h1
    have bt3 : decide (3 < t) = true := by simpa using h3
    go_wp2_with fail
    refine (specLogChain_any rs t (some ⟨b, o * 8, none⟩) c w5.heap.size _ (Nat.le_refl _) (L5.out.rd.recs l5.2) hfit (by omega)).mono ?_
    rintro e w6 ⟨sa', sc', rfl, b6, m6⟩
    have B6 := Lib.hid (B5.out.trans (b6.mono B5.out.size))
    have M6 := Lib.hid (M5.out.below b6)
    have S6 := Lib.hid m6
    clear b6 m6 L5 B5 M5
    go_wp2_with fail
    refine (ltInts_any (chainB rs t) (chainB rs t) ca sa' cc sc' w6.heap.size _ M6.out.ints S6.out.ints (by omega) (by omega)).mono ?_
    rintro e w7 ⟨rfl, m', rfl⟩
    rw [show (chainB rs t == chainB rs t) = true from beq_self_eq_true _]
    go_wp2
    go_ret
    exact ⟨rfl, far_drewN B6.out _⟩
  by_cases hful : rs.length = 150
  · have bt1 : decide (t < 1) = false := by simpa using h1
    have bt3 : decide (3 < t) = false := by simpa using h3
    have bf : ((rs.length : Int) == 150) = true := by rw [beq_iff_eq]; omega
    clear hful
    go_wp2_with fail
    refine (specLogChain_any rs t (some ⟨b, o * 8, none⟩) c w5.heap.size _ (Nat.le_refl _) (L5.out.rd.recs l5.2) hfit (by omega)).mono ?_
    rintro e w6 ⟨sa', sc', rfl, b6, m6⟩
    have B6 := Lib.hid (B5.out.trans (b6.mono B5.out.size))
    have M6 := Lib.hid (M5.out.below b6)
    have S6 := Lib.hid m6
    clear b6 m6 L5 B5 M5
    go_wp2_with fail
    refine (ltInts_any (chainB rs t) (chainB rs t) ca sa' cc sc' w6.heap.size _ M6.out.ints S6.out.ints (by omega) (by omega)).mono ?_
    rintro e w7 ⟨rfl, m', rfl⟩
    rw [show (chainB rs t == chainB rs t) = true from beq_self_eq_true _]
    go_wp2
    go_ret
    exact ⟨rfl, far_drewN B6.out _⟩
  have bt1 : decide (t < 1) = false := by simpa using h1
  have bt3 : decide (3 < t) = false := by simpa using h3
  have bf : ((rs.length : Int) == 150) = false := by rw [beq_eq_false_iff_ne]; omega
  have hl150 := log_len Hk.out
  obtain ⟨q, hq⟩ : ∃ q, q = ms.length % 5 := ⟨_, rfl⟩
  have hq5 : q < 5 := by rw [hq]; exact Nat.mod_lt _ (by omega)
  have hmod : Int.tmod (ms.length : Int) 5 = (q : Int) := by
    rw [hq, Int.tmod_eq_emod_of_nonneg (by omega)]
    exact (Int.natCast_emod ms.length 5).symm
  clear hq
  have s5 := B5.out.size
  have hx := put_more (u := t) (p := (q : Int)) Hk.out (by omega) (by omega) (by omega) (by omega) (by omega)
  have hbad := put_wrong (u := t) (p := (q : Int)) Hk.out
  obtain ⟨xs, hxs⟩ : ∃ xs, rs ++ [⟨1, t, (q : Int), 0, 0, 1, lastB rs t, 0⟩] = xs := ⟨_, rfl⟩
  obtain ⟨ys, hys⟩ : ∃ ys, rs ++ [⟨1, t, (q : Int), 0, 0, 1, lastB rs t + 1, 0⟩] = ys := ⟨_, rfl⟩
  have hxl : xs.length = rs.length + 1 := by rw [← hxs]; simp
  have hyl : ys.length = rs.length + 1 := by rw [← hys]; simp
  have C1 : Hid (chainB xs t = ((rs.length : Int) + 1) :: chainB rs t) := by rw [← hxs]; exact chainB_new (r := ⟨1, t, (q : Int), 0, 0, 1, lastB rs t, 0⟩) Hk.out hx rfl
  have C2 : Hid (decide ((q : Int) ∈ pagesB xs t) = true) := by
    rw [← hxs]
    exact decide_eq_true (page_new (r := ⟨1, t, (q : Int), 0, 0, 1, lastB rs t, 0⟩) Hk.out hx rfl (by simp) (by show (q : Int) ≤ 4; omega))
  have C3 : Hid (lastB xs t = (rs.length : Int) + 1) := by
    rw [← hxs]
    show lastB _ t = _
    rw [lastB_more Hk.out hx]
    exact (if_pos rfl).trans (if_neg (by simp [endR]))
  rw [hxs] at hx
  rw [hys] at hbad
  have H1 := Lib.hid hx
  have H2 := Lib.hid hbad
  have hlb := lastB_nonneg rs t
  have hlb2 : lastB rs t ≤ 150 := by
    have := lastB_yes rs t Hk.out
    have := lastN_le rs t rs.length
    omega
  have hxm : xs.length ≤ 1000000 := by omega
  have hym : ys.length ≤ 1000000 := by omega
  have HX := Lib.hid hxs
  have HY := Lib.hid hys
  have XL := Lib.hid hxl
  clear hx hxs hxl hyl hys hbad h1 h3 hful
  have k0 := below_one w5 (.cells #[] 27)
  have E0 := Lib.hid (OwnL.empty (Has.new w5 27 #[]) w5.heap.size (Nat.le_refl _))
  have L0 := Lib.hid (L5.out.below k0)
  have sz0 : w5.heap.size ≤ (w5.alloc (.cells #[] 27)).heap.size := k0.size
  have K0 := Lib.hid k0
  clear k0
  go_wp2_with (at_builtin; refine wp_append_L _ rfl (.tmp 59) (.tmp 60) rfl rfl E0.out b (o * 8) rs.length c rs rfl rfl L0.out.rd (by simp; omega) sz0 ?_; intro b7 o7 c7 w7 g1 g2; rw [List.nil_append] at g1 ⊢; have X7 := Lib.hid g1; have K7 := Lib.hid (K0.out.trans (below_grown g2 (Nat.le_refl _) sz0)); clear g1 g2)
  have L7 := Lib.hid (L5.out.below K7.out)
  refine (logLast_any rs t (some ⟨b, o * 8, none⟩) c w7.heap.size _ (Nat.le_refl _) (L7.out.rd.recs L7.out.lt.2) hfit (by omega)).mono ?_
  rintro e w8 ⟨rfl, b8⟩
  have k9 := below_one w8 (.cells (recC ⟨1, t, (q : Int), 0, 0, 1, lastB rs t, 0⟩) 27)
  have X9 := Lib.hid ((X7.out.below b8).below k9)
  have K8 := K7.out.trans (b8.mono K7.out.size)
  have K9 := Lib.hid (K8.trans (k9.mono K8.size))
  have one := Lib.hid (Has.new w8 27 (recC ⟨1, t, (q : Int), 0, 0, 1, lastB rs t, 0⟩))
  have s9 : w5.heap.size ≤ (w8.alloc (.cells (recC ⟨1, t, (q : Int), 0, 0, 1, lastB rs t, 0⟩) 27)).heap.size := K9.out.size
  clear b8 k9 K8 X7 K7 K0 L0 E0 L7 hmod
  go_wp2_with (first
    | (at_builtin; refine wp_append_L _ rfl (.tmp 61) (.tmp 68) rfl rfl X9.out w8.heap.size 0 1 1 [⟨1, t, (q : Int), 0, 0, 1, lastB rs t, 0⟩] rfl rfl (RdR_one one.out) (by simp; omega) s9 ?_; intro bx ox cx w10 g1 g2; rw [HX.out] at g1 ⊢; have X10 := Lib.hid g1; have K10 := Lib.hid (K9.out.trans (below_grown g2 X9.out.low s9)); clear g1 g2; have sx10 := K10.out.size; have EB := Lib.hid (OwnL.empty (Has.new w10 27 #[]) w10.heap.size (Nat.le_refl _)); have LB := Lib.hid ((L5.out.below K10.out).below (below_one w10 (.cells #[] 27))); have szb : w10.heap.size ≤ (w10.alloc (.cells #[] 27)).heap.size := (below_one w10 (.cells #[] 27)).size)
    | (at_builtin; refine wp_append_L _ rfl (.tmp 70) (.tmp 71) rfl rfl EB.out b (o * 8) rs.length c rs rfl rfl LB.out.rd (by simp; omega) szb ?_; intro b11 o11 c11 w11 g1 g2; rw [List.nil_append] at g1 ⊢; have Y11 := Lib.hid g1; have J11 := Lib.hid ((below_one w10 (.cells #[] 27)).trans (below_grown g2 (Nat.le_refl _) szb)); clear g1 g2))
  have K11 := Lib.hid (K10.out.trans (J11.out.mono sx10))
  have X11 := Lib.hid (X10.out.below J11.out)
  have L11 := Lib.hid (L5.out.below K11.out)
  refine (logLast_any rs t (some ⟨b, o * 8, none⟩) c w11.heap.size _ (Nat.le_refl _) (L11.out.rd.recs L11.out.lt.2) hfit (by omega)).mono ?_
  rintro e w12 ⟨rfl, b12⟩
  have k13 := below_one w12 (.cells (recC ⟨1, t, (q : Int), 0, 0, 1, lastB rs t + 1, 0⟩) 27)
  have j13 : Below w11.heap.size w11 (w12.alloc (.cells (recC ⟨1, t, (q : Int), 0, 0, 1, lastB rs t + 1, 0⟩) 27)) := b12.trans (k13.mono b12.size)
  have Y13 := Lib.hid ((Y11.out.below b12).below k13)
  have J13 := Lib.hid (J11.out.trans (j13.mono J11.out.size))
  have two := Lib.hid (Has.new w12 27 (recC ⟨1, t, (q : Int), 0, 0, 1, lastB rs t + 1, 0⟩))
  have s13 : w10.heap.size ≤ (w12.alloc (.cells (recC ⟨1, t, (q : Int), 0, 0, 1, lastB rs t + 1, 0⟩) 27)).heap.size := J13.out.size
  clear b12 k13 j13 Y11 J11 K11 X11 L11 EB LB
  go_wp2_with (at_builtin; refine wp_append_L _ rfl (.tmp 72) (.tmp 80) rfl rfl Y13.out w12.heap.size 0 1 1 [⟨1, t, (q : Int), 0, 0, 1, lastB rs t + 1, 0⟩] rfl rfl (RdR_one two.out) (by simp; omega) s13 ?_; intro by' oy cy w14 g1 g2; rw [HY.out] at g1 ⊢; have Y14 := Lib.hid g1; have J14 := Lib.hid (J13.out.trans (below_grown g2 Y13.out.low s13)); clear g1 g2)
  have K14 := Lib.hid (K10.out.trans (J14.out.mono sx10))
  have X14 := Lib.hid (X10.out.below J14.out)
  have B14 := Lib.hid (B5.out.trans (K14.out.mono s5))
  have M14 := Lib.hid (M5.out.below K14.out)
  clear B5 L5 M5 X9 K9 one K10 X10 J13 Y13 two J14 K14
  refine (logOk_any xs (some ⟨bx, ox * 8, none⟩) cx w14.heap.size _ (Nat.le_refl _) (X14.out.rd.recs X14.out.lt.2) X14.out.fit (by omega)).mono ?_
  rintro e w15 ⟨rfl, b15⟩
  have X15 := Lib.hid (X14.out.below b15)
  have Y15 := Lib.hid (Y14.out.below b15)
  have M15 := Lib.hid (M14.out.below b15)
  have B15 := Lib.hid (B14.out.trans (b15.mono B14.out.size))
  rw [H1.out]
  clear b15 X14 Y14 M14 B14
  go_wp2_with fail
  refine (logOk_any ys (some ⟨by', oy * 8, none⟩) cy w15.heap.size _ (Nat.le_refl _) (Y15.out.rd.recs Y15.out.lt.2) Y15.out.fit (by omega)).mono ?_
  rintro e w16 ⟨rfl, b16⟩
  have X16 := Lib.hid (X15.out.below b16)
  have M16 := Lib.hid (M15.out.below b16)
  have B16 := Lib.hid (B15.out.trans (b16.mono B15.out.size))
  rw [H2.out]
  clear b16 X15 Y15 M15 B15
  go_wp2_with fail
  refine (logLast_any xs t (some ⟨bx, ox * 8, none⟩) cx w16.heap.size _ (Nat.le_refl _) (X16.out.rd.recs X16.out.lt.2) X16.out.fit (by omega)).mono ?_
  rintro e w17 ⟨rfl, b17⟩
  have X17 := Lib.hid (X16.out.below b17)
  have M17 := Lib.hid (M16.out.below b17)
  have B17 := Lib.hid (B16.out.trans (b17.mono B16.out.size))
  rw [C3.out]
  have xl : (xs.length : Int) = (rs.length : Int) + 1 := by have := XL.out; omega
  have beq : ((rs.length : Int) + 1 == (xs.length : Int)) = true := by rw [xl]; exact beq_self_eq_true _
  have BEQ := Lib.hid beq
  clear xl beq b17 X16 M16 B16
  have beq := BEQ.out
  go_wp2_with fail
  have hcall := logChain_any xs t (some ⟨bx, ox * 8, none⟩) cx w17.heap.size _ (Nat.le_refl _) (X17.out.rd.recs X17.out.lt.2) X17.out.fit (by omega)
  rw [C1.out] at hcall
  refine hcall.mono ?_
  clear hcall
  rintro e w18 ⟨xa, xc, rfl, b18, m18⟩
  have k19 := below_one w18 (.cells #[.int .i64 (xs.length : Int)] 3)
  have hlow : w18.heap.size ≤ (w18.alloc (.cells #[.int .i64 (xs.length : Int)] 3)).heap.size := k19.size
  have X18 := Lib.hid (X17.out.below b18)
  have B18 := Lib.hid (B17.out.trans (b18.mono B17.out.size))
  have KK := Lib.hid k19
  have M19 := Lib.hid ((M17.out.below b18).below k19)
  have N18 := Lib.hid m18
  have I19 := Lib.hid (Has.new w18 3 #[.int .i64 (xs.length : Int)])
  have EX : Hid ((xs.length : Int) = (rs.length : Int) + 1) := by show _ = _; have := XL.out; omega
  clear b18 k19 m18 X17 M17 B17
  go_wp2_with (at_builtin; refine wp_append_more _ (by first | rfl | simp [Region.wanted, yielded]) (.tmp 103) (.tmp 104) rfl w18.heap.size (xs.length : Int) rfl I19.out w18.heap.size (Nat.le_refl _) hlow (chainB rs t) ca _ cc _ rfl rfl M19.out.ints (by omega) ?_; intro va vc w20 g1 g2; have A20 := Lib.hid g1; have G20 := Lib.hid (below_grown g2 (Nat.le_refl _) hlow); have F20 := Lib.hid g2; clear g1 g2)
  have K20 := Lib.hid (KK.out.trans G20.out)
  have X20 := Lib.hid (X18.out.below K20.out)
  have B20 := Lib.hid (B18.out.trans (K20.out.mono B18.out.size))
  have N20 := Lib.hid (N18.out.below K20.out)
  have A21 := A20.out
  rw [EX.out] at A21
  have P20 := Lib.hid A21
  clear A21 A20 G20 F20 K20 KK B18 X18 N18 M19 I19
  refine (ltInts_any (((rs.length : Int) + 1) :: chainB rs t) (((rs.length : Int) + 1) :: chainB rs t) xa va xc vc w20.heap.size _ N20.out.ints P20.out.ints (by simp; omega) (by simp; omega)).mono ?_
  rintro e w21 ⟨rfl, m21, rfl⟩
  rw [show ((((rs.length : Int) + 1) :: chainB rs t) == (((rs.length : Int) + 1) :: chainB rs t)) = true from beq_self_eq_true _]
  have X21 := Lib.hid (X20.out.keep (w' := w20.drewN m21) rfl)
  have B21 := Lib.hid (far_drewN B20.out m21)
  clear X20 B20 N20 P20
  go_wp2_with fail
  generalize w20.drewN m21 = w21 at *
  refine (logPages_any xs t (some ⟨bx, ox * 8, none⟩) cx w21.heap.size _ (Nat.le_refl _) (X21.out.rd.recs X21.out.lt.2) X21.out.fit (by omega)).mono ?_
  rintro e w22 ⟨pa, pc, rfl, b22, m22⟩
  have N22 := Lib.hid m22
  have B22 := Lib.hid (B21.out.trans (b22.mono B21.out.size))
  have hplen := pagesB_len xs t
  clear b22 m22 X21 B21
  go_wp2_with fail
  refine (ltAmong_any (pagesB xs t) (q : Int) pa pc w22.heap.size _ N22.out.ints (by omega)).mono ?_
  rintro e w23 ⟨rfl, rfl⟩
  rw [C2.out]
  go_wp2
  go_ret
  exact ⟨rfl, B22.out⟩

theorem own : ownKnob Try.prog.godebug = none := by kernel_rfl
theorem laidOut : laidOutB Try.prog = true := by kernel_rfl

set_option maxRecDepth 100000 in
theorem lifted (os : Os) (started : os.Started) (H : Type) (enc : TypeId × Value → H) :
    ReturnsInHanded {} Try.checked os 9 .any (Rows.fnLogMoreSpec.pre6 enc Try.prog Try.f9 Rows.fnLogMoreRow.domain false) (Rows.fnLogMoreSpec.post enc Try.prog Try.f9 false true false false) := by
  refine returnsInHanded_of_change (C := Try.checked) own started (by kernel_rfl) Try.func9
    (ChangeSpec.witness6 (enc := enc) (C := Try.checked) false ⟨#[], #[.slice none 0 0, .slice none 0 0], []⟩ 8 (by kernel_rfl) (by kernel_rfl) (by kernel_rfl) (by kernel_rfl)) ?_
  intro W base args ds gs before hval0 hW hcnd _
  have hval : ∀ (j : Nat) t v, Try.f9.params[j]? = some t → args[j]? = some v → Value.okWide Try.prog W .any base t v := hval0
  have hW' := hW
  obtain ⟨p, q, hA0, hV, rfl, hfz, hnd⟩ := hW
  have hA : DataW.TrodAll enc Try.prog W 0 (fun _ => true) true Try.f9.params.toList args.toList ds p := hA0
  rw [Try.params9] at hA hval
  obtain ⟨v0, vs0, d0, ds0, p0, q0, hargs, rfl, rfl, h0, r0⟩ := trodAll_cons hA
  obtain ⟨v1, vs1, d1, ds1, p1, q1, rfl, rfl, rfl, h1, r1⟩ := trodAll_cons r0
  obtain ⟨rfl, rfl, rfl⟩ := trodAll_nil r1
  obtain rfl : args = #[v0, v1] := by cases args; simp_all
  obtain ⟨rfl, rfl⟩ := trodVars_none hV
  have k0 := h0
  have k1 := h1
  have lt0 : ∀ x ∈ p0, x.block < W.heap.size := by obtain ⟨m, hm⟩ := k0; exact DataW.trod_lt m _ _ _ hm
  have lt1 : ∀ x ∈ p1, x.block < W.heap.size := by obtain ⟨m, hm⟩ := k1; exact DataW.trod_lt m _ _ _ hm
  obtain ⟨a, cs, cap, rfl, hc⟩ := openBytes Try.underlying22 Try.underlying5 (by kernel_rfl) (hval 0 22 v0 rfl rfl) h0
  obtain ⟨a', ms, cap', rfl, hc'⟩ := openBytes Try.underlying22 Try.underlying5 (by kernel_rfl) (hval 1 22 v1 rfl rfl) h1
  clear hA0 hval0
  refine (walk a cs cap a' ms cap' W hc hc').mono fun e W' ⟨he, bel⟩ => ?_
  subst he
  exact ⟨_, rfl, _, _, _, [], _, [], hW', trodAll_mk1 (shut_bool Try.underlying4 _), (trodAll_cons_mk (Below.trod laidOut (by kernel_rfl) (of_decide_eq_true (by kernel_rfl)) k0 bel lt0) (trodAll_cons_mk (Below.trod laidOut (by kernel_rfl) (of_decide_eq_true (by kernel_rfl)) k1 bel lt1) trodAll_mk0)), rfl, bel.frame _, fun h => by cases h⟩

theorem proved : Rows.FnLogMoreSaid :=
  OpenClaim.holds_of_wide 9 Try.f9 rfl rfl rfl rfl rfl rfl rfl ⟨rfl, rfl, rfl, rfl, rfl⟩ rfl rfl rfl rfl rfl (by kernel_rfl) Try.func9 (by kernel_rfl)
    (of_decide_eq_true (by kernel_rfl)) (by unfold Func.isWrapper; first | (rw [if_pos (by decide +kernel)]; kernel_rfl) | (rw [if_neg (by decide +kernel)]; exact ⟨rfl, rfl⟩))
    (fun os started H enc _ => lifted os started H enc)
#print axioms proved
end Go.Proofs.Ytejbmjdipfcblaa.FnLogMore
