/-
  Proved: FnRecTwo returns true, whatever the codes: RecDo answers as its model, and records of two slots do not mind each other. No conditions.
-/
import Derived.Test.YtloglnekjhgfgaaDoI
import Derived.Test.YtloglnekjhgfgaaDoS2
import Derived.Test.YtloglnekjhgfgaaDrawDo
import Derived.Test.YtloglnekjhgfgaaLtP
import Derived.Test.YtloglnekjhgfgaaOpen
import Derived.Deep.RegionHeld3
import Derived.OpenShut
import Derived.ShutString
import Derived.ChangeOld
import Derived.Test.YtloglnekjhgfgaaRecMath
namespace Go.Proofs.Ytloglnekjhgfgaa.FnRecTwo
open Go.ChangeShapes Go.WideShapes Go.ChangeAt Go.RowKit Base
set_option linter.unusedVariables false

/-- the second record -/
abbrev two (p s : Int) : R := ⟨1, 2, p, s, 0, 4, 0, 0⟩

theorem page_of (r : R) (hk : okR r = true) (hc : chg r.k = true) : inB r.p 0 4 = true := by
  have hf : formB r = true := by
    cases h : formB r
    · rw [okR, h, Bool.and_false] at hk
      cases hk
    · rfl
  have ho : ofB r = true := by
    simp only [chg, Bool.or_eq_true, beq_iff_eq] at hc
    unfold formB at hf
    rcases hc with h | h | h <;> simp [h] at hf <;> exact hf.1
  simp only [ofB, Bool.and_eq_true] at ho
  exact ho.1

theorem two_ok (p s : Int) (hp : inB p 0 4 = true) (h0 : 0 ≤ s) (h2 : s ≤ 2) : okR (two p s) = true := by
  simp only [inB, Bool.and_eq_true, decide_eq_true_eq] at hp
  rw [okR_1]
  simp [okPut, hdB_in, eqR, inB]
  omega

theorem parts {l o : Int} {zs : List Int} {r : R} {lsn : Int} (h : doB l o zs r lsn = true) :
    okP l o zs = true ∧ okR r = true ∧ chg r.k = true ∧ inB lsn (l + 1) 150 = true ∧ okP lsn (oW r.s r.n o) (newZ r zs) = true := by
  simpa [doB, Bool.and_eq_true] using h

theorem okP3 (l o x y z : Int) : okP l o [x, y, z] = okF l o x y z := by simp [okP]

/-- both orders -/
theorem orders (l o : Int) (zs : List Int) (r : R) (lsn s : Int) (h : doB l o zs r lsn = true) (hs : 0 ≤ r.s) (hl : lsn + 1 ≤ 150) (h0 : 0 ≤ s) (h2 : s ≤ 2) (hne : s ≠ r.s) :
    doB lsn (oW r.s r.n o) (newZ r zs) (two r.p s) (lsn + 1) = doB l o zs (two r.p s) lsn ∧
    (doB l o zs (two r.p s) lsn = true → doB lsn (oW s 4 o) (newZ (two r.p s) zs) r (lsn + 1) = true ∧ newZ (two r.p s) (newZ r zs) = newZ r (newZ (two r.p s) zs) ∧ oW s 4 (oW r.s r.n o) = oW r.s r.n (oW s 4 o)) := by
  obtain ⟨hp, hr, hc, hi, hq⟩ := parts h
  have hk := two_ok r.p s (page_of r hr hc) h0 h2
  have hs2 := (slot_of r hr hc).2
  obtain ⟨x, y, z, rfl⟩ := ok_three hp
  have c1 : chg (two r.p s).k = true := by simp [chg]
  have o1 : oW r.s r.n o = o := by unfold oW; rw [if_neg (by omega)]
  have o2 : oW s 4 o = o := by unfold oW; rw [if_neg (by omega)]
  have hi' : 0 ≤ l ∧ l < lsn ∧ lsn ≤ 150 := by
    have := okP_lsn _ _ _ hp
    simp only [inB, Bool.and_eq_true, decide_eq_true_eq] at hi
    omega
  have i1 : inB (lsn + 1) (lsn + 1) 150 = true := by simp [inB]; omega
  have i2 : inB lsn (l + 1) 150 = true := hi
  rw [o1] at hq ⊢
  simp only [doB, hp, hr, hk, hc, c1, hq, i1, i2, o1, o2, Bool.true_and]
  have hS : r.s = 0 ∨ r.s = 1 ∨ r.s = 2 := by omega
  have hT : s = 0 ∨ s = 1 ∨ s = 2 := by omega
  simp only [newZ, okP3] at hp hq ⊢
  generalize r.n = n at *
  generalize r.s = k at *
  rcases hS with rfl | rfl | rfl <;> rcases hT with rfl | rfl | rfl <;> first | (exact absurd rfl hne) | (rw [Bool.eq_iff_iff]; simp [sW, okF, inB] at hp hq ⊢; omega)
set_option maxRecDepth 100000 in
set_option maxHeartbeats 8000000 in
theorem walk (a : Option Addr) (cs : List Int) (cap : Nat) (a' : Option Addr) (ms : List Int) (cap' : Nat) (w : World) (hc : Bytes w w.heap.size a cs cap) (hc' : Bytes w w.heap.size a' ms cap') :
    Calls Try.prog 8 #[.slice a cs.length cap, .slice a' ms.length cap'] w (Keeps (.bool true) w) := by
  have hm : cs.length ≤ maxLen := Nat.le_trans hc.fit hc.most
  have hm' : ms.length ≤ maxLen := Nat.le_trans hc'.fit hc'.most
  unfold maxLen at hm hm'
  have H := Lib.hid hc
  clear hc hc'
  by_cases hbig : (1048576 : Int) < cs.length
  · go_enter Try.func8, Try.ntmps8
    go_wp2
    go_ret
    exact ⟨rfl, Below.refl _ _⟩
  have bbig : decide ((1048576 : Int) < cs.length) = false := by simpa using hbig
  clear hbig
  by_cases hbig : (1048576 : Int) < ms.length
  · go_enter Try.func8, Try.ntmps8
    go_wp2
    go_ret
    exact ⟨rfl, Below.refl _ _⟩
  have bbig' : decide ((1048576 : Int) < ms.length) = false := by simpa using hbig
  clear hbig
  go_enter Try.func8, Try.ntmps8
  go_wp2_with fail
  refine (drawRecDo_any a cs cap w.heap.size _ (Nat.le_refl _) H.out).mono ?_
  rintro e w1 ⟨b1, l, o, zs, g, q, c, r, lsn, rfl, hrd, hwr, hg, hc1, hc2, hsm, ll, lh⟩
  have ng := hwr.1
  have ls : LS w ((w1.alloc (.cells #[.int .i64 l, .int .i64 o, .slice (some ⟨g, q, none⟩) zs.length c] 30)).alloc (.cells #[.int .i64 r.k, .int .i64 r.t, .int .i64 r.p, .int .i64 r.s, .int .i64 r.o, .int .i64 r.n, .int .i64 r.v, .int .i64 r.x] 24)) w1.heap.size l o zs g q c r := by
    have hx := Has.new (w1.alloc (.cells #[.int .i64 l, .int .i64 o, .slice (some ⟨g, q, none⟩) zs.length c] 30)) 24 #[.int .i64 r.k, .int .i64 r.t, .int .i64 r.p, .int .i64 r.s, .int .i64 r.o, .int .i64 r.n, .int .i64 r.v, .int .i64 r.x]
    rw [World.size_alloc] at hx
    exact ⟨(Has.new w1 _ _).alloc _, hx, (hrd.below (below_one _ _) ng).below (below_one _ _) (by simp; omega), ⟨hg, ng⟩, (b1.alloc (by have := b1.size; omega) _).alloc (by have := b1.size; simp; omega) _⟩
  have L := Lib.hid ls
  have mx : zs.length ≤ 1000000000 := by have := hsm.most; omega
  have lb := hsm.lsn
  clear b1 hrd hwr H ls hsm
  go_wp2_with fail
  generalize ((w1.alloc (.cells #[.int .i64 l, .int .i64 o, .slice (some ⟨g, q, none⟩) zs.length c] 30)).alloc (.cells #[.int .i64 r.k, .int .i64 r.t, .int .i64 r.p, .int .i64 r.s, .int .i64 r.o, .int .i64 r.n, .int .i64 r.v, .int .i64 r.x] 24)) = w2 at *
  generalize w1.heap.size = pb at *
  have nl : pb + 1 < w2.heap.size := L.out.lt
  refine (specRecDo_any l o zs _ c w2.heap.size r lsn _ (Nat.le_refl _) L.out.ints mx).mono ?_
  rintro e w3 h3
  obtain ⟨u1, l1, o1, a1, n1, c1, us1, rfl, g1⟩ := h3.got rfl
  have L3 := Lib.hid (L.out.below h3.kept)
  obtain rfl := g1.val
  have n3 : pb + 1 < w3.heap.size := L3.out.lt
  have n3' : pb < w3.heap.size := by omega
  have m3 := h3.kept.size
  have G1 := Lib.hid (g1.below (below_one w3 (.cells #[.int .i64 l1, .int .i64 o1, .slice a1 n1 c1] 30)))
  have W4 := Lib.hid (Has.new w3 30 #[.int .i64 l1, .int .i64 o1, .slice a1 n1 c1])
  have L4 := Lib.hid (L3.out.alloc (.cells #[.int .i64 l1, .int .i64 o1, .slice a1 n1 c1] 30))
  obtain ⟨a0, a1', a2⟩ := L3.out.page.three
  obtain ⟨c0, c1', c2, c3, c4, c5, c6, c7⟩ := eight L3.out.rcd
  clear h3 g1 L L3
  go_wp2_with fail
  have m4 : (w3.alloc (.cells #[.int .i64 l1, .int .i64 o1, .slice a1 n1 c1] 30)).heap.size = w3.heap.size + 1 := by simp
  generalize (w3.alloc (.cells #[.int .i64 l1, .int .i64 o1, .slice a1 n1 c1] 30)) = w4 at *
  clear a0 a1' a2 c0 c1' c2 c3 c4 c5 c6 c7
  refine (recDo_any l o zs _ c w4.heap.size r lsn _ (Nat.le_refl _) L4.out.ints hc1).mono ?_
  rintro e w5 h5
  obtain ⟨u2, l2, o2, a2, n2, c2, us2, rfl, g2⟩ := h5.got rfl
  obtain rfl := g2.val
  have m5 := h5.kept.size
  have ob : Below w5.heap.size w5 (w5.alloc (.cells #[.int .i64 l2, .int .i64 o2, .slice a2 n2 c2] 30)) := below_one _ _
  have G1' := Lib.hid ((G1.out.below h5.kept).below ob)
  have G2 := Lib.hid (g2.below ob)
  have W6 := Lib.hid ((W4.out.below h5.kept (by omega)).below ob (by omega))
  have V6 := Lib.hid (Has.new w5 30 #[.int .i64 l2, .int .i64 o2, .slice a2 n2 c2])
  have L6 := Lib.hid ((L4.out.below h5.kept).below ob)
  have m6 : (w5.alloc (.cells #[.int .i64 l2, .int .i64 o2, .slice a2 n2 c2] 30)).heap.size = w5.heap.size + 1 := by simp
  clear h5 g2 ob G1 W4 L4
  go_upto_region 6 with (fail)
  generalize (w5.alloc (.cells #[.int .i64 l2, .int .i64 o2, .slice a2 n2 c2] 30)) = w6 at *
  generalize w5.heap.size = xb at *
  generalize w3.heap.size = wb at *
  have HS := Lib.hid (Got.same G2.out G1'.out)
  have sm1 := G1'.out.small
  have sm2 := G2.out.small
  obtain ⟨p0, p1, p2⟩ := V6.out.three
  obtain ⟨q0, q1, q2⟩ := W6.out.three
  have nx : xb < w6.heap.size := V6.out.lt
  have nw : wb < w6.heap.size := W6.out.lt
  have np : pb + 1 < w6.heap.size := L6.out.lt
  cases hd : doB l o zs r lsn
  · rw [hd] at G1' G2
    clear hd
    go_wp2_with fail
    refine (ltPage_any l2 l1 o2 o1 us2 us1 a2 a1 n2 n1 c2 c1 w6.heap.size _ G2.out.len G1'.out.len (Nat.le_refl _) G2.out.ints G1'.out.ints (by omega) (by omega)).mono ?_
    rintro e w7 ⟨rfl, b7⟩
    rw [HS.out]
    have V7 := Lib.hid (V6.out.below b7 nx)
    have W7 := Lib.hid (W6.out.below b7 nw)
    have G7 := Lib.hid (G1'.out.below b7)
    have K7 := Lib.hid (G2.out.below b7)
    have L7 := Lib.hid (L6.out.below b7)
    clear b7 p0 p1 p2 q0 q1 q2 G1' G2 V6 W6 L6
    obtain ⟨p0, p1, p2⟩ := V7.out.three
    obtain ⟨q0, q1, q2⟩ := W7.out.three
    go_wp2_with fail
    refine (ltPage_any l2 l1 o2 o1 us2 us1 a2 a1 n2 n1 c2 c1 w7.heap.size _ K7.out.len G7.out.len (Nat.le_refl _) K7.out.ints G7.out.ints (by omega) (by omega)).mono ?_
    rintro e w8 ⟨rfl, b8⟩
    rw [HS.out]
    have L8 := Lib.hid (L7.out.below b8)
    clear b8 p0 p1 p2 q0 q1 q2 G7 K7 V7 W7 L7
    go_wp2
    go_ret
    exact ⟨rfl, L8.out.kept⟩
  by_cases hs : r.s < 0
  · have bs : decide (r.s < 0) = true := by simpa using hs
    clear hs
    rw [hd] at G1' G2
    clear hd
    go_wp2_with fail
    refine (ltPage_any l2 l1 o2 o1 us2 us1 a2 a1 n2 n1 c2 c1 w6.heap.size _ G2.out.len G1'.out.len (Nat.le_refl _) G2.out.ints G1'.out.ints (by omega) (by omega)).mono ?_
    rintro e w7 ⟨rfl, b7⟩
    rw [HS.out]
    have V7 := Lib.hid (V6.out.below b7 nx)
    have W7 := Lib.hid (W6.out.below b7 nw)
    have G7 := Lib.hid (G1'.out.below b7)
    have K7 := Lib.hid (G2.out.below b7)
    have L7 := Lib.hid (L6.out.below b7)
    clear b7 p0 p1 p2 q0 q1 q2 G1' G2 V6 W6 L6
    obtain ⟨p0, p1, p2⟩ := V7.out.three
    obtain ⟨q0, q1, q2⟩ := W7.out.three
    obtain ⟨f0, f1, f2, f3, f4, f5, f6, f7⟩ := eight L7.out.rcd
    have np7 : pb + 1 < w7.heap.size := L7.out.lt
    go_wp2_with fail
    refine (ltPage_any l2 l1 o2 o1 us2 us1 a2 a1 n2 n1 c2 c1 w7.heap.size _ K7.out.len G7.out.len (Nat.le_refl _) K7.out.ints G7.out.ints (by omega) (by omega)).mono ?_
    rintro e w8 ⟨rfl, b8⟩
    rw [HS.out]
    have L8 := Lib.hid (L7.out.below b8)
    clear b8 p0 p1 p2 q0 q1 q2 G7 K7 V7 W7 L7
    go_wp2
    go_ret
    exact ⟨rfl, L8.out.kept⟩
  by_cases hb : 150 < lsn + 1
  · have bs : decide (r.s < 0) = false := by simpa using hs
    have bl : decide (150 < lsn + 1) = true := by simpa using hb
    clear hs hb
    rw [hd] at G1' G2
    clear hd
    go_wp2_with fail
    refine (ltPage_any l2 l1 o2 o1 us2 us1 a2 a1 n2 n1 c2 c1 w6.heap.size _ G2.out.len G1'.out.len (Nat.le_refl _) G2.out.ints G1'.out.ints (by omega) (by omega)).mono ?_
    rintro e w7 ⟨rfl, b7⟩
    rw [HS.out]
    have V7 := Lib.hid (V6.out.below b7 nx)
    have W7 := Lib.hid (W6.out.below b7 nw)
    have G7 := Lib.hid (G1'.out.below b7)
    have K7 := Lib.hid (G2.out.below b7)
    have L7 := Lib.hid (L6.out.below b7)
    clear b7 p0 p1 p2 q0 q1 q2 G1' G2 V6 W6 L6
    obtain ⟨p0, p1, p2⟩ := V7.out.three
    obtain ⟨q0, q1, q2⟩ := W7.out.three
    obtain ⟨f0, f1, f2, f3, f4, f5, f6, f7⟩ := eight L7.out.rcd
    have np7 : pb + 1 < w7.heap.size := L7.out.lt
    go_wp2_with fail
    refine (ltPage_any l2 l1 o2 o1 us2 us1 a2 a1 n2 n1 c2 c1 w7.heap.size _ K7.out.len G7.out.len (Nat.le_refl _) K7.out.ints G7.out.ints (by omega) (by omega)).mono ?_
    rintro e w8 ⟨rfl, b8⟩
    rw [HS.out]
    have L8 := Lib.hid (L7.out.below b8)
    clear b8 p0 p1 p2 q0 q1 q2 G7 K7 V7 W7 L7
    go_wp2
    go_ret
    exact ⟨rfl, L8.out.kept⟩
  have hs' : 0 ≤ r.s := by omega
  have hs2 : r.s ≤ 2 := (slot_of r (parts hd).2.1 (parts hd).2.2.1).2
  have bs : decide (r.s < 0) = false := by simpa using hs
  have bl : decide (150 < lsn + 1) = false := by simpa using hb
  obtain ⟨s, he, h0, h2, hne⟩ : ∃ s : Int, (r.s + 1 + (ms.length : Int) % 2) % 3 = s ∧ 0 ≤ s ∧ s ≤ 2 ∧ s ≠ r.s := ⟨_, rfl, by omega, by omega, by omega⟩
  obtain ⟨od1, od2⟩ := orders l o zs r lsn s hd hs' (by omega) h0 h2 hne
  have OD1 := Lib.hid od1
  have OD2 := Lib.hid od2
  have HE := Lib.hid he
  clear he od1 od2 hne hs hb
  rw [hd] at G1' G2
  have HD := Lib.hid hd
  clear hd
  go_wp2_with fail
  refine (ltPage_any l2 l1 o2 o1 us2 us1 a2 a1 n2 n1 c2 c1 w6.heap.size _ G2.out.len G1'.out.len (Nat.le_refl _) G2.out.ints G1'.out.ints (by omega) (by omega)).mono ?_
  rintro e w7 ⟨rfl, b7⟩
  rw [HS.out]
  have V7 := Lib.hid (V6.out.below b7 nx)
  have G7 := Lib.hid (G2.out.below b7)
  have L7 := Lib.hid (L6.out.below b7)
  have nx7 : xb < w7.heap.size := V7.out.lt
  have np7 : pb + 1 < w7.heap.size := L7.out.lt
  have np7' : pb < w7.heap.size := by omega
  have fit2 := G7.out.fit
  clear b7 p0 p1 p2 q0 q1 q2 G1' G2 V6 W6 L6 nx nw np m3 m4 m5 m6 HS sm1 nl n3 n3'
  obtain ⟨p0, p1, p2⟩ := V7.out.three
  obtain ⟨d0, d1, d2⟩ := L7.out.page.three
  obtain ⟨c0, c1', c2', c3, c4, c5, c6, c7⟩ := eight L7.out.rcd
  obtain ⟨y1, y2, y3, -⟩ := G7.out.yes rfl
  have Y1 := Lib.hid y1
  have Y2 := Lib.hid y2
  have Y3 := Lib.hid y3
  clear y1 y2 y3
  have ob : Below w7.heap.size w7 (w7.alloc (.cells #[.int .i64 1, .int .i64 2, .int .i64 r.p, .int .i64 s, .int .i64 0, .int .i64 4, .int .i64 0, .int .i64 0] 24)) := below_one _ _
  have V8 := Lib.hid (V7.out.below ob nx7)
  have G8 := Lib.hid (G7.out.below ob)
  have L8 := Lib.hid (L7.out.below ob)
  have Q8 := Lib.hid (Has.new w7 24 #[.int .i64 1, .int .i64 2, .int .i64 r.p, .int .i64 s, .int .i64 0, .int .i64 4, .int .i64 0, .int .i64 0])
  clear ob V7 G7 L7
  go_upto_region 9 with (fail)
  rw [HE.out]
  generalize (w7.alloc (.cells #[.int .i64 1, .int .i64 2, .int .i64 r.p, .int .i64 s, .int .i64 0, .int .i64 4, .int .i64 0, .int .i64 0] 24)) = w8 at *
  generalize w7.heap.size = qb at *
  have hx8 : xb < w8.heap.size := V8.out.lt
  have hq8 : qb < w8.heap.size := Q8.out.lt
  have hp8 : pb + 1 < w8.heap.size := L8.out.lt
  have hp8' : pb < w8.heap.size := by omega
  clear nx7 np7 np7' p0 p1 p2 d0 d1 d2 c0 c1' c2' c3 c4 c5 c6 c7
  obtain ⟨p0, p1, p2⟩ := V8.out.three
  obtain ⟨f0, f1, f2, f3, f4, f5, f6, f7⟩ := eight Q8.out
  go_wp2_with fail
  refine (recDo_len l2 o2 us2 a2 n2 c2 w8.heap.size (two r.p s) (lsn + 1) _ G8.out.len (Nat.le_refl _) G8.out.ints fit2).mono ?_
  rintro e w9 h9
  have hb9 : doB l2 o2 us2 (two r.p s) (lsn + 1) = doB l o zs (two r.p s) lsn := by rw [Y1.out, Y2.out, Y3.out]; exact OD1.out
  rw [hb9] at h9
  clear hb9 p0 p1 p2 f0 f1 f2 f3 f4 f5 f6 f7 V8 hx8 hq8 hp8 hp8'
  obtain ⟨u3, l3, o3, a3, n3, c3, us3, rfl, gg⟩ := h9.got rfl
  obtain rfl := gg.val
  have kk := h9.kept
  have ob : Below w9.heap.size w9 (w9.alloc (.cells #[.int .i64 l3, .int .i64 o3, .slice a3 n3 c3] 30)) := below_one _ _
  have P3 := Lib.hid (gg.below ob)
  have N3 := Lib.hid (Has.new w9 30 #[.int .i64 l3, .int .i64 o3, .slice a3 n3 c3])
  have Q8' := Lib.hid ((Q8.out.below kk Q8.out.lt).below ob (Nat.lt_of_lt_of_le Q8.out.lt kk.size))
  have L8' := Lib.hid ((L8.out.below kk).below ob)
  clear h9 gg kk ob Q8 L8
  have Q8 := Lib.hid Q8'.out
  clear Q8'
  have L8 := Lib.hid L8'.out
  clear L8'
  go_upto_region 10 with (fail)
  generalize (w9.alloc (.cells #[.int .i64 l3, .int .i64 o3, .slice a3 n3 c3] 30)) = w10 at *
  generalize w9.heap.size = ab at *
  have hq8 : qb < w10.heap.size := Q8.out.lt
  have hp8 : pb + 1 < w10.heap.size := L8.out.lt
  obtain ⟨d0, d1, d2⟩ := L8.out.page.three
  obtain ⟨f0, f1, f2, f3, f4, f5, f6, f7⟩ := eight Q8.out
  go_wp2_with fail
  refine (recDo_any l o zs _ c w10.heap.size (two r.p s) lsn _ (Nat.le_refl _) L8.out.ints hc1).mono ?_
  rintro e w11 h11
  clear d0 d1 d2 f0 f1 f2 f3 f4 f5 f6 f7 hq8 hp8
  obtain ⟨u4, l4, o4, a4, n4, c4, us4, rfl, gg⟩ := h11.got rfl
  obtain rfl := gg.val
  have kk := h11.kept
  have ob : Below w11.heap.size w11 (w11.alloc (.cells #[.int .i64 l4, .int .i64 o4, .slice a4 n4 c4] 30)) := below_one _ _
  have P4 := Lib.hid (gg.below ob)
  have N4 := Lib.hid (Has.new w11 30 #[.int .i64 l4, .int .i64 o4, .slice a4 n4 c4])
  have L8' := Lib.hid ((L8.out.below kk).below ob)
  have P3' := Lib.hid ((P3.out.below kk).below ob)
  have N3' := Lib.hid ((N3.out.below kk N3.out.lt).below ob (Nat.lt_of_lt_of_le N3.out.lt kk.size))
  clear h11 gg kk ob L8 P3 N3
  have L8 := Lib.hid L8'.out
  clear L8'
  have P3 := Lib.hid P3'.out
  clear P3'
  have N3 := Lib.hid N3'.out
  clear N3'
  clear Q8
  go_upto_region 11 with (fail)
  generalize (w11.alloc (.cells #[.int .i64 l4, .int .i64 o4, .slice a4 n4 c4] 30)) = w12 at *
  generalize w11.heap.size = bb at *
  obtain ⟨d0, d1, d2⟩ := N4.out.three
  obtain ⟨f0, f1, f2, f3, f4, f5, f6, f7⟩ := eight L8.out.rcd
  have fit4 := P4.out.fit
  go_wp2_with fail
  refine (recDo_len l4 o4 us4 a4 n4 c4 w12.heap.size r (lsn + 1) _ P4.out.len (Nat.le_refl _) P4.out.ints fit4).mono ?_
  rintro e w13 h13
  clear d0 d1 d2 f0 f1 f2 f3 f4 f5 f6 f7
  obtain ⟨u5, l5, o5, a5, n5, c5, us5, rfl, gg⟩ := h13.got rfl
  obtain rfl := gg.val
  have kk := h13.kept
  have ob : Below w13.heap.size w13 (w13.alloc (.cells #[.int .i64 l5, .int .i64 o5, .slice a5 n5 c5] 30)) := below_one _ _
  have P5 := Lib.hid (gg.below ob)
  have N5 := Lib.hid (Has.new w13 30 #[.int .i64 l5, .int .i64 o5, .slice a5 n5 c5])
  have L8' := Lib.hid ((L8.out.below kk).below ob)
  have P3' := Lib.hid ((P3.out.below kk).below ob)
  have N3' := Lib.hid ((N3.out.below kk N3.out.lt).below ob (Nat.lt_of_lt_of_le N3.out.lt kk.size))
  have P4' := Lib.hid ((P4.out.below kk).below ob)
  clear h13 gg kk ob L8 P3 N3 P4
  have L8 := Lib.hid L8'.out
  clear L8'
  have P3 := Lib.hid P3'.out
  clear P3'
  have N3 := Lib.hid N3'.out
  clear N3'
  have P4 := Lib.hid P4'.out
  clear P4'
  clear N4
  go_upto_region 12 with (fail)
  generalize (w13.alloc (.cells #[.int .i64 l5, .int .i64 o5, .slice a5 n5 c5] 30)) = w14 at *
  generalize w13.heap.size = cb at *
  cases hB : doB l o zs (two r.p s) lsn
  · have K := Lib.hid L8.out.kept
    clear L8 P3 N3 P4 P5 N5
    go_wp2
    all_goals
      go_ret
      exact ⟨rfl, K.out⟩
  obtain ⟨t1, t2, t3⟩ := OD2.out hB
  rw [hB] at P3 P4
  obtain ⟨i1, i2, i3, i4, -⟩ := P3.out.yes rfl
  obtain ⟨j1, j2, j3, j4, -⟩ := P4.out.yes rfl
  have hb : doB l4 o4 us4 r (lsn + 1) = true := by rw [j1, j2, j3]; exact t1
  rw [hb] at P5
  obtain ⟨k1, k2, k3, k4, -⟩ := P5.out.yes rfl
  have HS : Hid (((l3 == l5) && ((o3 == o5) && (us3 == us5))) = true) := by
    show ((l3 == l5) && ((o3 == o5) && (us3 == us5))) = true
    rw [i1, k1, i2, k2, i3, k3, Y2.out, Y3.out, j2, j3]
    have t2' : newZ (two r.p s) (newZ r zs) = newZ r (newZ (two r.p s) zs) := t2
    have t3' : oW (two r.p s).s (two r.p s).n (oW r.s r.n o) = oW r.s r.n (oW (two r.p s).s (two r.p s).n o) := t3
    rw [t2', t3']
    simp
  have s3 := P3.out.small
  have s5 := P5.out.small
  rw [hb]
  clear hB t1 t2 t3 i1 i2 i3 i4 j1 j2 j3 j4 k1 k2 k3 k4 hb P4
  obtain ⟨d0, d1, d2⟩ := N3.out.three
  obtain ⟨f0, f1, f2⟩ := N5.out.three
  go_wp2_with fail
  refine (ltPage_any l3 l5 o3 o5 us3 us5 a3 a5 n3 n5 c3 c5 w14.heap.size _ P3.out.len P5.out.len (Nat.le_refl _) P3.out.ints P5.out.ints (by omega) (by omega)).mono ?_
  rintro e w15 ⟨rfl, b15⟩
  rw [HS.out]
  have K := Lib.hid (L8.out.below b15).kept
  clear b15 d0 d1 d2 f0 f1 f2 P3 P5 N3 N5 L8
  go_wp2
  go_ret
  exact ⟨rfl, K.out⟩

theorem own : ownKnob Try.prog.godebug = none := by kernel_rfl
theorem laidOut : laidOutB Try.prog = true := by kernel_rfl

set_option maxRecDepth 100000 in
theorem lifted (os : Os) (started : os.Started) (H : Type) (enc : TypeId × Value → H) :
    ReturnsInHanded {} Try.checked os 8 .any (Rows.fnRecTwoSpec.pre6 enc Try.prog Try.f8 Rows.fnRecTwoRow.domain false) (Rows.fnRecTwoSpec.post enc Try.prog Try.f8 false true false false) := by
  refine returnsInHanded_of_change (C := Try.checked) own started (by kernel_rfl) Try.func8
    (ChangeSpec.witness6 (enc := enc) (C := Try.checked) false ⟨#[], #[.slice none 0 0, .slice none 0 0], []⟩ 8 (by kernel_rfl) (by kernel_rfl) (by kernel_rfl) (by kernel_rfl)) ?_
  intro W base args ds gs before hval0 hW hcnd _
  have hval : ∀ (j : Nat) t v, Try.f8.params[j]? = some t → args[j]? = some v → Value.okWide Try.prog W .any base t v := hval0
  have hW' := hW
  obtain ⟨p, q, hA0, hV, rfl, hfz, hnd⟩ := hW
  have hA : DataW.TrodAll enc Try.prog W 0 (fun _ => true) true Try.f8.params.toList args.toList ds p := hA0
  rw [Try.params8] at hA hval
  obtain ⟨v0, vs0, d0, ds0, p0, q0, hargs, rfl, rfl, h0, r0⟩ := trodAll_cons hA
  obtain ⟨v1, vs1, d1, ds1, p1, q1, rfl, rfl, rfl, h1, r1⟩ := trodAll_cons r0
  obtain ⟨rfl, rfl, rfl⟩ := trodAll_nil r1
  obtain rfl : args = #[v0, v1] := by cases args; simp_all
  obtain ⟨rfl, rfl⟩ := trodVars_none hV
  have k0 := h0
  have k1 := h1
  have lt0 : ∀ x ∈ p0, x.block < W.heap.size := by obtain ⟨m, hm⟩ := k0; exact DataW.trod_lt m _ _ _ hm
  have lt1 : ∀ x ∈ p1, x.block < W.heap.size := by obtain ⟨m, hm⟩ := k1; exact DataW.trod_lt m _ _ _ hm
  obtain ⟨a, cs, cap, rfl, hc⟩ := openBytes Try.underlying22 Try.underlying5 (by kernel_rfl) (hval 0 22 v0 rfl rfl) h0
  obtain ⟨a', ms, cap', rfl, hc'⟩ := openBytes Try.underlying22 Try.underlying5 (by kernel_rfl) (hval 1 22 v1 rfl rfl) h1
  clear hA0 hval0
  refine (walk a cs cap a' ms cap' W hc hc').mono fun e W' ⟨he, bel⟩ => ?_
  subst he
  exact ⟨_, rfl, _, _, _, [], _, [], hW', trodAll_mk1 (shut_bool Try.underlying4 _), (trodAll_cons_mk (Below.trod laidOut (by kernel_rfl) (of_decide_eq_true (by kernel_rfl)) k0 bel lt0) (trodAll_cons_mk (Below.trod laidOut (by kernel_rfl) (of_decide_eq_true (by kernel_rfl)) k1 bel lt1) trodAll_mk0)), rfl, bel.frame _, fun h => by cases h⟩

theorem proved : Rows.FnRecTwoSaid :=
  OpenClaim.holds_of_wide 8 Try.f8 rfl rfl rfl rfl rfl rfl rfl ⟨rfl, rfl, rfl, rfl, rfl⟩ rfl rfl rfl rfl rfl (by kernel_rfl) Try.func8 (by kernel_rfl)
    (of_decide_eq_true (by kernel_rfl)) (by unfold Func.isWrapper; first | (rw [if_pos (by decide +kernel)]; kernel_rfl) | (rw [if_neg (by decide +kernel)]; exact ⟨rfl, rfl⟩))
    (fun os started H enc _ => lifted os started H enc)
#print axioms proved
end Go.Proofs.Ytloglnekjhgfgaa.FnRecTwo
