/-
  Proved: FnRecDo returns true, whatever the codes: RecDo answers as its model; a record does what it says, and nothing else. No conditions.
-/
import Derived.Test.YtloglnekjhgfgaaDoI
import Derived.Test.YtloglnekjhgfgaaDoS2
import Derived.Test.YtloglnekjhgfgaaDrawDo
import Derived.Test.YtloglnekjhgfgaaLtP
import Derived.Test.YtloglnekjhgfgaaOpen
import Derived.Deep.RegionHeld3
import Derived.OpenShut
import Derived.ShutString
import Derived.ChangeOld
import Derived.Test.YtloglnekjhgfgaaRecMath
namespace Go.Proofs.Ytloglnekjhgfgaa.FnRecDo
open Go.ChangeShapes Go.WideShapes Go.ChangeAt Go.RowKit Base
set_option linter.unusedVariables false

theorem pageOk_len (l o : Int) (zs : List Int) (a : Option Addr) (n cap B : Nat) (w : World) (hn : zs.length = n) (hB : B ≤ w.heap.size) (hz : Ints .i64 w B a zs) (hc : n ≤ cap) :
    Calls Try.prog 18 #[pageV l o a n cap] w (Keeps (.bool (okP l o zs)) w) := by
  subst hn
  exact pageOk_any l o zs a cap B w hB hz hc
theorem pageEmpty_len (l o : Int) (zs : List Int) (a : Option Addr) (n cap B : Nat) (w : World) (hn : zs.length = n) (hB : B ≤ w.heap.size) (hz : Ints .i64 w B a zs) (hc : n ≤ cap) :
    Calls Try.prog 19 #[pageV l o a n cap] w (Keeps (.bool (okP l o zs && zerosB zs)) w) := by
  subst hn
  exact pageEmpty_any l o zs a cap B w hB hz hc
theorem ltInts_len (xs ys : List Int) (a b : Option Addr) (na nb ca cb B : Nat) (w : World) (ea : xs.length = na) (eb : ys.length = nb) (hx : Ints .i64 w B a xs) (hy : Ints .i64 w B b ys) (mx : na ≤ 1000000000) (my : nb ≤ 1000000000) :
    Calls Try.prog 20 #[.slice a na ca, .slice b nb cb] w (Quiet (.bool (xs == ys)) w) := by
  subst ea eb
  exact ltInts_any xs ys a b ca cb B w hx hy mx my
theorem ltHas_len (l l' o o' : Int) (xs ys : List Int) (a b : Option Addr) (na nb ca cb B : Nat) (w : World) (ea : xs.length = na) (eb : ys.length = nb) (hB : B ≤ w.heap.size) (hx : Ints .i64 w B a xs) (hy : Ints .i64 w B b ys) (mx : na ≤ 1000000000) (my : nb ≤ 1000000000) :
    Calls Try.prog 21 #[pageV l o a na ca, pageV l' o' b nb cb] w (Keeps (.bool ((o == o') && (xs == ys))) w) := by
  subst ea eb
  exact ltHas_any l l' o o' xs ys a b ca cb B w hB hx hy mx my

theorem parts {l o : Int} {zs : List Int} {r : R} {lsn : Int} (h : doB l o zs r lsn = true) :
    okP l o zs = true ∧ okR r = true ∧ chg r.k = true ∧ inB lsn (l + 1) 150 = true ∧ okP lsn (oW r.s r.n o) (newZ r zs) = true := by
  simpa [doB, Bool.and_eq_true] using h
theorem new_low (r : R) (hk : okR r = true) (hc : chg r.k = true) : 0 ≤ r.n := by
  have hf : formB r = true := by
    cases h : formB r
    · rw [okR, h, Bool.and_false] at hk
      cases hk
    · rfl
  have ho : ofB r = true := by
    simp only [chg, Bool.or_eq_true, beq_iff_eq] at hc
    unfold formB at hf
    rcases hc with h | h | h <;> simp [h] at hf <;> exact hf.1
  simp only [ofB, inB, Bool.and_eq_true, decide_eq_true_eq] at ho
  omega
theorem set_back (x y z n : Int) (k : Nat) (hk : k < 3) : ([x, y, z].set k n).set k ([x, y, z].getD k 0) = [x, y, z] := by
  match k, hk with
  | 0, _ => rfl
  | 1, _ => rfl
  | 2, _ => rfl
theorem set_at (x y z n : Int) (k : Nat) (hk : k < 3) : ([x, y, z].set k n).getD k 0 = n := by
  match k, hk with
  | 0, _ => rfl
  | 1, _ => rfl
  | 2, _ => rfl

set_option maxRecDepth 100000 in
set_option maxHeartbeats 8000000 in
theorem walk (a : Option Addr) (cs : List Int) (cap : Nat) (w : World) (hc : Bytes w w.heap.size a cs cap) :
    Calls Try.prog 4 #[.slice a cs.length cap] w (Keeps (.bool true) w) := by
  have hm : cs.length ≤ maxLen := Nat.le_trans hc.fit hc.most
  unfold maxLen at hm
  have H := Lib.hid hc
  clear hc
  by_cases hbig : (1048576 : Int) < cs.length
  · go_enter Try.func4, Try.ntmps4
    go_wp2
    go_ret
    exact ⟨rfl, Below.refl _ _⟩
  have bbig : decide ((1048576 : Int) < cs.length) = false := by simpa using hbig
  clear hbig
  go_enter Try.func4, Try.ntmps4
  go_wp2_with fail
  refine (drawRecDo_any a cs cap w.heap.size _ (Nat.le_refl _) H.out).mono ?_
  rintro e w1 ⟨b1, l, o, zs, g, q, c, r, lsn, rfl, hrd, hwr, hg, hc1, hc2, hsm, ll, lh⟩
  have ng := hwr.1
  have ls : LS w ((w1.alloc (.cells #[.int .i64 l, .int .i64 o, .slice (some ⟨g, q, none⟩) zs.length c] 30)).alloc (.cells #[.int .i64 r.k, .int .i64 r.t, .int .i64 r.p, .int .i64 r.s, .int .i64 r.o, .int .i64 r.n, .int .i64 r.v, .int .i64 r.x] 24)) w1.heap.size l o zs g q c r := by
    have hx := Has.new (w1.alloc (.cells #[.int .i64 l, .int .i64 o, .slice (some ⟨g, q, none⟩) zs.length c] 30)) 24 #[.int .i64 r.k, .int .i64 r.t, .int .i64 r.p, .int .i64 r.s, .int .i64 r.o, .int .i64 r.n, .int .i64 r.v, .int .i64 r.x]
    rw [World.size_alloc] at hx
    exact ⟨(Has.new w1 _ _).alloc _, hx, (hrd.below (below_one _ _) ng).below (below_one _ _) (by simp; omega), ⟨hg, ng⟩, (b1.alloc (by have := b1.size; omega) _).alloc (by have := b1.size; simp; omega) _⟩
  have L := Lib.hid ls
  have mx : zs.length ≤ 1000000000 := by have := hsm.most; omega
  have lb := hsm.lsn
  clear b1 hrd hwr H ls hsm
  go_wp2_with fail
  generalize ((w1.alloc (.cells #[.int .i64 l, .int .i64 o, .slice (some ⟨g, q, none⟩) zs.length c] 30)).alloc (.cells #[.int .i64 r.k, .int .i64 r.t, .int .i64 r.p, .int .i64 r.s, .int .i64 r.o, .int .i64 r.n, .int .i64 r.v, .int .i64 r.x] 24)) = w2 at *
  generalize w1.heap.size = pb at *
  have nl : pb + 1 < w2.heap.size := L.out.lt
  refine (specRecDo_any l o zs _ c w2.heap.size r lsn _ (Nat.le_refl _) L.out.ints mx).mono ?_
  rintro e w3 h3
  obtain ⟨u1, l1, o1, a1, n1, c1, us1, rfl, g1⟩ := h3.got rfl
  have L3 := Lib.hid (L.out.below h3.kept)
  obtain rfl := g1.val
  have n3 : pb + 1 < w3.heap.size := L3.out.lt
  have n3' : pb < w3.heap.size := by omega
  have m3 := h3.kept.size
  have G1 := Lib.hid (g1.below (below_one w3 (.cells #[.int .i64 l1, .int .i64 o1, .slice a1 n1 c1] 30)))
  have W4 := Lib.hid (Has.new w3 30 #[.int .i64 l1, .int .i64 o1, .slice a1 n1 c1])
  have L4 := Lib.hid (L3.out.alloc (.cells #[.int .i64 l1, .int .i64 o1, .slice a1 n1 c1] 30))
  obtain ⟨a0, a1', a2⟩ := L3.out.page.three
  obtain ⟨c0, c1', c2, c3, c4, c5, c6, c7⟩ := eight L3.out.rcd
  clear h3 g1 L L3
  go_wp2_with fail
  have m4 : (w3.alloc (.cells #[.int .i64 l1, .int .i64 o1, .slice a1 n1 c1] 30)).heap.size = w3.heap.size + 1 := by simp
  generalize (w3.alloc (.cells #[.int .i64 l1, .int .i64 o1, .slice a1 n1 c1] 30)) = w4 at *
  clear a0 a1' a2 c0 c1' c2 c3 c4 c5 c6 c7
  refine (recDo_any l o zs _ c w4.heap.size r lsn _ (Nat.le_refl _) L4.out.ints hc1).mono ?_
  rintro e w5 h5
  obtain ⟨u2, l2, o2, a2, n2, c2, us2, rfl, g2⟩ := h5.got rfl
  obtain rfl := g2.val
  have m5 := h5.kept.size
  have ob : Below w5.heap.size w5 (w5.alloc (.cells #[.int .i64 l2, .int .i64 o2, .slice a2 n2 c2] 30)) := below_one _ _
  have G1' := Lib.hid ((G1.out.below h5.kept).below ob)
  have G2 := Lib.hid (g2.below ob)
  have W6 := Lib.hid ((W4.out.below h5.kept (by omega)).below ob (by omega))
  have V6 := Lib.hid (Has.new w5 30 #[.int .i64 l2, .int .i64 o2, .slice a2 n2 c2])
  have L6 := Lib.hid ((L4.out.below h5.kept).below ob)
  have m6 : (w5.alloc (.cells #[.int .i64 l2, .int .i64 o2, .slice a2 n2 c2] 30)).heap.size = w5.heap.size + 1 := by simp
  clear h5 g2 ob G1 W4 L4
  go_upto_region 6 with (fail)
  generalize (w5.alloc (.cells #[.int .i64 l2, .int .i64 o2, .slice a2 n2 c2] 30)) = w6 at *
  generalize w5.heap.size = xb at *
  generalize w3.heap.size = wb at *
  have HS := Lib.hid (Got.same G2.out G1'.out)
  have sm1 := G1'.out.small
  have sm2 := G2.out.small
  obtain ⟨p0, p1, p2⟩ := V6.out.three
  obtain ⟨q0, q1, q2⟩ := W6.out.three
  have nx : xb < w6.heap.size := V6.out.lt
  have nw : wb < w6.heap.size := W6.out.lt
  have np : pb + 1 < w6.heap.size := L6.out.lt
  cases hd : doB l o zs r lsn
  · rw [hd] at G1' G2
    clear hd
    go_wp2_with fail
    refine (ltPage_any l2 l1 o2 o1 us2 us1 a2 a1 n2 n1 c2 c1 w6.heap.size _ G2.out.len G1'.out.len (Nat.le_refl _) G2.out.ints G1'.out.ints (by omega) (by omega)).mono ?_
    rintro e w7 ⟨rfl, b7⟩
    rw [HS.out]
    have V7 := Lib.hid (V6.out.below b7 nx)
    have W7 := Lib.hid (W6.out.below b7 nw)
    have G7 := Lib.hid (G1'.out.below b7)
    have K7 := Lib.hid (G2.out.below b7)
    have L7 := Lib.hid (L6.out.below b7)
    clear b7 p0 p1 p2 q0 q1 q2 G1' G2 V6 W6 L6
    obtain ⟨p0, p1, p2⟩ := V7.out.three
    obtain ⟨q0, q1, q2⟩ := W7.out.three
    go_wp2_with fail
    refine (ltPage_any l2 l1 o2 o1 us2 us1 a2 a1 n2 n1 c2 c1 w7.heap.size _ K7.out.len G7.out.len (Nat.le_refl _) K7.out.ints G7.out.ints (by omega) (by omega)).mono ?_
    rintro e w8 ⟨rfl, b8⟩
    rw [HS.out]
    have L8 := Lib.hid (L7.out.below b8)
    clear b8 p0 p1 p2 q0 q1 q2 G7 K7 V7 W7 L7
    go_wp2
    go_ret
    exact ⟨rfl, L8.out.kept⟩
  obtain ⟨dp, dr, dc, di, dq⟩ := parts hd
  obtain ⟨x, y, z, rfl⟩ := ok_three dp
  have dl : l < lsn := by simp only [inB, Bool.and_eq_true, decide_eq_true_eq] at di; omega
  have hn0 := new_low r dr dc
  have hsl := slot_of r dr dc
  have DQ := Lib.hid dq
  clear dp dr dc di dq
  rw [hd] at G1' G2
  have HD := Lib.hid hd
  clear hd
  go_wp2_with fail
  refine (ltPage_any l2 l1 o2 o1 us2 us1 a2 a1 n2 n1 c2 c1 w6.heap.size _ G2.out.len G1'.out.len (Nat.le_refl _) G2.out.ints G1'.out.ints (by omega) (by omega)).mono ?_
  rintro e w7 ⟨rfl, b7⟩
  rw [HS.out]
  have V7 := Lib.hid (V6.out.below b7 nx)
  have G7 := Lib.hid (G2.out.below b7)
  have L7 := Lib.hid (L6.out.below b7)
  have nx7 : xb < w7.heap.size := V7.out.lt
  have np7 : pb + 1 < w7.heap.size := L7.out.lt
  have np7' : pb < w7.heap.size := by omega
  have fit2 := G7.out.fit
  clear b7 p0 p1 p2 q0 q1 q2 G1' G2 V6 W6 L6 nx nw np m3 m4 m5 m6 HS sm1 nl n3 n3'
  obtain ⟨y1, y2, y3, y4, g2, q2, y5, hg2, hrd2, hwr2⟩ := G7.out.yes rfl
  have Y1 := Lib.hid y1
  have Y2 := Lib.hid y2
  have Y3 := Lib.hid y3
  have Y4 := Lib.hid y4
  have Y5 := Lib.hid y5
  have bl : (l2 != lsn) = false := by simpa using y1
  have bp : decide (lsn ≤ l) = false := by simpa using dl
  have HP : Hid (okP l2 o2 us2 = true) := by show okP l2 o2 us2 = true; rw [y1, y2, y3]; exact DQ.out
  clear y1 y2 y3 y4 y5 hg2 hrd2 hwr2
  obtain ⟨p0, p1, p2⟩ := V7.out.three
  obtain ⟨d0, d1, d2⟩ := L7.out.page.three
  obtain ⟨c0, c1', c2', c3, c4, c5, c6, c7⟩ := eight L7.out.rcd
  go_wp2_with fail
  refine (pageOk_len l2 o2 us2 a2 n2 c2 w7.heap.size _ G7.out.len (Nat.le_refl _) G7.out.ints fit2).mono ?_
  rintro e w8 ⟨rfl, k8⟩
  rw [HP.out]
  clear p0 p1 p2 d0 d1 d2 c0 c1' c2' c3 c4 c5 c6 c7 bl bp
  have V8 := Lib.hid (V7.out.below k8 nx7)
  have G8 := Lib.hid (G7.out.below k8)
  have L8 := Lib.hid (L7.out.below k8)
  have nx8 : xb < w8.heap.size := V8.out.lt
  have np8 : pb + 1 < w8.heap.size := L8.out.lt
  have np8' : pb < w8.heap.size := by omega
  clear k8 V7 G7 L7 nx7 np7 np7'
  obtain ⟨p0, p1, p2⟩ := V8.out.three
  obtain ⟨d0, d1, d2⟩ := L8.out.page.three
  obtain ⟨c0, c1', c2', c3, c4, c5, c6, c7⟩ := eight L8.out.rcd
  by_cases hs : r.s < 0
  · have bs : decide (r.s < 0) = true := by simpa using hs
    have bo : (o2 == r.n) = true := by rw [Y2.out]; unfold oW; rw [if_pos (by omega)]; simp
    by_cases hn : r.n = 0
    · have bn : (r.n == 0) = true := by simpa using hn
      have HZ : Hid ((okP l2 o2 us2 && zerosB us2) = true) := by
        show (okP l2 o2 us2 && zerosB us2) = true
        rw [HP.out, Y3.out]
        simp [newZ, sW, zerosB, hn, show r.s = -1 by omega]
      clear hs hn
      go_wp2_with fail
      refine (pageEmpty_len l2 o2 us2 a2 n2 c2 w8.heap.size _ G8.out.len (Nat.le_refl _) G8.out.ints fit2).mono ?_
      rintro e w9 ⟨rfl, k9⟩
      rw [HZ.out]
      have K := Lib.hid (L8.out.below k9).kept
      clear p0 p1 p2 d0 d1 d2 c0 c1' c2' c3 c4 c5 c6 c7 k9 V8 G8 L8
      go_wp2
      go_ret
      exact ⟨rfl, K.out⟩
    · have bn : (r.n == 0) = false := by simpa using hn
      have bm : decide (0 < r.n) = true := by simp; omega
      have HZ : Hid ((us2 == [x, y, z]) = true) := by
        show (us2 == [x, y, z]) = true
        rw [Y3.out]
        simp [newZ, sW, hn, show r.s = -1 by omega]
      clear hs hn
      go_wp2_with fail
      refine (ltInts_len us2 [x, y, z] a2 (some ⟨g, q, none⟩) n2 3 c2 c w8.heap.size _ G8.out.len rfl G8.out.ints L8.out.ints (by omega) (by omega)).mono ?_
      rintro e w9 ⟨rfl, m9, rfl⟩
      rw [HZ.out]
      have K := Lib.hid (L8.out.drewN m9).kept
      clear p0 p1 p2 d0 d1 d2 c0 c1' c2' c3 c4 c5 c6 c7 V8 G8 L8
      go_wp2
      go_ret
      exact ⟨rfl, K.out⟩
  have bs : decide (r.s < 0) = false := by simpa using hs
  obtain ⟨k, hk⟩ := Int.eq_ofNat_of_zero_le (show 0 ≤ r.s by omega)
  have hk3 : k < 3 := by omega
  have HU : Hid (us2 = [x, y, z].set k r.n) := by
    show us2 = [x, y, z].set k r.n
    rw [Y3.out, ← set_three x y z r.n k hk3, newZ, hk]
    rfl
  have HO : Hid (o2 = o) := by show o2 = o; rw [Y2.out]; unfold oW; rw [if_neg (by omega)]
  have HK := Lib.hid hk
  clear hs hk
  obtain rfl := Y4.out
  obtain rfl := Y5.out
  obtain ⟨-, -, -, -, g2', q2', y5, hg2, hrd8, hwr8⟩ := G8.out.yes rfl
  obtain ⟨rfl, rfl⟩ : g2 = g2' ∧ q2 = q2' := by
    injection y5 with y5
    injection y5 with h1 h2
    exact ⟨h1, h2⟩
  rw [← Y3.out] at hrd8
  have hE : Has ((w8.alloc (.cells #[.int .i64 l2, .int .i64 o2, .slice (some ⟨g2, q2, none⟩) 3 c2] 30)).alloc (.cells #[] 3)) (w8.heap.size + 1) 3 #[] := by
    have := Has.new (w8.alloc (.cells #[.int .i64 l2, .int .i64 o2, .slice (some ⟨g2, q2, none⟩) 3 c2] 30)) 3 #[]
    simpa only [World.size_alloc] using this
  have hY : Has ((w8.alloc (.cells #[.int .i64 l2, .int .i64 o2, .slice (some ⟨g2, q2, none⟩) 3 c2] 30)).alloc (.cells #[] 3)) w8.heap.size 30 #[.int .i64 l2, .int .i64 o2, .slice (some ⟨g2, q2, none⟩) 3 c2] := (Has.new w8 _ _).alloc _
  have hW : Below w8.heap.size w8 ((w8.alloc (.cells #[.int .i64 l2, .int .i64 o2, .slice (some ⟨g2, q2, none⟩) 3 c2] 30)).alloc (.cells #[] 3)) := below_two _ _ _
  have hlen : us2.length = 3 := G8.out.len
  have HL := Lib.hid hlen
  have HE := Lib.hid hE
  have HY := Lib.hid hY
  have HW := Lib.hid hW
  have R8 := Lib.hid hrd8
  have n8 := hwr8.1
  clear hE hY hW hlen hrd8 hwr8 y5 hg2
  go_upto_region 14 with ((at_builtin; refine wp_append_copy _ rfl (.tmp 100) (.tmp 102) rfl (w8.heap.size + 1) rfl HE.out us2 w8.heap.size _ 3 c2 HL.out.symm rfl (G8.out.ints.below HW.out) (by rw [HL.out]; omega) (by rw [HL.out]; omega) ?_; intro g5 cap5 w9 cp; have gY := HY.out.grown cp.grown (fun e => by injection e; omega); obtain ⟨v0, v1, v2⟩ := gY.three; have fv := gY.frozen 2; have kb := HW.out.trans (below_grown cp.grown (show w8.heap.size ≤ w8.heap.size + 1 by omega) (by simp; omega)); have lcp := cp.low; have ycp : Hid (Has (w9.setCell ⟨w8.heap.size, 2, none⟩ (.slice (some ⟨g5, 0, none⟩) 3 cap5)) w8.heap.size 30 #[.int .i64 l2, .int .i64 o2, .slice (some ⟨g5, 0, none⟩) 3 cap5]) := gY.set 2 _; have kb9 := Lib.hid (kb.setCell (p := ⟨w8.heap.size, 2, none⟩) (Nat.le_refl _) (.slice (some ⟨g5, 0, none⟩) 3 cap5)); have rd9 : Hid (Rd .i64 (w9.setCell ⟨w8.heap.size, 2, none⟩ (.slice (some ⟨g5, 0, none⟩) 3 cap5)) g5 0 us2) := cp.rd.keep (Below.heap_setCell _ _ _ _ (by simp; omega)); have wr9 := Lib.hid (cp.wr.set ⟨w8.heap.size, 2, none⟩ (.slice (some ⟨g5, 0, none⟩) 3 cap5)); have cf := cp.fit; clear gY kb cp))
  have V9 := Lib.hid (V8.out.below kb9.out nx8)
  have L9 := Lib.hid (L8.out.below kb9.out)
  have R9 := Lib.hid (R8.out.below kb9.out n8)
  clear V8 L8 R8 G8 HE HY HW kb9 v0 v1 v2 fv p0 p1 p2 d0 d1 d2 c0 c1' c2' c3 c4 c5 c6 c7
  generalize (w9.setCell ⟨w8.heap.size, 2, none⟩ (.slice (some ⟨g5, 0, none⟩) 3 cap5)) = w10 at *
  generalize w8.heap.size = yb at *
  have hcap : 3 ≤ cap5 := by have := HL.out; omega
  obtain ⟨a0, a1', a2'⟩ := ycp.out.three
  obtain ⟨d0, d1, d2⟩ := L9.out.page.three
  obtain ⟨c0, c1', c2', c3, c4, c5, c6, c7⟩ := eight L9.out.rcd
  rw [HK.out] at c3
  have z0 := L9.out.rd k (by simp; omega)
  have e0 := rd9.out k (by rw [HL.out]; omega)
  have e1 := wr9.out.2 k (by rw [HL.out]; omega)
  rw [Nat.zero_add] at e0 e1
  have kl : (k : Int) < 3 := by omega
  have k0 : (0 : Int) ≤ (k : Int) := by omega
  have no5 := L9.out.ord
  generalize hv : [x, y, z].getD k 0 = v at z0
  have HV := Lib.hid hv
  clear hv
  have ny : yb < w10.heap.size := ycp.out.lt
  go_wp2_with fail
  go_region_held3 (fun w' => w'.cell? ⟨yb, 2, none⟩ = some (.slice (some ⟨g5, 0, none⟩) 3 cap5) ∧ w'.cell? ⟨pb + 1, 3, none⟩ = some (.int .i64 (k : Int)) ∧ w'.cell? ⟨pb, 2, none⟩ = some (.slice (some ⟨g, q, none⟩) 3 c) ∧ w'.cell? ⟨g, q + k, none⟩ = some (.int .i64 v)) (first | (with_reducible exact ⟨a2', c3, d2, z0⟩) | exact ⟨(World.cell?_setCell_other _ _ _ _ (fun e => by injection e; omega)).trans a2', (World.cell?_setCell_other _ _ _ _ (fun e => by injection e; omega)).trans c3, (World.cell?_setCell_other _ _ _ _ (fun e => by injection e; omega)).trans d2, (World.cell?_setCell_other _ _ _ _ (fun e => by injection e; omega)).trans z0⟩ | go_keep)
    (fail)
  have X11 := Lib.hid (V9.out.far (p := ⟨g5, k, none⟩) (by simp; omega) (.int .i64 v)).drew
  have Y11 := Lib.hid (ycp.out.far (p := ⟨g5, k, none⟩) (by simp; omega) (.int .i64 v)).drew
  have N11 : Hid (Rd .i64 (w10.setCell ⟨g5, k, none⟩ (.int .i64 v)).drew g5 0 (us2.set k v)) := by
    have := Rd_set (w := w10) rd9.out k v (by rw [HL.out]; omega)
    rw [Nat.zero_add] at this
    exact this.drew
  have M11 : Hid (Rd .i64 (w10.setCell ⟨g5, k, none⟩ (.int .i64 v)).drew g2 q2 us2) := (R9.out.keep (Below.heap_setCell _ _ _ _ (by simp; omega))).drew
  have n5 : g5 < w10.heap.size := wr9.out.1
  have L10 : LS w (w10.setCell ⟨g5, k, none⟩ (.int .i64 v)) pb l o [x, y, z] g q c r := by
    have hp := L9.out.ord
    exact ⟨L9.out.page.far (by simp; omega) _, L9.out.rcd.far (by simp; omega) _, L9.out.rd.keep (Below.heap_setCell _ _ _ _ (by simp; omega)), L9.out.ord, L9.out.kept.setCell (by simp; omega) _⟩
  have L11 := Lib.hid L10.drew
  have ns : (w10.setCell ⟨g5, k, none⟩ (.int .i64 v)).drew.heap.size = w10.heap.size := by simp
  clear L10
  clear a0 a1' a2' d0 d1 d2 c0 c1' c2' c3 c4 c5 c6 c7 z0 e0 e1 V9 L9 R9 ycp rd9 wr9
  generalize (w10.setCell ⟨g5, k, none⟩ (.int .i64 v)).drew = w11 at *
  have HB : Hid (((o2 == o) && (us2.set k v == [x, y, z])) = true) := by
    show ((o2 == o) && (us2.set k v == [x, y, z])) = true
    rw [HO.out, HU.out, ← HV.out, set_back x y z r.n k hk3]
    simp
  have HN : Hid (us2.getD k 0 = r.n) := by show us2.getD k 0 = r.n; rw [HU.out]; exact set_at x y z r.n k hk3
  obtain ⟨p0, p1, p2⟩ := X11.out.three
  obtain ⟨a0, a1', a2'⟩ := Y11.out.three
  obtain ⟨d0, d1, d2⟩ := L11.out.page.three
  obtain ⟨c0, c1', c2', c3, c4, c5, c6, c7⟩ := eight L11.out.rcd
  rw [HK.out] at c3
  have z0 := M11.out k (by rw [HL.out]; omega)
  rw [HN.out] at z0
  have HLs : Hid ((us2.set k v).length = 3) := by show (us2.set k v).length = 3; rw [List.length_set]; exact HL.out
  have n11 : g5 < w11.heap.size := by omega
  have I11 : Hid (Ints .i64 w11.drew w11.drew.heap.size (some ⟨g5, 0, none⟩) (us2.set k v)) := N11.out.drew.ints n11
  go_wp2_with fail
  go_region_held3 (fun w' => (w'.cell? ⟨xb, 2, none⟩ = some (.slice (some ⟨g2, q2, none⟩) 3 c2) ∧ w'.cell? ⟨pb + 1, 3, none⟩ = some (.int .i64 (k : Int)) ∧ w'.cell? ⟨g2, q2 + k, none⟩ = some (.int .i64 r.n) ∧ w'.cell? ⟨pb + 1, 5, none⟩ = some (.int .i64 r.n)) ∧ (w'.cell? ⟨yb, 0, none⟩ = some (.int .i64 l2) ∧ w'.cell? ⟨yb, 1, none⟩ = some (.int .i64 o2) ∧ w'.cell? ⟨yb, 2, none⟩ = some (.slice (some ⟨g5, 0, none⟩) 3 cap5)) ∧ (w'.cell? ⟨pb, 0, none⟩ = some (.int .i64 l) ∧ w'.cell? ⟨pb, 1, none⟩ = some (.int .i64 o) ∧ w'.cell? ⟨pb, 2, none⟩ = some (.slice (some ⟨g, q, none⟩) 3 c))) (first | (with_reducible exact ⟨⟨p2, c3, z0, c5⟩, ⟨a0, a1', a2'⟩, ⟨d0, d1, d2⟩⟩) | exact ⟨⟨P2, C3, Z0, C5⟩, ⟨A0, A1, A2⟩, ⟨D0, D1, D2⟩⟩ | go_keep)
    ((go_at_call 21; (with_reducible refine (ltHas_len l2 l o2 o (us2.set k v) [x, y, z] (some ⟨g5, 0, none⟩) (some ⟨g, q, none⟩) 3 3 cap5 c w11.drew.heap.size w11.drew HLs.out rfl (Nat.le_refl _) I11.out L11.out.drew.ints (by omega) (by omega)).mono ?_); rintro e w12 ⟨rfl, b12⟩; rw [HB.out]; have K := Lib.hid (L11.out.drew.below b12); have Z0 := (b12.cell (p := ⟨g2, q2 + k, none⟩) (by simp; omega)).trans z0; have P2 := (X11.out.drew.below b12 X11.out.drew.lt).three.2.2; obtain ⟨A0, A1, A2⟩ := (Y11.out.drew.below b12 Y11.out.drew.lt).three; obtain ⟨D0, D1, D2⟩ := K.out.page.three; obtain ⟨C0, C1, C2, C3, C4, C5, C6, C7⟩ := eight K.out.rcd; rw [HK.out] at C3; clear b12))
  have KK := Lib.hid K.out.kept
  clear K X11 Y11 N11 M11 L11 p0 p1 p2 a0 a1' a2' d0 d1 d2 c0 c1' c2' c3 c4 c5 c6 c7 z0
  go_wp2
  go_ret
  exact ⟨rfl, KK.out⟩

theorem own : ownKnob Try.prog.godebug = none := by kernel_rfl
theorem laidOut : laidOutB Try.prog = true := by kernel_rfl

set_option maxRecDepth 100000 in
theorem lifted (os : Os) (started : os.Started) (H : Type) (enc : TypeId × Value → H) :
    ReturnsInHanded {} Try.checked os 4 .any (Rows.fnRecDoSpec.pre6 enc Try.prog Try.f4 Rows.fnRecDoRow.domain false) (Rows.fnRecDoSpec.post enc Try.prog Try.f4 false true false false) := by
  refine returnsInHanded_of_change (C := Try.checked) own started (by kernel_rfl) Try.func4
    (ChangeSpec.witness6 (enc := enc) (C := Try.checked) false ⟨#[], #[.slice none 0 0], []⟩ 8 (by kernel_rfl) (by kernel_rfl) (by kernel_rfl) (by kernel_rfl)) ?_
  intro W base args ds gs before hval0 hW hcnd _
  have hval : ∀ (j : Nat) t v, Try.f4.params[j]? = some t → args[j]? = some v → Value.okWide Try.prog W .any base t v := hval0
  have hW' := hW
  obtain ⟨p, q, hA0, hV, rfl, hfz, hnd⟩ := hW
  have hA : DataW.TrodAll enc Try.prog W 0 (fun _ => true) true Try.f4.params.toList args.toList ds p := hA0
  rw [Try.params4] at hA hval
  obtain ⟨v0, vs0, d0, ds0, p0, q0, hargs, rfl, rfl, h0, r0⟩ := trodAll_cons hA
  obtain ⟨rfl, rfl, rfl⟩ := trodAll_nil r0
  obtain rfl : args = #[v0] := by cases args; simp_all
  obtain ⟨rfl, rfl⟩ := trodVars_none hV
  have k0 := h0
  have lt0 : ∀ x ∈ p0, x.block < W.heap.size := by obtain ⟨m, hm⟩ := k0; exact DataW.trod_lt m _ _ _ hm
  obtain ⟨a, cs, cap, rfl, hc⟩ := openBytes Try.underlying22 Try.underlying5 (by kernel_rfl) (hval 0 22 v0 rfl rfl) h0
  clear hA0 hval0
  refine (walk a cs cap W hc).mono fun e W' ⟨he, bel⟩ => ?_
  subst he
  exact ⟨_, rfl, _, _, _, [], _, [], hW', trodAll_mk1 (shut_bool Try.underlying4 _), (trodAll_cons_mk (Below.trod laidOut (by kernel_rfl) (of_decide_eq_true (by kernel_rfl)) k0 bel lt0) trodAll_mk0), rfl, bel.frame _, fun h => by cases h⟩

theorem proved : Rows.FnRecDoSaid :=
  OpenClaim.holds_of_wide 4 Try.f4 rfl rfl rfl rfl rfl rfl rfl ⟨rfl, rfl, rfl, rfl, rfl⟩ rfl rfl rfl rfl rfl (by kernel_rfl) Try.func4 (by kernel_rfl)
    (of_decide_eq_true (by kernel_rfl)) (by unfold Func.isWrapper; first | (rw [if_pos (by decide +kernel)]; kernel_rfl) | (rw [if_neg (by decide +kernel)]; exact ⟨rfl, rfl⟩))
    (fun os started H enc _ => lifted os started H enc)
#print axioms proved
end Go.Proofs.Ytloglnekjhgfgaa.FnRecDo
