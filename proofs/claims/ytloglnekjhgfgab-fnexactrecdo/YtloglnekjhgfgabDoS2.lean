/-
  Contract of the model's RecDo. Conditions: the page's slots lead to numbers.
-/
import Derived.Test.YtloglnekjhgfgabDoS
namespace Go.Proofs.Ytloglnekjhgfgab.Base
open Go.RowKit

theorem slot_of (r : R) (hk : okR r = true) (hc : chg r.k = true) : -1 ≤ r.s ∧ r.s ≤ 2 := by
  have hf : formB r = true := by
    cases h : formB r
    · rw [okR, h, Bool.and_false] at hk
      cases hk
    · rfl
  have ho : ofB r = true := by
    simp only [chg, Bool.or_eq_true, beq_iff_eq] at hc
    unfold formB at hf
    rcases hc with h | h | h <;> simp [h] at hf <;> exact hf.1
  simp only [ofB, inB, Bool.and_eq_true, decide_eq_true_eq] at ho
  omega

theorem specPageOk_len (l o : Int) (zs : List Int) (a : Option Addr) (n cap B : Nat) (w : World) (hn : zs.length = n) (hB : B ≤ w.heap.size) (hz : Ints .i64 w B a zs) (mx : zs.length ≤ 1000000000) :
    Calls Try.prog 17 #[pageV l o a n cap] w (Keeps (.bool (okP l o zs)) w) := by
  subst hn
  exact specPageOk_any l o zs a cap B w hB hz mx
theorem okP_lsn (l o : Int) (zs : List Int) (h : okP l o zs = true) : 0 ≤ l ∧ l ≤ 150 := by
  simp only [okP, okF, inB, Bool.and_eq_true, decide_eq_true_eq] at h
  omega

set_option maxHeartbeats 4000000 in
theorem specRecDo_any (l o : Int) (zs : List Int) (a : Option Addr) (cap B : Nat) (r : R) (lsn : Int) (w : World) (hB : B ≤ w.heap.size) (hz : Ints .i64 w B a zs) (mx : zs.length ≤ 1000000000) :
    Calls Try.prog 6 #[pageV l o a zs.length cap, recV r, .int .i64 lsn] w (DoP (doB l o zs r lsn) lsn (oW r.s r.n o) (newZ r zs) w) := by
  have Hz := Lib.hid hz
  clear hz
  have P0 : Hid (Has (((w.alloc (.cells #[.int .i64 l, .int .i64 o, .slice a zs.length cap] 28)).alloc (.cells #[.int .i64 r.k, .int .i64 r.t, .int .i64 r.p, .int .i64 r.s, .int .i64 r.o, .int .i64 r.n, .int .i64 r.v, .int .i64 r.x] 32)).alloc (.cells #[.int .i64 0, .int .i64 0, .slice none 0 0] 28)) w.heap.size 28 #[.int .i64 l, .int .i64 o, .slice a zs.length cap]) := ((Has.new w _ _).alloc _).alloc _
  have q0 := (Has.new (w.alloc (.cells #[.int .i64 l, .int .i64 o, .slice a zs.length cap] 28)) 32 #[.int .i64 r.k, .int .i64 r.t, .int .i64 r.p, .int .i64 r.s, .int .i64 r.o, .int .i64 r.n, .int .i64 r.v, .int .i64 r.x]).alloc (.cells #[.int .i64 0, .int .i64 0, .slice none 0 0] 28)
  have r0 := Has.new ((w.alloc (.cells #[.int .i64 l, .int .i64 o, .slice a zs.length cap] 28)).alloc (.cells #[.int .i64 r.k, .int .i64 r.t, .int .i64 r.p, .int .i64 r.s, .int .i64 r.o, .int .i64 r.n, .int .i64 r.v, .int .i64 r.x] 32)) 28 #[.int .i64 0, .int .i64 0, .slice none 0 0]
  have B0 : Hid (Below w.heap.size w (((w.alloc (.cells #[.int .i64 l, .int .i64 o, .slice a zs.length cap] 28)).alloc (.cells #[.int .i64 r.k, .int .i64 r.t, .int .i64 r.p, .int .i64 r.s, .int .i64 r.o, .int .i64 r.n, .int .i64 r.v, .int .i64 r.x] 32)).alloc (.cells #[.int .i64 0, .int .i64 0, .slice none 0 0] 28))) := ((below_one _ _).alloc (by simp) _).alloc (by simp; omega) _
  simp only [World.size_alloc] at q0 r0
  have Q0 := Lib.hid q0
  have R0 := Lib.hid r0
  clear q0 r0
  have n0 : (((w.alloc (.cells #[.int .i64 l, .int .i64 o, .slice a zs.length cap] 28)).alloc (.cells #[.int .i64 r.k, .int .i64 r.t, .int .i64 r.p, .int .i64 r.s, .int .i64 r.o, .int .i64 r.n, .int .i64 r.v, .int .i64 r.x] 32)).alloc (.cells #[.int .i64 0, .int .i64 0, .slice none 0 0] 28)).heap.size = w.heap.size + 1 + 1 + 1 := by simp
  have N0 := Lib.hid n0
  clear n0
  go_enter Try.func6, Try.ntmps6
  go_wp2_with fail
  refine (specPageOk_any l o zs a cap B _ (by simp; omega) (Hz.out.below (B0.out.mono hB)) mx).mono ?_
  rintro e w1 ⟨rfl, nb⟩
  rw [N0.out] at nb
  have p1 := P0.out.below nb (by omega)
  have q1 := Q0.out.below nb (by omega)
  have r1 := R0.out.below nb (by omega)
  have b1 := B0.out.trans (nb.mono (by omega))
  have n1 : w.heap.size + 1 + 1 < w1.heap.size := r1.lt
  clear nb P0 Q0 R0 B0 N0
  cases hp : okP l o zs
  · have HB : Hid (doB l o zs r lsn = false) := by show doB l o zs r lsn = false; simp [doB, hp]
    clear hp
    obtain ⟨d0, d1, d2⟩ := r1.three
    have t0 := r1.frozen 0
    have t1 := r1.frozen 1
    have t2 := r1.frozen 2
    have BB := Lib.hid b1
    clear p1 q1 r1 b1
    go_wp2
    refine bodyPost_ret (v := .tuple #[pageV 0 0 none 0 0, .bool false]) (by simp [results, Try.results6, go_sem, d0, d1, d2]) rfl ⟨put3_below BB.out (by omega) _ _ _, fun _ => rfl, fun h => absurd h (by rw [HB.out]; simp)⟩
  have HP := Lib.hid hp
  have hl := (okP_lsn l o zs hp)
  clear hp
  obtain ⟨a0, a1, a2⟩ := p1.three
  obtain ⟨c0, c1, c2, c3, c4, c5, c6, c7⟩ := eight q1
  have P1 := Lib.hid p1
  have Q1 := Lib.hid q1
  have R1 := Lib.hid r1
  have B1 := Lib.hid b1
  clear p1 q1 r1 b1
  go_wp2_with fail
  refine (specRecOk_any r _).mono ?_
  rintro e w2 ⟨rfl, nb⟩
  have p2 := P1.out.below nb (by omega)
  have q2 := Q1.out.below nb (by omega)
  have r2 := R1.out.below nb (by omega)
  have b2 := B1.out.trans (nb.mono (by omega))
  have n2 : w.heap.size + 1 + 1 < w2.heap.size := r2.lt
  clear nb P1 Q1 R1 B1
  clear a0 a1 a2 c0 c1 c2 c3 c4 c5 c6 c7
  cases hr : okR r
  · have HB : Hid (doB l o zs r lsn = false) := by show doB l o zs r lsn = false; simp [doB, hr]
    clear hr
    obtain ⟨d0, d1, d2⟩ := r2.three
    have t0 := r2.frozen 0
    have t1 := r2.frozen 1
    have t2 := r2.frozen 2
    have BB := Lib.hid b2
    clear p2 q2 r2 b2
    go_wp2
    refine bodyPost_ret (v := .tuple #[pageV 0 0 none 0 0, .bool false]) (by simp [results, Try.results6, go_sem, d0, d1, d2]) rfl ⟨put3_below BB.out (by omega) _ _ _, fun _ => rfl, fun h => absurd h (by rw [HB.out]; simp)⟩
  have HR := Lib.hid hr
  clear hr
  obtain ⟨a0, a1, a2⟩ := p2.three
  obtain ⟨c0, c1, c2, c3, c4, c5, c6, c7⟩ := eight q2
  have P2 := Lib.hid p2
  have Q2 := Lib.hid q2
  have R2 := Lib.hid r2
  have B2 := Lib.hid b2
  clear p2 q2 r2 b2
  go_wp2_with fail
  refine (l2Changes_any r.k _).mono ?_
  rintro e w3 ⟨rfl, rfl⟩
  cases hc : chg r.k
  · have HB : Hid (doB l o zs r lsn = false) := by show doB l o zs r lsn = false; simp [doB, hc]
    clear hc a0 a1 a2 c0 c1 c2 c3 c4 c5 c6 c7
    have p2 := P2.out
    have q2 := Q2.out
    have r2 := R2.out
    have b2 := B2.out
    obtain ⟨d0, d1, d2⟩ := r2.three
    have t0 := r2.frozen 0
    have t1 := r2.frozen 1
    have t2 := r2.frozen 2
    have BB := Lib.hid b2
    clear p2 q2 r2 b2
    go_wp2
    refine bodyPost_ret (v := .tuple #[pageV 0 0 none 0 0, .bool false]) (by simp [results, Try.results6, go_sem, d0, d1, d2]) rfl ⟨put3_below BB.out (by omega) _ _ _, fun _ => rfl, fun h => absurd h (by rw [HB.out]; simp)⟩
  have HC := Lib.hid hc
  clear hc
  have hw : IntKind.i64.wrap (l + 1) = l + 1 := IntWalk.i64_in _ (by omega)
  go_wp2_with fail
  refine (l6In_any lsn (l + 1) 150 _).mono ?_
  rintro e w3 ⟨rfl, rfl⟩
  clear hw
  cases hi : inB lsn (l + 1) 150
  · have HB : Hid (doB l o zs r lsn = false) := by show doB l o zs r lsn = false; simp [doB, hi]
    clear hi a0 a1 a2 c0 c1 c2 c3 c4 c5 c6 c7
    have p2 := P2.out
    have q2 := Q2.out
    have r2 := R2.out
    have b2 := B2.out
    obtain ⟨d0, d1, d2⟩ := r2.three
    have t0 := r2.frozen 0
    have t1 := r2.frozen 1
    have t2 := r2.frozen 2
    have BB := Lib.hid b2
    clear p2 q2 r2 b2
    go_wp2
    refine bodyPost_ret (v := .tuple #[pageV 0 0 none 0 0, .bool false]) (by simp [results, Try.results6, go_sem, d0, d1, d2]) rfl ⟨put3_below BB.out (by omega) _ _ _, fun _ => rfl, fun h => absurd h (by rw [HB.out]; simp)⟩
  have HI := Lib.hid hi
  clear hi
  obtain ⟨x, y, z, rfl⟩ := ok_three HP.out
  have hs := slot_of r HR.out HC.out
  go_wp2_with fail
  refine (l2Do_any l o x y z a cap B r lsn _ (by omega) (Hz.out.below (B2.out.mono hB)) hs.1 hs.2).mono ?_
  rintro e w4 ⟨nb, g, q, c, rfl, hg, hrd, hwr, hcp⟩
  have p4 := P2.out.below nb (by omega)
  have q4 := Q2.out.below nb (by omega)
  have r4 := R2.out.below nb (by omega)
  have b4 := B2.out.trans (nb.mono (by omega))
  have n4 : w.heap.size + 1 + 1 < w4.heap.size := r4.lt
  clear nb P2 Q2 R2 B2
  clear a0 a1 a2 c0 c1 c2 c3 c4 c5 c6 c7 p4 q4
  have ng := hwr.1
  have HD : Hid (doB l o [x, y, z] r lsn = okP lsn (oW r.s r.n o) (newZ r [x, y, z])) := by
    show doB l o [x, y, z] r lsn = okP lsn (oW r.s r.n o) (newZ r [x, y, z])
    rw [doB, HP.out, HR.out, HC.out, HI.out]
    rfl
  have hlen : (newZ r [x, y, z]).length = 3 := rfl
  generalize newZ r [x, y, z] = us at *
  generalize oW r.s r.n o = o' at *
  have X5 := Lib.hid (Has.new w4 28 #[.int .i64 lsn, .int .i64 o', .slice (some ⟨g, q, none⟩) 3 c])
  have R5 := Lib.hid (r4.alloc (.cells #[.int .i64 lsn, .int .i64 o', .slice (some ⟨g, q, none⟩) 3 c] 28))
  have B5 := Lib.hid (b4.alloc (by omega) (.cells #[.int .i64 lsn, .int .i64 o', .slice (some ⟨g, q, none⟩) 3 c] 28))
  have D5 := Lib.hid (hrd.below (below_one w4 (.cells #[.int .i64 lsn, .int .i64 o', .slice (some ⟨g, q, none⟩) 3 c] 28)) ng)
  have E5 := Lib.hid (hwr.below (below_one w4 (.cells #[.int .i64 lsn, .int .i64 o', .slice (some ⟨g, q, none⟩) 3 c] 28)) ng)
  have HL := Lib.hid hlen
  clear r4 b4 hrd hwr hlen
  go_wp2_with fail
  have m5 : (w4.alloc (.cells #[.int .i64 lsn, .int .i64 o', .slice (some ⟨g, q, none⟩) 3 c] 28)).heap.size = w4.heap.size + 1 := by simp
  generalize (w4.alloc (.cells #[.int .i64 lsn, .int .i64 o', .slice (some ⟨g, q, none⟩) 3 c] 28)) = w5 at *
  refine (specPageOk_len lsn o' us (some ⟨g, q, none⟩) 3 c w5.heap.size _ HL.out (Nat.le_refl _) (D5.out.ints (by omega)) (by rw [HL.out]; omega)).mono ?_
  rintro e w6 ⟨rfl, nb⟩
  have x6 := X5.out.below nb (by omega)
  have r6 := R5.out.below nb (by omega)
  have B6 := Lib.hid (B5.out.trans (nb.mono (by omega)))
  have D6 := Lib.hid (D5.out.below nb (by omega))
  have E6 := Lib.hid (E5.out.below nb (by omega))
  have n6 : w4.heap.size < w6.heap.size := x6.lt
  clear nb X5 R5 B5 D5 E5 m5
  obtain ⟨c0, c1, c2⟩ := x6.three
  obtain ⟨d0, d1, d2⟩ := r6.three
  have t0 := r6.frozen 0
  have t1 := r6.frozen 1
  have t2 := r6.frozen 2
  clear x6 r6
  cases hk : okP lsn o' us
  · have HB : Hid (doB l o [x, y, z] r lsn = false) := by show doB l o [x, y, z] r lsn = false; rw [HD.out, hk]
    clear hk HD
    go_wp2
    refine bodyPost_ret (v := .tuple #[pageV 0 0 none 0 0, .bool false]) (by simp [results, Try.results6, go_sem, d0, d1, d2]) rfl ⟨put3_below B6.out (by omega) _ _ _, fun _ => rfl, fun h => absurd h (by rw [HB.out]; simp)⟩
  · have HB : Hid (doB l o [x, y, z] r lsn = true) := by show doB l o [x, y, z] r lsn = true; rw [HD.out, hk]
    clear hk HD
    go_wp2
    refine bodyPost_ret (v := .tuple #[pageV lsn o' (some ⟨g, q, none⟩) 3 c, .bool true]) (by simp [results, Try.results6, go_sem, d0, d1, d2]) rfl ⟨put3_below B6.out (by omega) _ _ _, fun h => absurd h (by rw [HB.out]; simp), fun _ => ⟨g, q, c, rfl, by omega, put3_rd D6.out (by omega) _ _ _, put3_wr E6.out _ _ _, hcp⟩⟩

end Go.Proofs.Ytloglnekjhgfgab.Base
