/-
  Contract of the program's RecDo. Conditions: the page's slots lead to numbers.
-/
import Derived.Test.YtcahmiklcjlkmaaServe
import Derived.Test.YtcahmiklcjlkmaaDoMath
import Derived.Deep.CutBlock
namespace Go.Proofs.Ytcahmiklcjlkmaa.Base
open Go.RowKit

theorem doB_aft (l o x y z : Int) (r : R) (lsn : Int) (hp : okP l o [x, y, z] = true) (hr : okR r = true) : doB l o [x, y, z] r lsn = (chg r.k && aftB l lsn r.s r.n o x y z) := by
  have h1 : okP lsn (oW r.s r.n o) (newZ r [x, y, z]) = okF lsn (oW r.s r.n o) (sW 0 r.s r.n x) (sW 1 r.s r.n y) (sW 2 r.s r.n z) := by simp [okP, newZ]
  have h2 : inB lsn (l + 1) 150 = (decide (l < lsn) && decide (lsn ≤ 150)) := by
    unfold inB
    rw [Bool.eq_iff_iff]
    simp
    omega
  rw [doB, hp, hr, h1, h2, aftB]
  simp [Bool.and_assoc]

set_option maxHeartbeats 4000000 in
theorem recDo_any (l o : Int) (zs : List Int) (a : Option Addr) (cap B : Nat) (r : R) (lsn : Int) (w : World) (hB : B ≤ w.heap.size) (hz : Ints .i64 w B a zs) (hc : zs.length ≤ cap) :
    Calls Try.prog 16 #[pageV l o a zs.length cap, recV r, .int .i64 lsn] w (DoP (doB l o zs r lsn) lsn (oW r.s r.n o) (newZ r zs) w) := by
  have Hz := Lib.hid hz
  clear hz
  go_enter Try.func16, Try.ntmps16
  go_wp2_with fail
  refine (frameOf_any l o zs a cap B _ (by simp; omega) (Hz.out.below ((((below_one _ _).alloc (by simp) _).alloc (by simp; omega) _).mono hB)) hc).mono ?_
  rintro e w1 ⟨rfl, b1⟩
  have q1 := ((Has.new (w.alloc (.cells #[.int .i64 l, .int .i64 o, .slice a zs.length cap] 34)) 24 #[.int .i64 r.k, .int .i64 r.t, .int .i64 r.p, .int .i64 r.s, .int .i64 r.o, .int .i64 r.n, .int .i64 r.v, .int .i64 r.x]).alloc (.cells #[.int .i64 0, .int .i64 0, .slice none 0 0] 34)).below b1 (by simp)
  have r1 := (Has.new ((w.alloc (.cells #[.int .i64 l, .int .i64 o, .slice a zs.length cap] 34)).alloc (.cells #[.int .i64 r.k, .int .i64 r.t, .int .i64 r.p, .int .i64 r.s, .int .i64 r.o, .int .i64 r.n, .int .i64 r.v, .int .i64 r.x] 24)) 34 #[.int .i64 0, .int .i64 0, .slice none 0 0]).below b1 (by simp)
  have B1 : Hid (Below w.heap.size w w1) := (((below_one _ _).alloc (by simp) _).alloc (by simp; omega) _).trans (b1.mono (by simp; omega))
  simp only [World.size_alloc] at q1 r1
  have n1 := r1.lt
  clear b1
  cases hp : okP l o zs
  · have HB : Hid (doB l o zs r lsn = false) := by show doB l o zs r lsn = false; simp [doB, hp]
    clear hp
    obtain ⟨c0, c1, c2, c3, c4, c5, c6, c7⟩ := eight q1
    have R1 := Lib.hid (r1.alloc (.cells #[.int .i64 0, .int .i64 0, .int .i64 0, .int .i64 0, .int .i64 0] 71))
    have B2 := Lib.hid (B1.out.alloc (by omega) (.cells #[.int .i64 0, .int .i64 0, .int .i64 0, .int .i64 0, .int .i64 0] 71))
    have m1 : w.heap.size + 1 < w1.heap.size := by omega
    clear q1 r1 B1
    go_wp2_with fail
    refine (entryOf_b r _).mono ?_
    rintro e w3 ⟨u, rfl, b3⟩
    have r3 := R1.out.below b3 (by simp; omega)
    have B3 := Lib.hid (B2.out.trans (b3.mono (by simp; omega)))
    obtain ⟨d0, d1, d2⟩ := r3.three
    have f0 := r3.frozen 0
    have f1 := r3.frozen 1
    have f2 := r3.frozen 2
    clear b3 r3 c0 c1 c2 c3 c4 c5 c6 c7 R1 B2
    go_wp2
    refine bodyPost_ret (v := .tuple #[pageV 0 0 none 0 0, .bool false]) (by simp [results, Try.results16, go_sem, d0, d1, d2]) rfl ⟨put3_below B3.out (by omega) _ _ _, fun _ => rfl, fun h => absurd h (by rw [HB.out]; simp)⟩
  · obtain ⟨x, y, z, rfl⟩ := ok_three hp
    cases hr : okR r
    · have HB : Hid (doB l o [x, y, z] r lsn = false) := by show doB l o [x, y, z] r lsn = false; simp [doB, hr]
      have E : Hid (∀ W, Calls Try.prog 38 #[recV r] W (EntB false W)) := fun W => by
        have := entryOf_b r W
        rwa [hr] at this
      clear hp hr
      obtain ⟨c0, c1, c2, c3, c4, c5, c6, c7⟩ := eight q1
      have R1 := Lib.hid (r1.alloc (.cells #[.int .i64 l, .int .i64 o, .int .i64 x, .int .i64 y, .int .i64 z] 71))
      have B2 := Lib.hid (B1.out.alloc (by omega) (.cells #[.int .i64 l, .int .i64 o, .int .i64 x, .int .i64 y, .int .i64 z] 71))
      have m1 : w.heap.size + 1 < w1.heap.size := by omega
      clear q1 r1 B1
      go_wp2_with fail
      refine (E.out _).mono ?_
      rintro e w3 ⟨u, rfl, b3⟩
      have r3 := R1.out.below b3 (by simp; omega)
      have B3 := Lib.hid (B2.out.trans (b3.mono (by simp; omega)))
      obtain ⟨d0, d1, d2⟩ := r3.three
      have f0 := r3.frozen 0
      have f1 := r3.frozen 1
      have f2 := r3.frozen 2
      clear b3 r3 c0 c1 c2 c3 c4 c5 c6 c7 R1 B2 E
      go_wp2
      refine bodyPost_ret (v := .tuple #[pageV 0 0 none 0 0, .bool false]) (by simp [results, Try.results16, go_sem, d0, d1, d2]) rfl ⟨put3_below B3.out (by omega) _ _ _, fun _ => rfl, fun h => absurd h (by rw [HB.out]; simp)⟩
    · obtain ⟨u, hu⟩ := serves r hr
      have U := Lib.hid hu
      have HD : Hid (doB l o [x, y, z] r lsn = (chg r.k && aftB l lsn r.s r.n o x y z)) := doB_aft l o x y z r lsn hp hr
      clear hp hr hu
      obtain ⟨c0, c1, c2, c3, c4, c5, c6, c7⟩ := eight q1
      have R1 := Lib.hid (r1.alloc (.cells #[.int .i64 l, .int .i64 o, .int .i64 x, .int .i64 y, .int .i64 z] 71))
      have F1 := Lib.hid (Has.new w1 71 #[.int .i64 l, .int .i64 o, .int .i64 x, .int .i64 y, .int .i64 z])
      have B2 := Lib.hid (B1.out.alloc (by omega) (.cells #[.int .i64 l, .int .i64 o, .int .i64 x, .int .i64 y, .int .i64 z] 71))
      have m1 : w.heap.size + 1 < w1.heap.size := by omega
      clear q1 r1 B1
      go_wp2_with fail
      refine (U.out.entry _).mono ?_
      rintro e w3 ⟨rfl, b3⟩
      have R3 := Lib.hid (R1.out.below b3 (by simp; omega))
      have f3 := F1.out.below b3 (by simp)
      have B3 := Lib.hid (B2.out.trans (b3.mono (by simp; omega)))
      have n3 : w1.heap.size < w3.heap.size := f3.lt
      obtain ⟨g0, g1, g2, g3, g4⟩ := f3.five
      have F3 := Lib.hid f3
      clear b3 f3 c0 c1 c2 c3 c4 c5 c6 c7 R1 B2 F1
      go_wp2_with fail
      refine (U.out.after l o x y z lsn _).mono ?_
      rintro e w4 ⟨rfl, b4⟩
      have r4 := R3.out.below b4 (by omega)
      have f4 := F3.out.below b4 (by omega)
      have B4 := Lib.hid (B3.out.trans (b4.mono (by omega)))
      have n4 : w1.heap.size < w4.heap.size := f4.lt
      clear b4 R3 F3 B3 g0 g1 g2 g3 g4 U
      obtain ⟨g0, g1, g2, g3, g4⟩ := f4.five
      have k0 := f4.frozen 0
      have k1 := f4.frozen 1
      have k2 := f4.frozen 2
      have k3 := f4.frozen 3
      have k4 := f4.frozen 4
      cases hd : chg r.k && aftB l lsn r.s r.n o x y z
      · have HB : Hid (doB l o [x, y, z] r lsn = false) := by show doB l o [x, y, z] r lsn = false; rw [HD.out, hd]
        clear hd HD
        have R5 := Lib.hid (put5_far r4 (show w.heap.size + 1 + 1 ≠ w1.heap.size by omega) 0 0 0 0 0)
        have B5 := Lib.hid (put5_below B4.out (show w.heap.size ≤ w1.heap.size by omega) 0 0 0 0 0)
        unfold put5 at R5 B5
        clear r4 f4 B4
        go_upto_region 7 with (fail)
        generalize ((((w4.setCell ⟨w1.heap.size, 0, none⟩ (.int .i64 0)).setCell ⟨w1.heap.size, 1, none⟩ (.int .i64 0)).setCell ⟨w1.heap.size, 2, none⟩ (.int .i64 0)).setCell ⟨w1.heap.size, 3, none⟩ (.int .i64 0)).setCell ⟨w1.heap.size, 4, none⟩ (.int .i64 0) = w5 at *
        clear g0 g1 g2 g3 g4 k0 k1 k2 k3 k4
        obtain ⟨d0, d1, d2⟩ := R5.out.three
        have t0 := R5.out.frozen 0
        have t1 := R5.out.frozen 1
        have t2 := R5.out.frozen 2
        go_wp2
        refine bodyPost_ret (v := .tuple #[pageV 0 0 none 0 0, .bool false]) (by simp [results, Try.results16, go_sem, d0, d1, d2]) rfl ⟨put3_below B5.out (by omega) _ _ _, fun _ => rfl, fun h => absurd h (by rw [HB.out]; simp)⟩
      · have HB : Hid (doB l o [x, y, z] r lsn = true) := by show doB l o [x, y, z] r lsn = true; rw [HD.out, hd]
        have HZ : Hid (newZ r [x, y, z] = [sW 0 r.s r.n x, sW 1 r.s r.n y, sW 2 r.s r.n z]) := rfl
        clear hd HD
        generalize ho : oW r.s r.n o = o' at *
        generalize hx : sW 0 r.s r.n x = x' at *
        generalize hy : sW 1 r.s r.n y = y' at *
        generalize hz : sW 2 r.s r.n z = z' at *
        clear ho hx hy hz
        have R5 := Lib.hid (put5_far r4 (show w.heap.size + 1 + 1 ≠ w1.heap.size by omega) lsn o' x' y' z')
        have B5 := Lib.hid (put5_below B4.out (show w.heap.size ≤ w1.heap.size by omega) lsn o' x' y' z')
        have n5 := put5_size w4 w1.heap.size lsn o' x' y' z'
        unfold put5 at R5 B5 n5
        clear r4 f4 B4
        go_wp2_with fail
        generalize ((((w4.setCell ⟨w1.heap.size, 0, none⟩ (.int .i64 lsn)).setCell ⟨w1.heap.size, 1, none⟩ (.int .i64 o')).setCell ⟨w1.heap.size, 2, none⟩ (.int .i64 x')).setCell ⟨w1.heap.size, 3, none⟩ (.int .i64 y')).setCell ⟨w1.heap.size, 4, none⟩ (.int .i64 z') = w5 at *
        have n6 : w1.heap.size < w5.heap.size := by omega
        clear g0 g1 g2 g3 g4 k0 k1 k2 k3 k4 n5
        refine (fpage_any lsn o' x' y' z' _).mono ?_
        rintro e w6 ⟨rfl, b6, h6⟩
        have r6 := R5.out.below b6 (by omega)
        have B6 := Lib.hid (B5.out.trans (b6.mono (by omega)))
        have H6 := Lib.hid h6
        obtain ⟨d0, d1, d2⟩ := r6.three
        have t0 := r6.frozen 0
        have t1 := r6.frozen 1
        have t2 := r6.frozen 2
        clear b6 h6 r6 R5 B5
        go_wp2
        refine bodyPost_ret (v := .tuple #[pageV lsn o' (some ⟨w5.heap.size, 2, none⟩) 3 3, .bool true]) (by simp [results, Try.results16, go_sem, d0, d1, d2]) rfl ⟨put3_below B6.out (by omega) _ _ _, fun h => absurd h (by rw [HB.out]; simp), fun _ => ⟨w5.heap.size, 2, 3, rfl, by omega, ?_, ?_, Nat.le_refl _⟩⟩
        · rw [HZ.out]
          refine put3_rd ?_ (by omega) _ _ _
          intro j hj
          have hj' : j < 3 := hj
          rw [H6.out.cell]
          match j, hj' with
          | 0, _ => rfl
          | 1, _ => rfl
          | 2, _ => rfl
        · exact put3_wr (H6.out.wr 2 3) _ _ _

theorem recDo_len (l o : Int) (zs : List Int) (a : Option Addr) (n cap B : Nat) (r : R) (lsn : Int) (w : World) (hn : zs.length = n) (hB : B ≤ w.heap.size) (hz : Ints .i64 w B a zs) (hc : n ≤ cap) :
    Calls Try.prog 16 #[pageV l o a n cap, recV r, .int .i64 lsn] w (DoP (doB l o zs r lsn) lsn (oW r.s r.n o) (newZ r zs) w) := by
  subst hn
  exact recDo_any l o zs a cap B r lsn w hB hz hc
end Go.Proofs.Ytcahmiklcjlkmaa.Base
