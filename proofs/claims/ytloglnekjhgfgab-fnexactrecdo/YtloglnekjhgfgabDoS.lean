/-
  Contracts of the model's l1Copy, l2Do and RecDo. Conditions: the page's slots lead to numbers.
-/
import Derived.Test.YtloglnekjhgfgabDoMath
import Derived.Test.YtloglnekjhgfgabAppend
import Derived.Deep.CutBlock
namespace Go.Proofs.Ytloglnekjhgfgab.Base
open Go.RowKit

/-- a page with three slots in new memory -/
structure NewP (l o : Int) (zs : List Int) (w : World) (e : Ending) (w' : World) : Prop where
  kept : Below w.heap.size w w'
  some : ∃ g q cap, e = .returned (pageV l o (some ⟨g, q, none⟩) 3 cap) ∧ w.heap.size ≤ g ∧ Rd .i64 w' g q zs ∧ Wr w' g q 3 ∧ 3 ≤ cap

set_option maxHeartbeats 1000000 in
theorem l1Copy_any (l o x y z : Int) (a : Option Addr) (cap B : Nat) (w : World) (hB : B ≤ w.heap.size) (hz : Ints .i64 w B a [x, y, z]) :
    Calls Try.prog 35 #[pageV l o a 3 cap] w (NewP l o [x, y, z] w) := by
  have Hz := Lib.hid hz
  clear hz
  have hX : Has (((w.alloc (.cells #[.int .i64 l, .int .i64 o, .slice a 3 cap] 28)).alloc (.cells #[.int .i64 0, .int .i64 0, .slice none 0 0] 28)).alloc (.cells #[] 3)) w.heap.size 28 #[.int .i64 l, .int .i64 o, .slice a 3 cap] := ((Has.new w _ _).alloc _).alloc _
  have hY : Has (((w.alloc (.cells #[.int .i64 l, .int .i64 o, .slice a 3 cap] 28)).alloc (.cells #[.int .i64 0, .int .i64 0, .slice none 0 0] 28)).alloc (.cells #[] 3)) (w.heap.size + 1) 28 #[.int .i64 0, .int .i64 0, .slice none 0 0] := by
    have := (Has.new (w.alloc (.cells #[.int .i64 l, .int .i64 o, .slice a 3 cap] 28)) 28 #[.int .i64 0, .int .i64 0, .slice none 0 0]).alloc (.cells #[] 3)
    simpa only [World.size_alloc] using this
  have hE : Has (((w.alloc (.cells #[.int .i64 l, .int .i64 o, .slice a 3 cap] 28)).alloc (.cells #[.int .i64 0, .int .i64 0, .slice none 0 0] 28)).alloc (.cells #[] 3)) (w.heap.size + 1 + 1) 3 #[] := by
    have := Has.new ((w.alloc (.cells #[.int .i64 l, .int .i64 o, .slice a 3 cap] 28)).alloc (.cells #[.int .i64 0, .int .i64 0, .slice none 0 0] 28)) 3 #[]
    simpa only [World.size_alloc] using this
  have hW : Below w.heap.size w (((w.alloc (.cells #[.int .i64 l, .int .i64 o, .slice a 3 cap] 28)).alloc (.cells #[.int .i64 0, .int .i64 0, .slice none 0 0] 28)).alloc (.cells #[] 3)) := ((below_one _ _).alloc (by simp) _).alloc (by simp; omega) _
  have HX := Lib.hid hX
  have HY := Lib.hid hY
  have HE := Lib.hid hE
  have HW := Lib.hid hW
  clear hX hY hE hW
  go_enter Try.func35, Try.ntmps35
  go_upto_region 2 with ((at_builtin; refine wp_append_copy _ rfl (.tmp 3) (.tmp 5) rfl (w.heap.size + 1 + 1) rfl HE.out [x, y, z] B _ 3 cap rfl rfl (Hz.out.below (HW.out.mono hB)) (by simp) (by simp) ?_; intro g5 cap5 w5 cp; have gX := HX.out.grown cp.grown (fun e => by injection e; omega); have gY := HY.out.grown cp.grown (fun e => by injection e; omega); obtain ⟨x0, x1, x2⟩ := gX.three; have fx := gX.frozen 2; have X5 := Lib.hid (gX.set 2 (.slice (some ⟨g5, 0, none⟩) 3 cap5)); have Y5 := Lib.hid (gY.far (p := ⟨w.heap.size, 2, none⟩) (by simp) (.slice (some ⟨g5, 0, none⟩) 3 cap5)); have lcp := cp.low; have hcap5 : 3 ≤ cap5 := cp.fit; have W5 : Hid (Below w.heap.size w (w5.setCell ⟨w.heap.size, 2, none⟩ (.slice (some ⟨g5, 0, none⟩) 3 cap5))) := (HW.out.trans (below_grown cp.grown (by omega) (by simp; omega))).setCell (by simp) _; have rd5 : Hid (Rd .i64 (w5.setCell ⟨w.heap.size, 2, none⟩ (.slice (some ⟨g5, 0, none⟩) 3 cap5)) g5 0 [x, y, z]) := cp.rd.keep (Below.heap_setCell _ _ _ _ (by simp; omega)); have wr5 : Hid (Wr (w5.setCell ⟨w.heap.size, 2, none⟩ (.slice (some ⟨g5, 0, none⟩) 3 cap5)) g5 0 3) := cp.wr.set _ _; clear gX gY cp HX HY HE HW))
  have X6 : Hid (Has (w5.setCell ⟨w.heap.size, 2, none⟩ (.slice (some ⟨g5, 0, none⟩) 3 cap5)) w.heap.size 28 #[.int .i64 l, .int .i64 o, .slice (some ⟨g5, 0, none⟩) 3 cap5]) := X5.out
  clear X5 x0 x1 x2 fx
  generalize (w5.setCell ⟨w.heap.size, 2, none⟩ (.slice (some ⟨g5, 0, none⟩) 3 cap5)) = w6 at *
  obtain ⟨c0, c1, c2⟩ := X6.out.three
  obtain ⟨d0, d1, d2⟩ := Y5.out.three
  have t0 := Y5.out.frozen 0
  have t1 := Y5.out.frozen 1
  have t2 := Y5.out.frozen 2
  go_wp2
  refine bodyPost_ret (v := pageV l o (some ⟨g5, 0, none⟩) 3 cap5) (by simp [results, Try.results35, go_sem, d0, d1, d2]) rfl ⟨put3_below W5.out (by omega) _ _ _, g5, 0, cap5, rfl, by omega, put3_rd rd5.out (by omega) _ _ _, put3_wr wr5.out _ _ _, hcap5⟩

theorem set_three (x y z n : Int) (k : Nat) (hk : k < 3) : [sW 0 k n x, sW 1 k n y, sW 2 k n z] = [x, y, z].set k n := by
  match k, hk with
  | 0, _ => simp [sW]
  | 1, _ => simp [sW]
  | 2, _ => simp [sW]

theorem Rd_set {w : World} {g o : Nat} {zs : List Int} (h : Rd .i64 w g o zs) (k : Nat) (n : Int) (hk : k < zs.length) : Rd .i64 (w.setCell ⟨g, o + k, none⟩ (.int .i64 n)) g o (zs.set k n) := fun j hj => by
  rw [List.length_set] at hj
  rw [cell_set w g o j k _ _ (h k hk), h j hj]
  simp only [List.getD_eq_getElem?_getD, List.getElem?_set]
  by_cases e : j = k
  · subst e; simp [hk]
  · simp [e, Ne.symm e]

attribute [local go_sem] make3 in
set_option maxHeartbeats 2000000 in
theorem l2Do_any (l o x y z : Int) (a : Option Addr) (cap B : Nat) (r : R) (lsn : Int) (w : World) (hB : B ≤ w.heap.size) (hz : Ints .i64 w B a [x, y, z]) (h0 : -1 ≤ r.s) (h1 : r.s ≤ 2) :
    Calls Try.prog 21 #[pageV l o a 3 cap, recV r, .int .i64 lsn] w (NewP lsn (oW r.s r.n o) (newZ r [x, y, z]) w) := by
  have Hz := Lib.hid hz
  clear hz
  go_enter Try.func21, Try.ntmps21
  go_wp2_with fail
  refine (l1Copy_any l o x y z a cap B _ (by simp; omega) (Hz.out.below ((((below_one _ _).alloc (by simp) _).alloc (by simp; omega) _).mono hB))).mono ?_
  rintro e w1 ⟨b1, g, q, c, rfl, hg, hrd, hwr, hc⟩
  have q1 := ((Has.new (w.alloc (.cells #[.int .i64 l, .int .i64 o, .slice a 3 cap] 28)) 32 #[.int .i64 r.k, .int .i64 r.t, .int .i64 r.p, .int .i64 r.s, .int .i64 r.o, .int .i64 r.n, .int .i64 r.v, .int .i64 r.x]).alloc (.cells #[.int .i64 0, .int .i64 0, .slice none 0 0] 28)).below b1 (by simp)
  have r1 := (Has.new ((w.alloc (.cells #[.int .i64 l, .int .i64 o, .slice a 3 cap] 28)).alloc (.cells #[.int .i64 r.k, .int .i64 r.t, .int .i64 r.p, .int .i64 r.s, .int .i64 r.o, .int .i64 r.n, .int .i64 r.v, .int .i64 r.x] 32)) 28 #[.int .i64 0, .int .i64 0, .slice none 0 0]).below b1 (by simp)
  have B1 : Below w.heap.size w w1 := (((below_one _ _).alloc (by simp) _).alloc (by simp; omega) _).trans (b1.mono (by simp; omega))
  simp only [World.size_alloc] at q1 r1 hg
  have n1 := r1.lt
  have ng := hwr.1
  have Q2 := Lib.hid (q1.alloc (.cells #[.int .i64 lsn, .int .i64 o, .slice (some ⟨g, q, none⟩) 3 c] 28))
  have R2 := Lib.hid (r1.alloc (.cells #[.int .i64 lsn, .int .i64 o, .slice (some ⟨g, q, none⟩) 3 c] 28))
  have X2 := Lib.hid (Has.new w1 28 #[.int .i64 lsn, .int .i64 o, .slice (some ⟨g, q, none⟩) 3 c])
  have B2 := Lib.hid (B1.alloc (by omega) (.cells #[.int .i64 lsn, .int .i64 o, .slice (some ⟨g, q, none⟩) 3 c] 28))
  have D2 := Lib.hid (hrd.below (below_one w1 (.cells #[.int .i64 lsn, .int .i64 o, .slice (some ⟨g, q, none⟩) 3 c] 28)) ng)
  have E2 := Lib.hid (hwr.below (below_one w1 (.cells #[.int .i64 lsn, .int .i64 o, .slice (some ⟨g, q, none⟩) 3 c] 28)) ng)
  clear b1 q1 r1 B1 hrd hwr
  go_upto_region 3 with (fail)
  generalize (w1.alloc (.cells #[.int .i64 lsn, .int .i64 o, .slice (some ⟨g, q, none⟩) 3 c] 28)) = w2 at *
  obtain ⟨c0, c1, c2, c3, c4, c5, c6, c7⟩ := eight Q2.out
  obtain ⟨e0, e1, e2⟩ := X2.out.three
  have f1 := X2.out.frozen 1
  have f2 := X2.out.frozen 2
  by_cases hs : 0 ≤ r.s
  · obtain ⟨k, hk⟩ := Int.eq_ofNat_of_zero_le hs
    have hk3 : k < 3 := by omega
    have HO : Hid (oW r.s r.n o = o) := by show oW r.s r.n o = o; unfold oW; rw [if_neg (by omega)]
    have HN : Hid (newZ r [x, y, z] = [x, y, z].set k r.n) := by
      show newZ r [x, y, z] = [x, y, z].set k r.n
      rw [← set_three x y z r.n k hk3, newZ, hk]
      rfl
    have v0 := D2.out k (by simp; omega)
    have v1 := E2.out.2 k hk3
    have kl : (k : Int) < 3 := by omega
    have k0 : (0 : Int) ≤ k := by omega
    have hd : decide (0 ≤ r.s) = true := by simpa using hs
    rw [hk] at c3 hd
    have X3 := Lib.hid (X2.out.far (p := ⟨g, q + k, none⟩) (by simp; omega) (.int .i64 r.n))
    have R3 := Lib.hid (R2.out.far (p := ⟨g, q + k, none⟩) (by simp; omega) (.int .i64 r.n))
    have B3 := Lib.hid (B2.out.setCell (p := ⟨g, q + k, none⟩) (by simp; omega) (.int .i64 r.n))
    have D3 := Lib.hid (Rd_set D2.out k r.n (by simp; omega))
    have E3 := Lib.hid (E2.out.set ⟨g, q + k, none⟩ (.int .i64 r.n))
    clear hs hk Q2 R2 X2 B2 D2 E2
    go_upto_region 5 with (fail)
    generalize (w2.setCell ⟨g, q + k, none⟩ (.int .i64 r.n)) = w3 at *
    clear c0 c1 c2 c3 c4 c5 c6 c7 e0 e1 e2 f1 f2 v0 v1
    obtain ⟨c0, c1, c2⟩ := X3.out.three
    obtain ⟨d0, d1, d2⟩ := R3.out.three
    have t0 := R3.out.frozen 0
    have t1 := R3.out.frozen 1
    have t2 := R3.out.frozen 2
    go_wp2
    refine bodyPost_ret (v := pageV lsn o (some ⟨g, q, none⟩) 3 c) (by simp [results, Try.results21, go_sem, d0, d1, d2]) rfl ⟨put3_below B3.out (by omega) _ _ _, g, q, c, by rw [HO.out], by omega, ?_, put3_wr E3.out _ _ _, hc⟩
    rw [HN.out]
    exact put3_rd D3.out (by omega) _ _ _

  · have hs1 : r.s = -1 := by omega
    have HO : Hid (oW r.s r.n o = r.n) := by show oW r.s r.n o = r.n; unfold oW; rw [if_pos hs1]
    have hd : decide (0 ≤ r.s) = false := by simpa using hs
    have X3 : Hid (Has (w2.setCell ⟨w1.heap.size, 1, none⟩ (.int .i64 r.n)) w1.heap.size 28 #[.int .i64 lsn, .int .i64 r.n, .slice (some ⟨g, q, none⟩) 3 c]) := X2.out.set 1 (.int .i64 r.n)
    have Q3 := Lib.hid (Q2.out.far (p := ⟨w1.heap.size, 1, none⟩) (by simp; omega) (.int .i64 r.n))
    have R3 := Lib.hid (R2.out.far (p := ⟨w1.heap.size, 1, none⟩) (by simp; omega) (.int .i64 r.n))
    have B3 := Lib.hid (B2.out.setCell (p := ⟨w1.heap.size, 1, none⟩) (by simp; omega) (.int .i64 r.n))
    have D3 : Hid (Rd .i64 (w2.setCell ⟨w1.heap.size, 1, none⟩ (.int .i64 r.n)) g q [x, y, z]) := D2.out.keep (Below.heap_setCell _ _ _ _ (by simp; omega))
    have E3 := Lib.hid (E2.out.set ⟨w1.heap.size, 1, none⟩ (.int .i64 r.n))
    clear hs Q2 R2 X2 B2 D2 E2
    go_upto_region 7 with (fail)
    generalize (w2.setCell ⟨w1.heap.size, 1, none⟩ (.int .i64 r.n)) = w3 at *
    clear c0 c1 c2 c3 c4 c5 c6 c7 e0 e1 e2 f1 f2
    obtain ⟨c0, c1, c2, c3, c4, c5, c6, c7⟩ := eight Q3.out
    by_cases hn : r.n = 0
    · have HN : Hid (newZ r [x, y, z] = [0, 0, 0]) := by show newZ r [x, y, z] = [0, 0, 0]; simp [newZ, sW, hs1, hn]
      have bn : (r.n == 0) = true := by simpa using hn
      have HM := Lib.hid hn
      have x3 := X3.out
      obtain ⟨e0, e1, e2⟩ := x3.three
      have f2 := x3.frozen 2
      have nx := x3.lt
      have X4 : Hid (Has ((w3.setCell ⟨w1.heap.size, 2, none⟩ (.slice (some ⟨w3.heap.size, 0, none⟩) 3 3)).alloc (.cells #[.int .i64 0, .int .i64 0, .int .i64 0] 3)) w1.heap.size 28 #[.int .i64 lsn, .int .i64 r.n, .slice (some ⟨w3.heap.size, 0, none⟩) 3 3]) := (x3.set 2 (.slice (some ⟨w3.heap.size, 0, none⟩) 3 3)).alloc _
      have R4 := Lib.hid ((R3.out.far (p := ⟨w1.heap.size, 2, none⟩) (by simp; omega) (.slice (some ⟨w3.heap.size, 0, none⟩) 3 3)).alloc (.cells #[.int .i64 0, .int .i64 0, .int .i64 0] 3))
      have B4 := Lib.hid ((B3.out.setCell (p := ⟨w1.heap.size, 2, none⟩) (by simp; omega) (.slice (some ⟨w3.heap.size, 0, none⟩) 3 3)).alloc (by have := B3.out.size; simp; omega) (.cells #[.int .i64 0, .int .i64 0, .int .i64 0] 3))
      have n4 := Has.new (w3.setCell ⟨w1.heap.size, 2, none⟩ (.slice (some ⟨w3.heap.size, 0, none⟩) 3 3)) 3 #[.int .i64 0, .int .i64 0, .int .i64 0]
      rw [World.size_setCell] at n4
      have N4 := Lib.hid n4
      clear n4
      clear x3 hn X3 R3 B3 D3 E3 Q3
      go_upto_region 9 with (fail)
      generalize ((w3.setCell ⟨w1.heap.size, 2, none⟩ (.slice (some ⟨w3.heap.size, 0, none⟩) 3 3)).alloc (.cells #[.int .i64 0, .int .i64 0, .int .i64 0] 3)) = w4 at *
      clear c0 c1 c2 c3 c4 c5 c6 c7 e0 e1 e2 f2
      obtain ⟨c0, c1, c2⟩ := X4.out.three
      obtain ⟨d0, d1, d2⟩ := R4.out.three
      have t0 := R4.out.frozen 0
      have t1 := R4.out.frozen 1
      have t2 := R4.out.frozen 2
      go_wp2
      refine bodyPost_ret (v := pageV lsn r.n (some ⟨w3.heap.size, 0, none⟩) 3 3) (by simp [results, Try.results21, go_sem, d0, d1, d2]) rfl ⟨put3_below B4.out (by omega) _ _ _, w3.heap.size, 0, 3, by rw [HO.out], by omega, ?_, put3_wr (N4.out.wr 0 3) _ _ _, Nat.le_refl _⟩
      rw [HN.out]
      refine put3_rd ?_ (by omega) _ _ _
      intro j hj
      have hj' : j < 3 := hj
      rw [N4.out.cell]
      match j, hj' with
      | 0, _ => rfl
      | 1, _ => rfl
      | 2, _ => rfl
    · have HN : Hid (newZ r [x, y, z] = [x, y, z]) := by show newZ r [x, y, z] = [x, y, z]; simp [newZ, sW, hs1, hn]
      have bn : (r.n == 0) = false := by simpa using hn
      clear hn Q3
      go_upto_region 9 with (fail)
      clear c0 c1 c2 c3 c4 c5 c6 c7
      obtain ⟨c0, c1, c2⟩ := X3.out.three
      obtain ⟨d0, d1, d2⟩ := R3.out.three
      have t0 := R3.out.frozen 0
      have t1 := R3.out.frozen 1
      have t2 := R3.out.frozen 2
      go_wp2
      refine bodyPost_ret (v := pageV lsn r.n (some ⟨g, q, none⟩) 3 c) (by simp [results, Try.results21, go_sem, d0, d1, d2]) rfl ⟨put3_below B3.out (by omega) _ _ _, g, q, c, by rw [HO.out], by omega, ?_, put3_wr E3.out _ _ _, hc⟩
      rw [HN.out]
      exact put3_rd D3.out (by omega) _ _ _

end Go.Proofs.Ytloglnekjhgfgab.Base
