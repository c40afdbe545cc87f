/-
  Contract of frame.after, kind by kind: the frame behind a valid entry with a number. Conditions: the entry's slot is one.
-/
import Derived.Test.YtcahmiklcjlkmaaWith
import Derived.Test.YtcahmiklcjlkmaaEntOf
import Derived.Test.YtcahmiklcjlkmaaAssert
namespace Go.Proofs.Ytcahmiklcjlkmaa.Base
open Go.RowKit
set_option linter.unusedVariables false

/-- five numbers, stored -/
abbrev put5 (w : World) (b : Nat) (l o x y z : Int) : World := ((((w.setCell ⟨b, 0, none⟩ (.int .i64 l)).setCell ⟨b, 1, none⟩ (.int .i64 o)).setCell ⟨b, 2, none⟩ (.int .i64 x)).setCell ⟨b, 3, none⟩ (.int .i64 y)).setCell ⟨b, 4, none⟩ (.int .i64 z)
section
variable {w w0 : World} {b g B : Nat} {T : TypeId} {c0 c1 c2 c3 c4 : Value} {cs : Array Value} {l o x y z : Int}
theorem put5_has (h : Has w b T #[c0, c1, c2, c3, c4]) (l o x y z : Int) : Has (put5 w b l o x y z) b T #[.int .i64 l, .int .i64 o, .int .i64 x, .int .i64 y, .int .i64 z] := by
  have h0 : Has (w.setCell ⟨b, 0, none⟩ (.int .i64 l)) b T #[.int .i64 l, c1, c2, c3, c4] := h.set 0 _
  have h1 : Has ((w.setCell ⟨b, 0, none⟩ (.int .i64 l)).setCell ⟨b, 1, none⟩ (.int .i64 o)) b T #[.int .i64 l, .int .i64 o, c2, c3, c4] := h0.set 1 _
  have h2 : Has (((w.setCell ⟨b, 0, none⟩ (.int .i64 l)).setCell ⟨b, 1, none⟩ (.int .i64 o)).setCell ⟨b, 2, none⟩ (.int .i64 x)) b T #[.int .i64 l, .int .i64 o, .int .i64 x, c3, c4] := h1.set 2 _
  have h3 : Has ((((w.setCell ⟨b, 0, none⟩ (.int .i64 l)).setCell ⟨b, 1, none⟩ (.int .i64 o)).setCell ⟨b, 2, none⟩ (.int .i64 x)).setCell ⟨b, 3, none⟩ (.int .i64 y)) b T #[.int .i64 l, .int .i64 o, .int .i64 x, .int .i64 y, c4] := h2.set 3 _
  exact h3.set 4 _
theorem put5_far (h : Has w g T cs) (hg : g ≠ b) (l o x y z : Int) : Has (put5 w b l o x y z) g T cs :=
  ((((h.far hg _).far hg _).far hg _).far hg _).far hg _
theorem put5_below (h : Below B w0 w) (hb : B ≤ b) (l o x y z : Int) : Below B w0 (put5 w b l o x y z) :=
  ((((h.setCell hb _).setCell hb _).setCell hb _).setCell hb _).setCell hb _
theorem put5_size (w : World) (b : Nat) (l o x y z : Int) : (put5 w b l o x y z).heap.size = w.heap.size := by simp [put5]
end

/-- whether an entry that changes slot s to n, with the number lsn, can be applied to a frame -/
def aftB (l lsn s n q a b c : Int) : Bool := decide (l < lsn) && (decide (lsn ≤ 150) && okF lsn (oW s n q) (sW 0 s n a) (sW 1 s n b) (sW 2 s n c))
/-- what frame.after leaves -/
def Aft (l lsn s n q a b c : Int) (w : World) (e : Ending) (w' : World) : Prop :=
  e = .returned (.tuple #[if aftB l lsn s n q a b c then frameV lsn (oW s n q) (sW 0 s n a) (sW 1 s n b) (sW 2 s n c) else frameV 0 0 0 0 0, .bool (aftB l lsn s n q a b c)]) ∧ Below w.heap.size w w'

attribute [local go_sem] ta_11 in
set_option maxHeartbeats 4000000 in
theorem after_1 (l q a b c lsn t p s o n v x : Int) (w : World) (h0 : 0 ≤ s) (h1 : s ≤ 2) :
    Calls Try.prog 46 #[frameV l q a b c, ent1 t p s o n v x, .int .i64 lsn] w (Aft l lsn s n q a b c w) := by
  by_cases g1 : l < lsn
  · by_cases g2 : lsn ≤ 150
    · have HB : Hid (aftB l lsn s n q a b c = okF lsn (oW s n q) (sW 0 s n a) (sW 1 s n b) (sW 2 s n c)) := by
        show aftB l lsn s n q a b c = okF lsn (oW s n q) (sW 0 s n a) (sW 1 s n b) (sW 2 s n c)
        simp [aftB, g1, g2]
      have e1 : decide (lsn ≤ l) = false := by simpa using g1
      have e2 : decide (150 < lsn) = false := by simpa using g2
      go_enter Try.func46, Try.ntmps46
      go_wp2_with fail
      refine (with_any l q a b c s n _ (by omega) (by omega)).mono ?_
      rintro e w1 ⟨rfl, b1⟩
      generalize hq : oW s n q = q' at *
      have HQ := Lib.hid hq
      clear hq
      generalize ha : sW 0 s n a = a' at *
      have HA := Lib.hid ha
      clear ha
      generalize hb : sW 1 s n b = b' at *
      have HB' := Lib.hid hb
      clear hb
      generalize hc : sW 2 s n c = c' at *
      have HC := Lib.hid hc
      clear hc
      have q1 := (((Has.new w 71 #[.int .i64 l, .int .i64 q, .int .i64 a, .int .i64 b, .int .i64 c]).alloc (.cells #[.int .i64 0, .int .i64 0, .int .i64 0, .int .i64 0, .int .i64 0] 71)).alloc (.cells #[.int .i64 t, .int .i64 v, .int .i64 p, .int .i64 s, .int .i64 o, .int .i64 n] 93)).below b1 (by simp; omega)
      have r1 := ((Has.new (w.alloc (.cells #[.int .i64 l, .int .i64 q, .int .i64 a, .int .i64 b, .int .i64 c] 71)) 71 #[.int .i64 0, .int .i64 0, .int .i64 0, .int .i64 0, .int .i64 0]).alloc (.cells #[.int .i64 t, .int .i64 v, .int .i64 p, .int .i64 s, .int .i64 o, .int .i64 n] 93)).below b1 (by simp)
      have B1 : Below w.heap.size w w1 := (((below_one _ _).alloc (by simp) _).alloc (by simp; omega) _).trans (b1.mono (by simp; omega))
      rw [World.size_alloc] at r1
      clear b1
      obtain ⟨c0, c1, c2, c3, c4⟩ := q1.five
      have f0 := q1.frozen 0
      have f1 := q1.frozen 1
      have f2 := q1.frozen 2
      have f3 := q1.frozen 3
      have f4 := q1.frozen 4
      have Q2 := Lib.hid ((put5_has q1 l q' a' b' c').set 0 (.int .i64 lsn))
      have R2 := Lib.hid ((put5_far (b := w.heap.size) r1 (by omega) l q' a' b' c').far (p := ⟨w.heap.size, 0, none⟩) (by simp) (.int .i64 lsn))
      have B2 := Lib.hid ((put5_below B1 (Nat.le_refl _) l q' a' b' c').setCell (p := ⟨w.heap.size, 0, none⟩) (by simp) (.int .i64 lsn))
      have n1 : w.heap.size + 1 < w1.heap.size := r1.lt
      clear q1 r1 B1
      go_wp2_with fail
      have n2 : ((put5 w1 w.heap.size l q' a' b' c').setCell ⟨w.heap.size, 0, none⟩ (.int .i64 lsn)).heap.size = w1.heap.size := by simp [put5]
      generalize hW : (put5 w1 w.heap.size l q' a' b' c').setCell ⟨w.heap.size, 0, none⟩ (.int .i64 lsn) = w2 at *
      clear hW c0 c1 c2 c3 c4 f0 f1 f2 f3 f4
      refine (fok_any lsn q' a' b' c' _).mono ?_
      rintro e w3 ⟨rfl, b3⟩
      have n3 : w.heap.size + 1 < w2.heap.size := by omega
      have q3 : Has w3 w.heap.size 71 #[.int .i64 lsn, .int .i64 q', .int .i64 a', .int .i64 b', .int .i64 c'] := Q2.out.below b3 (by omega)
      have r3 := R2.out.below b3 n3
      have B3 : Hid (Below w.heap.size w w3) := B2.out.trans (b3.mono (by omega))
      clear b3 Q2 R2 B2 n2
      obtain ⟨c0, c1, c2, c3, c4⟩ := q3.five
      obtain ⟨d0, d1, d2, d3, d4⟩ := r3.five
      have f0 := r3.frozen 0
      have f1 := r3.frozen 1
      have f2 := r3.frozen 2
      have f3 := r3.frozen 3
      have f4 := r3.frozen 4
      clear q3 r3
      cases hk : okF lsn q' a' b' c'
      · have HK := Lib.hid hk
        clear hk
        go_wp2
        refine bodyPost_ret (v := .tuple #[frameV 0 0 0 0 0, .bool false]) (by simp [results, Try.results46, go_sem, d0, d1, d2, d3, d4]) rfl ⟨by rw [HB.out, HQ.out, HA.out, HB'.out, HC.out, HK.out]; rfl, put5_below B3.out (by omega) _ _ _ _ _⟩
      · have HK := Lib.hid hk
        clear hk
        go_wp2
        refine bodyPost_ret (v := .tuple #[frameV lsn q' a' b' c', .bool true]) (by simp [results, Try.results46, go_sem, d0, d1, d2, d3, d4]) rfl ⟨by rw [HB.out, HQ.out, HA.out, HB'.out, HC.out, HK.out]; rfl, put5_below B3.out (by omega) _ _ _ _ _⟩
    · have e1 : decide (lsn ≤ l) = false := by simpa using g1
      have e2 : decide (150 < lsn) = true := by simpa using g2
      have HB : Hid (aftB l lsn s n q a b c = false) := by show aftB l lsn s n q a b c = false; simp [aftB, g2]
      clear g1 g2
      go_enter Try.func46, Try.ntmps46
      go_wp2
      refine bodyPost_ret (v := .tuple #[frameV 0 0 0 0 0, .bool false]) (by simp [results, Try.results46, go_sem]) rfl ⟨by rw [HB.out]; rfl, ?_⟩
      go_grown
  · have e1 : decide (lsn ≤ l) = true := by simpa using g1
    have HB : Hid (aftB l lsn s n q a b c = false) := by show aftB l lsn s n q a b c = false; simp [aftB, g1]
    clear g1
    go_enter Try.func46, Try.ntmps46
    go_wp2
    refine bodyPost_ret (v := .tuple #[frameV 0 0 0 0 0, .bool false]) (by simp [results, Try.results46, go_sem]) rfl ⟨by rw [HB.out]; rfl, ?_⟩
    go_grown

attribute [local go_sem] ta_21 ta_22 in
set_option maxHeartbeats 4000000 in
theorem after_2 (l q a b c lsn t p s o n v x : Int) (w : World)  :
    Calls Try.prog 46 #[frameV l q a b c, ent2 t p s o n v x, .int .i64 lsn] w (Aft l lsn (-1) n q a b c w) := by
  by_cases g1 : l < lsn
  · by_cases g2 : lsn ≤ 150
    · have HB : Hid (aftB l lsn (-1) n q a b c = okF lsn (oW (-1) n q) (sW 0 (-1) n a) (sW 1 (-1) n b) (sW 2 (-1) n c)) := by
        show aftB l lsn (-1) n q a b c = okF lsn (oW (-1) n q) (sW 0 (-1) n a) (sW 1 (-1) n b) (sW 2 (-1) n c)
        simp [aftB, g1, g2]
      have e1 : decide (lsn ≤ l) = false := by simpa using g1
      have e2 : decide (150 < lsn) = false := by simpa using g2
      go_enter Try.func46, Try.ntmps46
      go_wp2_with fail
      refine (with_any l q a b c (-1) n _ (by omega) (by omega)).mono ?_
      rintro e w1 ⟨rfl, b1⟩
      generalize hq : oW (-1) n q = q' at *
      have HQ := Lib.hid hq
      clear hq
      generalize ha : sW 0 (-1) n a = a' at *
      have HA := Lib.hid ha
      clear ha
      generalize hb : sW 1 (-1) n b = b' at *
      have HB' := Lib.hid hb
      clear hb
      generalize hc : sW 2 (-1) n c = c' at *
      have HC := Lib.hid hc
      clear hc
      have q1 := (((Has.new w 71 #[.int .i64 l, .int .i64 q, .int .i64 a, .int .i64 b, .int .i64 c]).alloc (.cells #[.int .i64 0, .int .i64 0, .int .i64 0, .int .i64 0, .int .i64 0] 71)).alloc (.cells #[.int .i64 t, .int .i64 v, .int .i64 p, .int .i64 o, .int .i64 n] 95)).below b1 (by simp; omega)
      have r1 := ((Has.new (w.alloc (.cells #[.int .i64 l, .int .i64 q, .int .i64 a, .int .i64 b, .int .i64 c] 71)) 71 #[.int .i64 0, .int .i64 0, .int .i64 0, .int .i64 0, .int .i64 0]).alloc (.cells #[.int .i64 t, .int .i64 v, .int .i64 p, .int .i64 o, .int .i64 n] 95)).below b1 (by simp)
      have B1 : Below w.heap.size w w1 := (((below_one _ _).alloc (by simp) _).alloc (by simp; omega) _).trans (b1.mono (by simp; omega))
      rw [World.size_alloc] at r1
      clear b1
      obtain ⟨c0, c1, c2, c3, c4⟩ := q1.five
      have f0 := q1.frozen 0
      have f1 := q1.frozen 1
      have f2 := q1.frozen 2
      have f3 := q1.frozen 3
      have f4 := q1.frozen 4
      have Q2 := Lib.hid ((put5_has q1 l q' a' b' c').set 0 (.int .i64 lsn))
      have R2 := Lib.hid ((put5_far (b := w.heap.size) r1 (by omega) l q' a' b' c').far (p := ⟨w.heap.size, 0, none⟩) (by simp) (.int .i64 lsn))
      have B2 := Lib.hid ((put5_below B1 (Nat.le_refl _) l q' a' b' c').setCell (p := ⟨w.heap.size, 0, none⟩) (by simp) (.int .i64 lsn))
      have n1 : w.heap.size + 1 < w1.heap.size := r1.lt
      clear q1 r1 B1
      go_wp2_with fail
      have n2 : ((put5 w1 w.heap.size l q' a' b' c').setCell ⟨w.heap.size, 0, none⟩ (.int .i64 lsn)).heap.size = w1.heap.size := by simp [put5]
      generalize hW : (put5 w1 w.heap.size l q' a' b' c').setCell ⟨w.heap.size, 0, none⟩ (.int .i64 lsn) = w2 at *
      clear hW c0 c1 c2 c3 c4 f0 f1 f2 f3 f4
      refine (fok_any lsn q' a' b' c' _).mono ?_
      rintro e w3 ⟨rfl, b3⟩
      have n3 : w.heap.size + 1 < w2.heap.size := by omega
      have q3 : Has w3 w.heap.size 71 #[.int .i64 lsn, .int .i64 q', .int .i64 a', .int .i64 b', .int .i64 c'] := Q2.out.below b3 (by omega)
      have r3 := R2.out.below b3 n3
      have B3 : Hid (Below w.heap.size w w3) := B2.out.trans (b3.mono (by omega))
      clear b3 Q2 R2 B2 n2
      obtain ⟨c0, c1, c2, c3, c4⟩ := q3.five
      obtain ⟨d0, d1, d2, d3, d4⟩ := r3.five
      have f0 := r3.frozen 0
      have f1 := r3.frozen 1
      have f2 := r3.frozen 2
      have f3 := r3.frozen 3
      have f4 := r3.frozen 4
      clear q3 r3
      cases hk : okF lsn q' a' b' c'
      · have HK := Lib.hid hk
        clear hk
        go_wp2
        refine bodyPost_ret (v := .tuple #[frameV 0 0 0 0 0, .bool false]) (by simp [results, Try.results46, go_sem, d0, d1, d2, d3, d4]) rfl ⟨by rw [HB.out, HQ.out, HA.out, HB'.out, HC.out, HK.out]; rfl, put5_below B3.out (by omega) _ _ _ _ _⟩
      · have HK := Lib.hid hk
        clear hk
        go_wp2
        refine bodyPost_ret (v := .tuple #[frameV lsn q' a' b' c', .bool true]) (by simp [results, Try.results46, go_sem, d0, d1, d2, d3, d4]) rfl ⟨by rw [HB.out, HQ.out, HA.out, HB'.out, HC.out, HK.out]; rfl, put5_below B3.out (by omega) _ _ _ _ _⟩
    · have e1 : decide (lsn ≤ l) = false := by simpa using g1
      have e2 : decide (150 < lsn) = true := by simpa using g2
      have HB : Hid (aftB l lsn (-1) n q a b c = false) := by show aftB l lsn (-1) n q a b c = false; simp [aftB, g2]
      clear g1 g2
      go_enter Try.func46, Try.ntmps46
      go_wp2
      refine bodyPost_ret (v := .tuple #[frameV 0 0 0 0 0, .bool false]) (by simp [results, Try.results46, go_sem]) rfl ⟨by rw [HB.out]; rfl, ?_⟩
      go_grown
  · have e1 : decide (lsn ≤ l) = true := by simpa using g1
    have HB : Hid (aftB l lsn (-1) n q a b c = false) := by show aftB l lsn (-1) n q a b c = false; simp [aftB, g1]
    clear g1
    go_enter Try.func46, Try.ntmps46
    go_wp2
    refine bodyPost_ret (v := .tuple #[frameV 0 0 0 0 0, .bool false]) (by simp [results, Try.results46, go_sem]) rfl ⟨by rw [HB.out]; rfl, ?_⟩
    go_grown

attribute [local go_sem] ta_61 ta_62 ta_66 in
set_option maxHeartbeats 4000000 in
theorem after_6 (l q a b c lsn t p s o n v x : Int) (w : World) (h0 : -1 ≤ s) (h1 : s ≤ 2) :
    Calls Try.prog 46 #[frameV l q a b c, ent6 t p s o n v x, .int .i64 lsn] w (Aft l lsn s n q a b c w) := by
  by_cases g1 : l < lsn
  · by_cases g2 : lsn ≤ 150
    · have HB : Hid (aftB l lsn s n q a b c = okF lsn (oW s n q) (sW 0 s n a) (sW 1 s n b) (sW 2 s n c)) := by
        show aftB l lsn s n q a b c = okF lsn (oW s n q) (sW 0 s n a) (sW 1 s n b) (sW 2 s n c)
        simp [aftB, g1, g2]
      have e1 : decide (lsn ≤ l) = false := by simpa using g1
      have e2 : decide (150 < lsn) = false := by simpa using g2
      go_enter Try.func46, Try.ntmps46
      go_wp2_with fail
      refine (with_any l q a b c s n _ (by omega) (by omega)).mono ?_
      rintro e w1 ⟨rfl, b1⟩
      generalize hq : oW s n q = q' at *
      have HQ := Lib.hid hq
      clear hq
      generalize ha : sW 0 s n a = a' at *
      have HA := Lib.hid ha
      clear ha
      generalize hb : sW 1 s n b = b' at *
      have HB' := Lib.hid hb
      clear hb
      generalize hc : sW 2 s n c = c' at *
      have HC := Lib.hid hc
      clear hc
      have q1 := (((Has.new w 71 #[.int .i64 l, .int .i64 q, .int .i64 a, .int .i64 b, .int .i64 c]).alloc (.cells #[.int .i64 0, .int .i64 0, .int .i64 0, .int .i64 0, .int .i64 0] 71)).alloc (.cells #[.int .i64 t, .int .i64 v, .int .i64 p, .int .i64 s, .int .i64 n, .int .i64 x] 65)).below b1 (by simp; omega)
      have r1 := ((Has.new (w.alloc (.cells #[.int .i64 l, .int .i64 q, .int .i64 a, .int .i64 b, .int .i64 c] 71)) 71 #[.int .i64 0, .int .i64 0, .int .i64 0, .int .i64 0, .int .i64 0]).alloc (.cells #[.int .i64 t, .int .i64 v, .int .i64 p, .int .i64 s, .int .i64 n, .int .i64 x] 65)).below b1 (by simp)
      have B1 : Below w.heap.size w w1 := (((below_one _ _).alloc (by simp) _).alloc (by simp; omega) _).trans (b1.mono (by simp; omega))
      rw [World.size_alloc] at r1
      clear b1
      obtain ⟨c0, c1, c2, c3, c4⟩ := q1.five
      have f0 := q1.frozen 0
      have f1 := q1.frozen 1
      have f2 := q1.frozen 2
      have f3 := q1.frozen 3
      have f4 := q1.frozen 4
      have Q2 := Lib.hid ((put5_has q1 l q' a' b' c').set 0 (.int .i64 lsn))
      have R2 := Lib.hid ((put5_far (b := w.heap.size) r1 (by omega) l q' a' b' c').far (p := ⟨w.heap.size, 0, none⟩) (by simp) (.int .i64 lsn))
      have B2 := Lib.hid ((put5_below B1 (Nat.le_refl _) l q' a' b' c').setCell (p := ⟨w.heap.size, 0, none⟩) (by simp) (.int .i64 lsn))
      have n1 : w.heap.size + 1 < w1.heap.size := r1.lt
      clear q1 r1 B1
      go_wp2_with fail
      have n2 : ((put5 w1 w.heap.size l q' a' b' c').setCell ⟨w.heap.size, 0, none⟩ (.int .i64 lsn)).heap.size = w1.heap.size := by simp [put5]
      generalize hW : (put5 w1 w.heap.size l q' a' b' c').setCell ⟨w.heap.size, 0, none⟩ (.int .i64 lsn) = w2 at *
      clear hW c0 c1 c2 c3 c4 f0 f1 f2 f3 f4
      refine (fok_any lsn q' a' b' c' _).mono ?_
      rintro e w3 ⟨rfl, b3⟩
      have n3 : w.heap.size + 1 < w2.heap.size := by omega
      have q3 : Has w3 w.heap.size 71 #[.int .i64 lsn, .int .i64 q', .int .i64 a', .int .i64 b', .int .i64 c'] := Q2.out.below b3 (by omega)
      have r3 := R2.out.below b3 n3
      have B3 : Hid (Below w.heap.size w w3) := B2.out.trans (b3.mono (by omega))
      clear b3 Q2 R2 B2 n2
      obtain ⟨c0, c1, c2, c3, c4⟩ := q3.five
      obtain ⟨d0, d1, d2, d3, d4⟩ := r3.five
      have f0 := r3.frozen 0
      have f1 := r3.frozen 1
      have f2 := r3.frozen 2
      have f3 := r3.frozen 3
      have f4 := r3.frozen 4
      clear q3 r3
      cases hk : okF lsn q' a' b' c'
      · have HK := Lib.hid hk
        clear hk
        go_wp2
        refine bodyPost_ret (v := .tuple #[frameV 0 0 0 0 0, .bool false]) (by simp [results, Try.results46, go_sem, d0, d1, d2, d3, d4]) rfl ⟨by rw [HB.out, HQ.out, HA.out, HB'.out, HC.out, HK.out]; rfl, put5_below B3.out (by omega) _ _ _ _ _⟩
      · have HK := Lib.hid hk
        clear hk
        go_wp2
        refine bodyPost_ret (v := .tuple #[frameV lsn q' a' b' c', .bool true]) (by simp [results, Try.results46, go_sem, d0, d1, d2, d3, d4]) rfl ⟨by rw [HB.out, HQ.out, HA.out, HB'.out, HC.out, HK.out]; rfl, put5_below B3.out (by omega) _ _ _ _ _⟩
    · have e1 : decide (lsn ≤ l) = false := by simpa using g1
      have e2 : decide (150 < lsn) = true := by simpa using g2
      have HB : Hid (aftB l lsn s n q a b c = false) := by show aftB l lsn s n q a b c = false; simp [aftB, g2]
      clear g1 g2
      go_enter Try.func46, Try.ntmps46
      go_wp2
      refine bodyPost_ret (v := .tuple #[frameV 0 0 0 0 0, .bool false]) (by simp [results, Try.results46, go_sem]) rfl ⟨by rw [HB.out]; rfl, ?_⟩
      go_grown
  · have e1 : decide (lsn ≤ l) = true := by simpa using g1
    have HB : Hid (aftB l lsn s n q a b c = false) := by show aftB l lsn s n q a b c = false; simp [aftB, g1]
    clear g1
    go_enter Try.func46, Try.ntmps46
    go_wp2
    refine bodyPost_ret (v := .tuple #[frameV 0 0 0 0 0, .bool false]) (by simp [results, Try.results46, go_sem]) rfl ⟨by rw [HB.out]; rfl, ?_⟩
    go_grown

attribute [local go_sem] ta_31 ta_32 ta_36 in
set_option maxHeartbeats 2000000 in
theorem after_3 (l q a b c lsn t p s o n v x : Int) (w : World) :
    Calls Try.prog 46 #[frameV l q a b c, ent3 t p s o n v x, .int .i64 lsn] w (Keeps (.tuple #[frameV 0 0 0 0 0, .bool false]) w) := by
  go_enter Try.func46, Try.ntmps46
  go_wp2
  all_goals
    refine bodyPost_ret (v := .tuple #[frameV 0 0 0 0 0, .bool false]) (by simp [results, Try.results46, go_sem]) rfl ⟨rfl, ?_⟩
    go_grown

attribute [local go_sem] ta_41 ta_42 ta_46 in
set_option maxHeartbeats 2000000 in
theorem after_4 (l q a b c lsn t p s o n v x : Int) (w : World) :
    Calls Try.prog 46 #[frameV l q a b c, ent4 t p s o n v x, .int .i64 lsn] w (Keeps (.tuple #[frameV 0 0 0 0 0, .bool false]) w) := by
  go_enter Try.func46, Try.ntmps46
  go_wp2
  all_goals
    refine bodyPost_ret (v := .tuple #[frameV 0 0 0 0 0, .bool false]) (by simp [results, Try.results46, go_sem]) rfl ⟨rfl, ?_⟩
    go_grown

attribute [local go_sem] ta_51 ta_52 ta_56 in
set_option maxHeartbeats 2000000 in
theorem after_5 (l q a b c lsn t p s o n v x : Int) (w : World) :
    Calls Try.prog 46 #[frameV l q a b c, ent5 t p s o n v x, .int .i64 lsn] w (Keeps (.tuple #[frameV 0 0 0 0 0, .bool false]) w) := by
  go_enter Try.func46, Try.ntmps46
  go_wp2
  all_goals
    refine bodyPost_ret (v := .tuple #[frameV 0 0 0 0 0, .bool false]) (by simp [results, Try.results46, go_sem]) rfl ⟨rfl, ?_⟩
    go_grown

end Go.Proofs.Ytcahmiklcjlkmaa.Base
