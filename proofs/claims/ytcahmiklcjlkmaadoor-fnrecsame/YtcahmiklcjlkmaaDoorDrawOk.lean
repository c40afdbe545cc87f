/-
  Contracts of the model's DrawRecText and DrawRecOk: a record. Only that it is one is said, not which. Conditions: the code is a slice of bytes.
-/
import Derived.Test.YtcahmiklcjlkmaaDoorDrawRec
import Derived.Test.YtcahmiklcjlkmaaDoorDrawP
namespace Go.Proofs.YtcahmiklcjlkmaaDoor.Base
open Go.RowKit

/-- a drawn record; nothing that was there has turned -/
def DrawnRec (w : World) (e : Ending) (w' : World) : Prop := Below w.heap.size w w' ∧ ∃ r : R, e = .returned (recV r)

set_option maxRecDepth 100000 in
set_option maxHeartbeats 4000000 in
theorem drawRecText_any (a : Option Addr) (zs : List Int) (cap B : Nat) (w : World) (hB : B ≤ w.heap.size) (hc : Bytes w B a zs cap) :
    Calls Tryd.prog 5 #[.slice a zs.length cap] w (DrawnRec w) := by
  have H := Lib.hid hc
  clear hc
  go_enter Tryd.func5, Tryd.ntmps5
  go_wp2_with fail
  refine (l6Open_any a zs cap B _ (by simp; omega) (H.out.ints.below ((below_one _ _).mono hB)) H.out.bytes H.out.fit H.out.most).mono ?_
  rintro e w1 ⟨a', bs, cap', rfl, b1, h1⟩
  have x1 := (Has.new w 24 #[.int .i64 0, .int .i64 0, .int .i64 0, .int .i64 0, .int .i64 0, .int .i64 0, .int .i64 0, .int .i64 0]).below b1 (by simp)
  have k1 : Below w.heap.size w w1 := (below_one _ _).trans (b1.mono (by simp))
  simp only [World.size_alloc] at h1 ⊢
  have H1 := Lib.hid h1
  have X1 := Lib.hid x1
  have K1 := Lib.hid k1
  clear b1 h1 x1 k1 H
  go_wp2_with fail
  refine (l71Rec_any (w.heap.size + 1) a' bs cap' 0 B _ H1.out (by omega)).mono ?_
  rintro e w2 ⟨r, rfl, hgr, p, hp, hr⟩
  have x2 := X1.out.grown hgr (fun e => by injection e; omega)
  have V : Hid (Below w.heap.size w (put8 w2 w.heap.size r)) := below_grown (grown_put8 (grown_two (grown_below K1.out (some (w.heap.size + 1))) hgr) (Nat.le_refl _) r) (by omega) (Nat.le_refl _)
  obtain ⟨s0, s1, s2, s3, s4, s5, s6, s7⟩ := eight x2
  have f0 := x2.frozen 0
  have f1 := x2.frozen 1
  have f2 := x2.frozen 2
  have f3 := x2.frozen 3
  have f4 := x2.frozen 4
  have f5 := x2.frozen 5
  have f6 := x2.frozen 6
  have f7 := x2.frozen 7
  clear hgr hr x2 H1 X1 K1
  go_wp2
  refine bodyPost_ret (v := recV r) (by simp [results, Tryd.results5, go_sem, s0, s1, s2, s3, s4, s5, s6, s7]) rfl ⟨V.out, r, rfl⟩

set_option maxRecDepth 100000 in
set_option maxHeartbeats 4000000 in
theorem drawRecOk_any (a : Option Addr) (zs : List Int) (cap B : Nat) (w : World) (hB : B ≤ w.heap.size) (hc : Bytes w B a zs cap) :
    Calls Tryd.prog 6 #[.slice a zs.length cap] w (DrawnRec w) := by
  have H := Lib.hid hc
  clear hc
  go_enter Tryd.func6, Tryd.ntmps6
  go_wp2_with fail
  refine (l6Open_any a zs cap B _ (by simp; omega) (H.out.ints.below ((below_one _ _).mono hB)) H.out.bytes H.out.fit H.out.most).mono ?_
  rintro e w1 ⟨a', bs, cap', rfl, b1, h1⟩
  have x1 := (Has.new w 24 #[.int .i64 0, .int .i64 0, .int .i64 0, .int .i64 0, .int .i64 0, .int .i64 0, .int .i64 0, .int .i64 0]).below b1 (by simp)
  have k1 : Below w.heap.size w w1 := (below_one _ _).trans (b1.mono (by simp))
  simp only [World.size_alloc] at h1 ⊢
  have n1 := h1.has.lt
  have H1 := Lib.hid h1
  have X1 := Lib.hid x1
  have K1 := Lib.hid k1
  clear b1 h1 x1 k1 H
  go_wp2_with fail
  refine (l71Rec_any (w.heap.size + 1) a' bs cap' 0 B _ H1.out (by omega)).mono ?_
  rintro e w2 ⟨r, rfl, hgr, p, hp, hr⟩
  have hs := hgr.size
  have s3 : SR w (w2.alloc (.cells #[.int .i64 r.k, .int .i64 r.t, .int .i64 r.p, .int .i64 r.s, .int .i64 r.o, .int .i64 r.n, .int .i64 r.v, .int .i64 r.x] 24)) (w.heap.size + 1) a' bs cap' B w.heap.size w2.heap.size p :=
    ⟨hr.below (below_one _ _) hr.has.lt, (X1.out.grown hgr (fun e => by injection e; omega)).alloc _, ⟨r, Has.new _ _ _⟩, hB, Nat.le_refl _, by omega, grown_alloc (grown_two (grown_below K1.out _) hgr) _⟩
  have S := Lib.hid s3
  clear hgr hr s3 H1 X1 K1
  go_upto_region 3 with (fail)
  generalize (w2.alloc (.cells #[.int .i64 r.k, .int .i64 r.t, .int .i64 r.p, .int .i64 r.s, .int .i64 r.o, .int .i64 r.n, .int .i64 r.v, .int .i64 r.x] 24)) = w3 at *
  generalize w2.heap.size = pb at *
  go_wp2_with fail
  refine (pick_any 5 (w.heap.size + 1) a' bs cap' p B _ S.out.rdr (by omega) (by omega) (by omega)).mono ?_
  rintro e y1 ⟨v, rfl, v0, v1, hgr, -, hr⟩
  have T := Lib.hid (S.out.pick hgr hr)
  clear v1 hgr hr S
  by_cases hv : v = 0
  · have bv : (v == 0) = true := by simp [hv]
    clear hv
    go_wp2_with fail
    refine (pick_any 8 (w.heap.size + 1) a' bs cap' (p + 1) B _ T.out.rdr (by omega) (by omega) (by omega)).mono ?_
    rintro e y2 ⟨z, rfl, z0, z1, hgr, -, hr⟩
    have z2 := z1 (by omega)
    have U := Lib.hid (T.out.pick hgr hr)
    clear z1 hgr hr T
    obtain ⟨r1, hb⟩ := U.out.box
    have so := U.out.ord
    have sl := U.out.low
    obtain ⟨c0, c1, c2, c3, c4, c5, c6, c7⟩ := eight hb
    have f2 := hb.frozen 2
    have U' := Lib.hid (U.out.store 2 (z - 1) (by omega))
    have Hb : Hid (Has (y2.setCell ⟨pb, 2, none⟩ (.int .i64 (z - 1))) pb 24 (recC ⟨r1.k, r1.t, z - 1, r1.s, r1.o, r1.n, r1.v, r1.x⟩)) := hb.set 2 (.int .i64 (z - 1))
    clear hb U
    go_upto_region 5 with (fail)
    clear c0 c1 c2 c3 c4 c5 c6 c7 f2
    generalize (y2.setCell ⟨pb, 2, none⟩ (.int .i64 (z - 1))) = y3 at *
    have V : Hid (Below w.heap.size w (put8 y3 w.heap.size ⟨r1.k, r1.t, z - 1, r1.s, r1.o, r1.n, r1.v, r1.x⟩)) := below_grown (grown_put8 U'.out.grown (Nat.le_refl _) _) (by omega) (Nat.le_refl _)
    obtain ⟨c0, c1, c2, c3, c4, c5, c6, c7⟩ := eight Hb.out
    have x2 := U'.out.res
    obtain ⟨s0, s1, s2, s3, s4, s5, s6, s7⟩ := eight x2
    have f0 := x2.frozen 0
    have f1 := x2.frozen 1
    have f2 := x2.frozen 2
    have f3 := x2.frozen 3
    have f4 := x2.frozen 4
    have f5 := x2.frozen 5
    have f6 := x2.frozen 6
    have f7 := x2.frozen 7
    clear x2 U' Hb
    go_wp2
    refine bodyPost_ret (v := recV ⟨r1.k, r1.t, z - 1, r1.s, r1.o, r1.n, r1.v, r1.x⟩) (by simp [results, Tryd.results6, go_sem, s0, s1, s2, s3, s4, s5, s6, s7]) rfl ⟨V.out, _, rfl⟩
  · have bv : (v == 0) = false := by simp [hv]
    clear hv
    obtain ⟨r1, hb⟩ := T.out.box
    have so := T.out.ord
    have V : Hid (Below w.heap.size w (put8 y1 w.heap.size r1)) := below_grown (grown_put8 T.out.grown (Nat.le_refl _) _) (by omega) (Nat.le_refl _)
    obtain ⟨c0, c1, c2, c3, c4, c5, c6, c7⟩ := eight hb
    have x2 := T.out.res
    obtain ⟨s0, s1, s2, s3, s4, s5, s6, s7⟩ := eight x2
    have f0 := x2.frozen 0
    have f1 := x2.frozen 1
    have f2 := x2.frozen 2
    have f3 := x2.frozen 3
    have f4 := x2.frozen 4
    have f5 := x2.frozen 5
    have f6 := x2.frozen 6
    have f7 := x2.frozen 7
    clear x2 T hb
    go_wp2
    refine bodyPost_ret (v := recV r1) (by simp [results, Tryd.results6, go_sem, s0, s1, s2, s3, s4, s5, s6, s7]) rfl ⟨V.out, _, rfl⟩
end Go.Proofs.YtcahmiklcjlkmaaDoor.Base
