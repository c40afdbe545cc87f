/-
  Contract of the model's drawing of a record: l71Rec, pick by pick. Only that it is a record in new memory is said, not which one. Conditions: the reader stands at a place that is not too far.
-/
import Derived.Test.YtejbmjdipfcblaaDrawsK
import Derived.Deep.CutBlock
namespace Go.Proofs.Ytejbmjdipfcblaa.Base
open Go.RowKit

/-- a record is where it should be: what stays true from statement to statement -/
def AtR (w0 w : World) (g : Nat) (a : Option Addr) (bs : List Int) (cap B rb pb : Nat) (m : Int) : Prop := ∃ p, p ≤ m ∧ SR w0 w g a bs cap B rb pb p

theorem SR.finish {w0 w : World} {g : Nat} {a : Option Addr} {bs : List Int} {cap B rb pb : Nat} {p : Int} (h : SR w0 w g a bs cap B rb pb p) {m : Int} (hp : p ≤ m) (r : R) :
    DrawnR g a bs cap B m w0 (.returned (recV r)) (put8 w rb r) := by
  have h1 := h.low
  have h2 := h.ord
  have h3 := h.base
  exact ⟨r, rfl, grown_put8 h.grown h1 r, p, hp, h.rdr.keep (put8_far _ _ _ _ (by omega)) (fun i hi => put8_far _ _ _ _ (by omega))⟩

set_option maxRecDepth 100000 in
set_option maxHeartbeats 8000000 in
theorem l71Rec_any (g : Nat) (a : Option Addr) (bs : List Int) (cap : Nat) (p : Int) (B : Nat) (w : World) (h : Rdr w g a bs cap p B) (hp : p ≤ 100000000) :
    Calls Try.prog 30 #[.pointer (some ⟨g, 0, none⟩)] w (DrawnR g a bs cap B (p + 20) w) := by
  have hg := h.has.lt
  have hB := h.apart
  have H0 := Lib.hid (h.below (below_one w (.cells #[.int .i64 0, .int .i64 0, .int .i64 0, .int .i64 0, .int .i64 0, .int .i64 0, .int .i64 0, .int .i64 0] 27)) hg)
  have R0 := Lib.hid (Has.new w 27 #[.int .i64 0, .int .i64 0, .int .i64 0, .int .i64 0, .int .i64 0, .int .i64 0, .int .i64 0, .int .i64 0])
  have G0 := Lib.hid (grown_below (below_one w (.cells #[.int .i64 0, .int .i64 0, .int .i64 0, .int .i64 0, .int .i64 0, .int .i64 0, .int .i64 0, .int .i64 0] 27)) (some g))
  clear h
  go_enter Try.func30, Try.ntmps30
  go_wp2_with fail
  refine (pick_any 6 g a bs cap _ B _ H0.out (by omega) (by omega) (by omega)).mono ?_
  rintro e y1 ⟨z1, rfl, z1l, z1m, hgr, hsz, hr⟩
  have z1h := z1m (by omega)
  have H1 := Lib.hid hr
  have R1 := Lib.hid (R0.out.grown hgr (fun e => by injection e; omega))
  have G1 := Lib.hid (grown_two G0.out hgr)
  have q1 : y1.heap.size = w.heap.size + 1 := by simpa using hsz
  have Q1 := Lib.hid q1
  clear z1m hgr hsz hr H0 R0 G0 q1
  go_wp2_with fail
  refine (pick_any 3 g a bs cap _ B _ H1.out (by omega) (by omega) (by omega)).mono ?_
  rintro e y2 ⟨z2, rfl, z2l, z2m, hgr, hsz, hr⟩
  have z2h := z2m (by omega)
  have H2 := Lib.hid hr
  have R2 := Lib.hid (R1.out.grown hgr (fun e => by injection e; omega))
  have G2 := Lib.hid (grown_two G1.out hgr)
  have q2 : y2.heap.size = w.heap.size + 1 := by rw [hsz]; exact Q1.out
  have Q2 := Lib.hid q2
  clear z2m hgr hsz hr H1 R1 G1 q2
  go_wp2_with fail
  refine (pick_any 5 g a bs cap _ B _ H2.out (by omega) (by omega) (by omega)).mono ?_
  rintro e y3 ⟨z3, rfl, z3l, z3m, hgr, hsz, hr⟩
  have z3h := z3m (by omega)
  have H3 := Lib.hid hr
  have R3 := Lib.hid (R2.out.grown hgr (fun e => by injection e; omega))
  have G3 := Lib.hid (grown_two G2.out hgr)
  have q3 : y3.heap.size = w.heap.size + 1 := by rw [hsz]; exact Q2.out
  have Q3 := Lib.hid q3
  clear z3m hgr hsz hr H2 R2 G2 q3
  have l3 : w.heap.size < y3.heap.size := by have := Q3.out; omega
  have hs : SR w (y3.alloc (.cells #[.int .i64 (1 + z1), .int .i64 (1 + z2), .int .i64 0, .int .i64 0, .int .i64 0, .int .i64 0, .int .i64 z3, .int .i64 0] 27)) g a bs cap B w.heap.size y3.heap.size (p + 1 + 1 + 1) :=
    ⟨H3.out.below (below_one _ _) H3.out.has.lt, R3.out.alloc _, ⟨⟨1 + z1, 1 + z2, 0, 0, 0, 0, z3, 0⟩, Has.new _ _ _⟩, by omega, Nat.le_refl _, by omega, grown_alloc G3.out _⟩
  have S := Lib.hid hs
  clear hs H3 R3 G3
  go_upto_block 0 with (fail)
  generalize (y3.alloc (.cells #[.int .i64 (1 + z1), .int .i64 (1 + z2), .int .i64 0, .int .i64 0, .int .i64 0, .int .i64 0, .int .i64 z3, .int .i64 0] 27)) = x3 at *
  generalize y3.heap.size = pb at *
  go_cut [] (fun wx => AtR w wx g a bs cap B w.heap.size pb (p + 10))
  case first =>
    by_cases k0 : z1 = 0
    · subst k0
      go_wp2_with fail
      refine (pick_any 5 g a bs cap _ B _ S.out.rdr (by omega) (by omega) (by omega)).mono ?_
      rintro e y10 ⟨z10, rfl, z10l, z10m, hgr, -, hr⟩
      have z10h := z10m (by omega)
      have T := Lib.hid (S.out.pick hgr hr)
      clear z10m hgr hr S
      obtain ⟨r10, hb⟩ := T.out.box
      obtain ⟨c0, c1, c2, c3, c4, c5, c6, c7⟩ := eight hb
      have f := hb.frozen 2
      have f' := hb.frozen 2
      have S := Lib.hid (T.out.store 2 (z10) (by omega))
      clear T hb
      go_wp2_with fail
      generalize (y10.setCell ⟨pb, 2, none⟩ (.int .i64 (z10))) = x10 at *
      clear c0 c1 c2 c3 c4 c5 c6 c7 f f'
      go_wp2_with fail
      refine (pick_any 3 g a bs cap _ B _ S.out.rdr (by omega) (by omega) (by omega)).mono ?_
      rintro e y11 ⟨z11, rfl, z11l, z11m, hgr, -, hr⟩
      have z11h := z11m (by omega)
      have T := Lib.hid (S.out.pick hgr hr)
      clear z11m hgr hr S
      obtain ⟨r11, hb⟩ := T.out.box
      obtain ⟨c0, c1, c2, c3, c4, c5, c6, c7⟩ := eight hb
      have f := hb.frozen 3
      have f' := hb.frozen 3
      have S := Lib.hid (T.out.store 3 (z11) (by omega))
      clear T hb
      go_wp2_with fail
      generalize (y11.setCell ⟨pb, 3, none⟩ (.int .i64 (z11))) = x11 at *
      clear c0 c1 c2 c3 c4 c5 c6 c7 f f'
      go_wp2_with fail
      refine (pick_any 10 g a bs cap _ B _ S.out.rdr (by omega) (by omega) (by omega)).mono ?_
      rintro e y12 ⟨z12, rfl, z12l, z12m, hgr, -, hr⟩
      have z12h := z12m (by omega)
      have T := Lib.hid (S.out.pick hgr hr)
      clear z12m hgr hr S
      obtain ⟨r12, hb⟩ := T.out.box
      obtain ⟨c0, c1, c2, c3, c4, c5, c6, c7⟩ := eight hb
      have f := hb.frozen 4
      have f' := hb.frozen 4
      have S := Lib.hid (T.out.store 4 (z12) (by omega))
      clear T hb
      go_wp2_with fail
      generalize (y12.setCell ⟨pb, 4, none⟩ (.int .i64 (z12))) = x12 at *
      clear c0 c1 c2 c3 c4 c5 c6 c7 f f'
      go_wp2_with fail
      refine (pick_any 10 g a bs cap _ B _ S.out.rdr (by omega) (by omega) (by omega)).mono ?_
      rintro e y13 ⟨z13, rfl, z13l, z13m, hgr, -, hr⟩
      have z13h := z13m (by omega)
      have T := Lib.hid (S.out.pick hgr hr)
      clear z13m hgr hr S
      obtain ⟨r13, hb⟩ := T.out.box
      obtain ⟨c0, c1, c2, c3, c4, c5, c6, c7⟩ := eight hb
      have f := hb.frozen 5
      have f' := hb.frozen 5
      have S := Lib.hid (T.out.store 5 (z13) (by omega))
      clear T hb
      go_wp2_with fail
      generalize (y13.setCell ⟨pb, 5, none⟩ (.int .i64 (z13))) = x13 at *
      clear c0 c1 c2 c3 c4 c5 c6 c7 f f'
      go_wp2_with fail
      go_meet
      exact ⟨_, by omega, S.out⟩
    by_cases k1 : z1 = 1
    · subst k1
      go_wp2_with fail
      refine (pick_any 5 g a bs cap _ B _ S.out.rdr (by omega) (by omega) (by omega)).mono ?_
      rintro e y10 ⟨z10, rfl, z10l, z10m, hgr, -, hr⟩
      have z10h := z10m (by omega)
      have T := Lib.hid (S.out.pick hgr hr)
      clear z10m hgr hr S
      obtain ⟨r10, hb⟩ := T.out.box
      obtain ⟨c0, c1, c2, c3, c4, c5, c6, c7⟩ := eight hb
      have f := hb.frozen 2
      have f' := hb.frozen 3
      have S := Lib.hid ((T.out.store 2 (z10) (by omega)).store 3 (-1) (by omega))
      clear T hb
      go_wp2_with fail
      generalize ((y10.setCell ⟨pb, 2, none⟩ (.int .i64 (z10))).setCell ⟨pb, 3, none⟩ (.int .i64 (-1))) = x10 at *
      clear c0 c1 c2 c3 c4 c5 c6 c7 f f'
      go_wp2_with fail
      refine (pick_any 4 g a bs cap _ B _ S.out.rdr (by omega) (by omega) (by omega)).mono ?_
      rintro e y11 ⟨z11, rfl, z11l, z11m, hgr, -, hr⟩
      have z11h := z11m (by omega)
      have T := Lib.hid (S.out.pick hgr hr)
      clear z11m hgr hr S
      obtain ⟨r11, hb⟩ := T.out.box
      obtain ⟨c0, c1, c2, c3, c4, c5, c6, c7⟩ := eight hb
      have f := hb.frozen 4
      have f' := hb.frozen 4
      have S := Lib.hid (T.out.store 4 (z11) (by omega))
      clear T hb
      go_wp2_with fail
      generalize (y11.setCell ⟨pb, 4, none⟩ (.int .i64 (z11))) = x11 at *
      clear c0 c1 c2 c3 c4 c5 c6 c7 f f'
      go_wp2_with fail
      refine (pick_any 4 g a bs cap _ B _ S.out.rdr (by omega) (by omega) (by omega)).mono ?_
      rintro e y12 ⟨z12, rfl, z12l, z12m, hgr, -, hr⟩
      have z12h := z12m (by omega)
      have T := Lib.hid (S.out.pick hgr hr)
      clear z12m hgr hr S
      obtain ⟨r12, hb⟩ := T.out.box
      obtain ⟨c0, c1, c2, c3, c4, c5, c6, c7⟩ := eight hb
      have f := hb.frozen 5
      have f' := hb.frozen 5
      have S := Lib.hid (T.out.store 5 (z12) (by omega))
      clear T hb
      go_wp2_with fail
      generalize (y12.setCell ⟨pb, 5, none⟩ (.int .i64 (z12))) = x12 at *
      clear c0 c1 c2 c3 c4 c5 c6 c7 f f'
      go_wp2_with fail
      go_meet
      exact ⟨_, by omega, S.out⟩
    by_cases k2 : z1 = 2
    · subst k2
      go_wp2_with fail
      refine (pick_any 5 g a bs cap _ B _ S.out.rdr (by omega) (by omega) (by omega)).mono ?_
      rintro e y10 ⟨z10, rfl, z10l, z10m, hgr, -, hr⟩
      have z10h := z10m (by omega)
      have T := Lib.hid (S.out.pick hgr hr)
      clear z10m hgr hr S
      obtain ⟨r10, hb⟩ := T.out.box
      obtain ⟨c0, c1, c2, c3, c4, c5, c6, c7⟩ := eight hb
      have f := hb.frozen 2
      have f' := hb.frozen 2
      have S := Lib.hid (T.out.store 2 (z10) (by omega))
      clear T hb
      go_wp2_with fail
      generalize (y10.setCell ⟨pb, 2, none⟩ (.int .i64 (z10))) = x10 at *
      clear c0 c1 c2 c3 c4 c5 c6 c7 f f'
      go_wp2_with fail
      go_meet
      exact ⟨_, by omega, S.out⟩
    by_cases k3 : z1 = 3
    · subst k3
      go_wp2_with fail
      go_meet
      exact ⟨_, by omega, S.out⟩
    by_cases k4 : z1 = 4
    · subst k4
      go_wp2_with fail
      go_meet
      exact ⟨_, by omega, S.out⟩
    by_cases k5 : z1 = 5
    · subst k5
      go_wp2_with fail
      refine (pick_any 5 g a bs cap _ B _ S.out.rdr (by omega) (by omega) (by omega)).mono ?_
      rintro e y10 ⟨z10, rfl, z10l, z10m, hgr, -, hr⟩
      have z10h := z10m (by omega)
      have T := Lib.hid (S.out.pick hgr hr)
      clear z10m hgr hr S
      obtain ⟨r10, hb⟩ := T.out.box
      obtain ⟨c0, c1, c2, c3, c4, c5, c6, c7⟩ := eight hb
      have f := hb.frozen 2
      have f' := hb.frozen 2
      have S := Lib.hid (T.out.store 2 (z10) (by omega))
      clear T hb
      go_wp2_with fail
      generalize (y10.setCell ⟨pb, 2, none⟩ (.int .i64 (z10))) = x10 at *
      clear c0 c1 c2 c3 c4 c5 c6 c7 f f'
      go_wp2_with fail
      refine (pick_any 4 g a bs cap _ B _ S.out.rdr (by omega) (by omega) (by omega)).mono ?_
      rintro e y11 ⟨z11, rfl, z11l, z11m, hgr, -, hr⟩
      have z11h := z11m (by omega)
      have T := Lib.hid (S.out.pick hgr hr)
      clear z11m hgr hr S
      obtain ⟨r11, hb⟩ := T.out.box
      obtain ⟨c0, c1, c2, c3, c4, c5, c6, c7⟩ := eight hb
      have f := hb.frozen 3
      have f' := hb.frozen 3
      have S := Lib.hid (T.out.store 3 (z11 - 1) (by omega))
      clear T hb
      go_wp2_with fail
      generalize (y11.setCell ⟨pb, 3, none⟩ (.int .i64 (z11 - 1))) = x11 at *
      clear c0 c1 c2 c3 c4 c5 c6 c7 f f'
      go_wp2_with fail
      refine (pick_any 4 g a bs cap _ B _ S.out.rdr (by omega) (by omega) (by omega)).mono ?_
      rintro e y12 ⟨z12, rfl, z12l, z12m, hgr, -, hr⟩
      have z12h := z12m (by omega)
      have T := Lib.hid (S.out.pick hgr hr)
      clear z12m hgr hr S
      obtain ⟨r12, hb⟩ := T.out.box
      obtain ⟨c0, c1, c2, c3, c4, c5, c6, c7⟩ := eight hb
      have f := hb.frozen 5
      have f' := hb.frozen 5
      have S := Lib.hid (T.out.store 5 (z12) (by omega))
      clear T hb
      go_wp2_with fail
      generalize (y12.setCell ⟨pb, 5, none⟩ (.int .i64 (z12))) = x12 at *
      clear c0 c1 c2 c3 c4 c5 c6 c7 f f'
      go_wp2_with fail
      refine (pick_any 4 g a bs cap _ B _ S.out.rdr (by omega) (by omega) (by omega)).mono ?_
      rintro e y13 ⟨z13, rfl, z13l, z13m, hgr, -, hr⟩
      have z13h := z13m (by omega)
      have T := Lib.hid (S.out.pick hgr hr)
      clear z13m hgr hr S
      obtain ⟨r13, hb⟩ := T.out.box
      obtain ⟨c0, c1, c2, c3, c4, c5, c6, c7⟩ := eight hb
      have f := hb.frozen 7
      have f' := hb.frozen 7
      have S := Lib.hid (T.out.store 7 (z13) (by omega))
      clear T hb
      go_wp2_with fail
      generalize (y13.setCell ⟨pb, 7, none⟩ (.int .i64 (z13))) = x13 at *
      clear c0 c1 c2 c3 c4 c5 c6 c7 f f'
      go_wp2_with fail
      go_meet
      exact ⟨_, by omega, S.out⟩
    omega
  case rest =>
    obtain ⟨p', hp', hst⟩ := hcut
    clear S
    have S := Lib.hid hst
    clear hst
    go_wp2_with fail
    refine (pick_any 24 g a bs cap p' B _ S.out.rdr (by omega) (by omega) (by omega)).mono ?_
    rintro e y5 ⟨z5, rfl, z5l, z5m, hgr, -, hr⟩
    have T := Lib.hid (S.out.pick hgr hr)
    clear z5m hgr hr S
    have S := Lib.hid T.out
    clear T
    by_cases j0 : z5 = 0
    · subst j0
      go_wp2_with fail
      refine (pick_any 6 g a bs cap _ B _ S.out.rdr (by omega) (by omega) (by omega)).mono ?_
      rintro e y20 ⟨z20, rfl, z20l, z20m, hgr, -, hr⟩
      have z20h := z20m (by omega)
      have T := Lib.hid (S.out.pick hgr hr)
      clear z20m hgr hr S
      obtain ⟨r20, hb⟩ := T.out.box
      obtain ⟨c0, c1, c2, c3, c4, c5, c6, c7⟩ := eight hb
      have f := hb.frozen 1
      have f' := hb.frozen 1
      have S := Lib.hid (T.out.store 1 (z20 - 1) (by omega))
      clear T hb
      go_upto_region 29 with (fail)
      generalize (y20.setCell ⟨pb, 1, none⟩ (.int .i64 (z20 - 1))) = x20 at *
      clear c0 c1 c2 c3 c4 c5 c6 c7 f f'
      obtain ⟨r, hb⟩ := S.out.box
      obtain ⟨c0, c1, c2, c3, c4, c5, c6, c7⟩ := eight hb
      obtain ⟨d0, d1, d2, d3, d4, d5, d6, d7⟩ := eight S.out.res
      have t0 := S.out.res.frozen 0
      have t1 := S.out.res.frozen 1
      have t2 := S.out.res.frozen 2
      have t3 := S.out.res.frozen 3
      have t4 := S.out.res.frozen 4
      have t5 := S.out.res.frozen 5
      have t6 := S.out.res.frozen 6
      have t7 := S.out.res.frozen 7
      have n1 : w.heap.size ≠ pb := by omega
      clear hb
      go_wp2
      refine bodyPost_ret (v := recV r) (by simp [results, Try.results30, go_sem, d0, d1, d2, d3, d4, d5, d6, d7]) rfl (S.out.finish (by omega) r)
    have b0 : (z5 == 0) = false := by simpa using j0
    clear j0
    by_cases j1 : z5 = 1
    · subst j1
      go_wp2_with fail
      refine (pick_any 6 g a bs cap _ B _ S.out.rdr (by omega) (by omega) (by omega)).mono ?_
      rintro e y20 ⟨z20, rfl, z20l, z20m, hgr, -, hr⟩
      have z20h := z20m (by omega)
      have T := Lib.hid (S.out.pick hgr hr)
      clear z20m hgr hr S
      obtain ⟨r20, hb⟩ := T.out.box
      obtain ⟨c0, c1, c2, c3, c4, c5, c6, c7⟩ := eight hb
      have f := hb.frozen 3
      have f' := hb.frozen 3
      have S := Lib.hid (T.out.store 3 (z20 - 2) (by omega))
      clear T hb
      go_upto_region 29 with (fail)
      generalize (y20.setCell ⟨pb, 3, none⟩ (.int .i64 (z20 - 2))) = x20 at *
      clear c0 c1 c2 c3 c4 c5 c6 c7 f f'
      obtain ⟨r, hb⟩ := S.out.box
      obtain ⟨c0, c1, c2, c3, c4, c5, c6, c7⟩ := eight hb
      obtain ⟨d0, d1, d2, d3, d4, d5, d6, d7⟩ := eight S.out.res
      have t0 := S.out.res.frozen 0
      have t1 := S.out.res.frozen 1
      have t2 := S.out.res.frozen 2
      have t3 := S.out.res.frozen 3
      have t4 := S.out.res.frozen 4
      have t5 := S.out.res.frozen 5
      have t6 := S.out.res.frozen 6
      have t7 := S.out.res.frozen 7
      have n1 : w.heap.size ≠ pb := by omega
      clear hb
      go_wp2
      refine bodyPost_ret (v := recV r) (by simp [results, Try.results30, go_sem, d0, d1, d2, d3, d4, d5, d6, d7]) rfl (S.out.finish (by omega) r)
    have b1 : (z5 == 1) = false := by simpa using j1
    clear j1
    by_cases j2 : z5 = 2
    · subst j2
      go_wp2_with fail
      refine (pick_any 13 g a bs cap _ B _ S.out.rdr (by omega) (by omega) (by omega)).mono ?_
      rintro e y20 ⟨z20, rfl, z20l, z20m, hgr, -, hr⟩
      have z20h := z20m (by omega)
      have T := Lib.hid (S.out.pick hgr hr)
      clear z20m hgr hr S
      obtain ⟨r20, hb⟩ := T.out.box
      obtain ⟨c0, c1, c2, c3, c4, c5, c6, c7⟩ := eight hb
      have f := hb.frozen 5
      have f' := hb.frozen 5
      have S := Lib.hid (T.out.store 5 (z20 - 1) (by omega))
      clear T hb
      go_upto_region 29 with (fail)
      generalize (y20.setCell ⟨pb, 5, none⟩ (.int .i64 (z20 - 1))) = x20 at *
      clear c0 c1 c2 c3 c4 c5 c6 c7 f f'
      obtain ⟨r, hb⟩ := S.out.box
      obtain ⟨c0, c1, c2, c3, c4, c5, c6, c7⟩ := eight hb
      obtain ⟨d0, d1, d2, d3, d4, d5, d6, d7⟩ := eight S.out.res
      have t0 := S.out.res.frozen 0
      have t1 := S.out.res.frozen 1
      have t2 := S.out.res.frozen 2
      have t3 := S.out.res.frozen 3
      have t4 := S.out.res.frozen 4
      have t5 := S.out.res.frozen 5
      have t6 := S.out.res.frozen 6
      have t7 := S.out.res.frozen 7
      have n1 : w.heap.size ≠ pb := by omega
      clear hb
      go_wp2
      refine bodyPost_ret (v := recV r) (by simp [results, Try.results30, go_sem, d0, d1, d2, d3, d4, d5, d6, d7]) rfl (S.out.finish (by omega) r)
    have b2 : (z5 == 2) = false := by simpa using j2
    clear j2
    by_cases j3 : z5 = 3
    · subst j3
      go_wp2_with fail
      refine (pick_any 3 g a bs cap _ B _ S.out.rdr (by omega) (by omega) (by omega)).mono ?_
      rintro e y20 ⟨z20, rfl, z20l, z20m, hgr, -, hr⟩
      have z20h := z20m (by omega)
      have T := Lib.hid (S.out.pick hgr hr)
      clear z20m hgr hr S
      obtain ⟨r20, hb⟩ := T.out.box
      obtain ⟨c0, c1, c2, c3, c4, c5, c6, c7⟩ := eight hb
      have f := hb.frozen 7
      have f' := hb.frozen 7
      have S := Lib.hid (T.out.store 7 (z20) (by omega))
      clear T hb
      go_upto_region 29 with (fail)
      generalize (y20.setCell ⟨pb, 7, none⟩ (.int .i64 (z20))) = x20 at *
      clear c0 c1 c2 c3 c4 c5 c6 c7 f f'
      obtain ⟨r, hb⟩ := S.out.box
      obtain ⟨c0, c1, c2, c3, c4, c5, c6, c7⟩ := eight hb
      obtain ⟨d0, d1, d2, d3, d4, d5, d6, d7⟩ := eight S.out.res
      have t0 := S.out.res.frozen 0
      have t1 := S.out.res.frozen 1
      have t2 := S.out.res.frozen 2
      have t3 := S.out.res.frozen 3
      have t4 := S.out.res.frozen 4
      have t5 := S.out.res.frozen 5
      have t6 := S.out.res.frozen 6
      have t7 := S.out.res.frozen 7
      have n1 : w.heap.size ≠ pb := by omega
      clear hb
      go_wp2
      refine bodyPost_ret (v := recV r) (by simp [results, Try.results30, go_sem, d0, d1, d2, d3, d4, d5, d6, d7]) rfl (S.out.finish (by omega) r)
    have b3 : (z5 == 3) = false := by simpa using j3
    clear j3
    obtain ⟨r, hb⟩ := S.out.box
    obtain ⟨c0, c1, c2, c3, c4, c5, c6, c7⟩ := eight hb
    obtain ⟨d0, d1, d2, d3, d4, d5, d6, d7⟩ := eight S.out.res
    have t0 := S.out.res.frozen 0
    have t1 := S.out.res.frozen 1
    have t2 := S.out.res.frozen 2
    have t3 := S.out.res.frozen 3
    have t4 := S.out.res.frozen 4
    have t5 := S.out.res.frozen 5
    have t6 := S.out.res.frozen 6
    have t7 := S.out.res.frozen 7
    have n1 : w.heap.size ≠ pb := by omega
    clear hb
    go_wp2
    refine bodyPost_ret (v := recV r) (by simp [results, Try.results30, go_sem, d0, d1, d2, d3, d4, d5, d6, d7]) rfl (S.out.finish (by omega) r)
end Go.Proofs.Ytejbmjdipfcblaa.Base
