/-
  Contract of the model's l22Do, kind by kind. Conditions: the engine lies in memory and keeps what holds throughout a play; the event's values lie in a block of numbers.
-/
import Derived.Test.YtejbmjdipfcblaaPutK
import Derived.Test.YtejbmjdipfcblaaOwnnK
import Derived.Test.YtejbmjdipfcblaaLdK
import Derived.Test.YtejbmjdipfcblaaUnK
import Derived.Test.YtejbmjdipfcblaaDnK
import Derived.Test.YtejbmjdipfcblaaFalK
import Derived.Test.YtejbmjdipfcblaaUpK
namespace Go.Proofs.Ytejbmjdipfcblaa.Base
open Go.RowKit

/-- an event, as a value; its cells -/
abbrev evV (v : Ev) (av : Option Addr) (cv : Nat) : Value := .agg #[.int .i64 v.k, .int .i64 v.t, .int .i64 v.p, .int .i64 v.s, .int .i64 v.n, .slice av v.zs.length cv]
abbrev evC (v : Ev) (av : Option Addr) (cv : Nat) : Array Value := #[.int .i64 v.k, .int .i64 v.t, .int .i64 v.p, .int .i64 v.s, .int .i64 v.n, .slice av v.zs.length cv]
theorem sixE {w : World} {g : Nat} {t : TypeId} {a b c d e f : Value} (h : Has w g t #[a, b, c, d, e, f]) :
    w.cell? ⟨g, 0, none⟩ = some a ∧ w.cell? ⟨g, 1, none⟩ = some b ∧ w.cell? ⟨g, 2, none⟩ = some c ∧ w.cell? ⟨g, 3, none⟩ = some d ∧ w.cell? ⟨g, 4, none⟩ = some e ∧ w.cell? ⟨g, 5, none⟩ = some f := ⟨h.cell 0, h.cell 1, h.cell 2, h.cell 3, h.cell 4, h.cell 5⟩

set_option maxRecDepth 100000 in
set_option maxHeartbeats 2000000 in
theorem l22Do_put (base : Nat) (x : Ad) (e : EE) (t p s n : Int) (zs : List Int) (av : Option Addr) (cv : Nat) (w : World) (hbw : base ≤ w.heap.size) (he : Eng w base x e) (hi : Inv e) (hv : Vals w av zs) :
    Calls Try.prog 50 #[engV x e, evV ⟨1, t, p, s, n, zs⟩ av cv] w (RetE base x (doE e ⟨1, t, p, s, n, zs⟩) w) := by
  have HE := Lib.hid he
  have HI := Lib.hid hi
  have HV := Lib.hid hv
  clear he hi hv
  have X2 : Hid (Has ((((w.alloc (.cells (engC x e) 60)).alloc (.cells (evC ⟨1, t, p, s, n, zs⟩ av cv) 72)).alloc (.cells zeroEC 60)).alloc (.cells (engC x e) 60)) w.heap.size 60 (engC x e)) := (((Has.new w _ _).alloc _).alloc _).alloc _
  have X3 : Hid (Has ((((w.alloc (.cells (engC x e) 60)).alloc (.cells (evC ⟨1, t, p, s, n, zs⟩ av cv) 72)).alloc (.cells zeroEC 60)).alloc (.cells (engC x e) 60)) (w.heap.size + 1) 72 (evC ⟨1, t, p, s, n, zs⟩ av cv)) := by
    have h := ((Has.new (w.alloc (.cells (engC x e) 60)) 72 (evC ⟨1, t, p, s, n, zs⟩ av cv)).alloc (.cells zeroEC 60)).alloc (.cells (engC x e) 60)
    rw [World.size_alloc] at h
    exact h
  have X4 : Hid (Has ((((w.alloc (.cells (engC x e) 60)).alloc (.cells (evC ⟨1, t, p, s, n, zs⟩ av cv) 72)).alloc (.cells zeroEC 60)).alloc (.cells (engC x e) 60)) (w.heap.size + 2) 60 zeroEC) := by
    have h := (Has.new ((w.alloc (.cells (engC x e) 60)).alloc (.cells (evC ⟨1, t, p, s, n, zs⟩ av cv) 72)) 60 zeroEC).alloc (.cells (engC x e) 60)
    rw [World.size_alloc, World.size_alloc] at h
    exact h
  have X5 : Hid (Has ((((w.alloc (.cells (engC x e) 60)).alloc (.cells (evC ⟨1, t, p, s, n, zs⟩ av cv) 72)).alloc (.cells zeroEC 60)).alloc (.cells (engC x e) 60)) (w.heap.size + 3) 60 (engC x e)) := by
    have h := Has.new (((w.alloc (.cells (engC x e) 60)).alloc (.cells (evC ⟨1, t, p, s, n, zs⟩ av cv) 72)).alloc (.cells zeroEC 60)) 60 (engC x e)
    rw [World.size_alloc, World.size_alloc, World.size_alloc] at h
    exact h
  have B1 : Hid (Below w.heap.size w ((((w.alloc (.cells (engC x e) 60)).alloc (.cells (evC ⟨1, t, p, s, n, zs⟩ av cv) 72)).alloc (.cells zeroEC 60)).alloc (.cells (engC x e) 60))) := ((below_two _ _ _).alloc (by simp; omega) _).alloc (by simp; omega) _
  go_enter Try.func50, Try.ntmps50
  go_upto_region 2 with (fail)
  generalize ((((w.alloc (.cells (engC x e) 60)).alloc (.cells (evC ⟨1, t, p, s, n, zs⟩ av cv) 72)).alloc (.cells zeroEC 60)).alloc (.cells (engC x e) 60)) = w1 at *
  have HV1 : Hid (Vals w1 av zs) := HV.out.below B1.out
  have hb1 : base ≤ w1.heap.size := Nat.le_trans hbw B1.out.size
  obtain ⟨c0, c1, c2, c3, c4⟩ := X2.out.five
  obtain ⟨d0, d1, d2, d3, d4, d5⟩ := sixE X3.out
  have f0 := X5.out.frozen 0
  have f1 := X5.out.frozen 1
  have f2 := X5.out.frozen 2
  have f3 := X5.out.frozen 3
  have f4 := X5.out.frozen 4
  obtain ⟨p0, p1, p2, p3, p4⟩ := X5.out.five
  have HE1 := Lib.hid (HE.out.below B1.out)
  obtain ⟨res, hres⟩ : ∃ r, putE e t p s n = r := ⟨_, rfl⟩
  obtain ⟨e3, b3⟩ := res
  have HA : Hid (Calls Try.prog 67 #[engV x e, .int .i64 t, .int .i64 p, .int .i64 s, .int .i64 n] w1 (RetEB base x (e3, b3) w1)) := by
    have h := l12Put_any base x e t p s n w1 hb1 HE1.out HI.out
    rw [hres] at h
    exact h
  have HR : Hid (doE e ⟨1, t, p, s, n, zs⟩ = e3) := by show (putE e t p s n).1 = e3; rw [hres]
  clear hres
  go_wp2_with fail
  refine HA.out.mono ?_
  rintro en w3 ⟨y, rfl, E3, F3⟩
  have n4 := (HE.out.below B1.out).ne_eng X4.out
  have n5 := (HE.out.below B1.out).ne_eng X5.out
  have Z4 := Lib.hid (F3.has X4.out n4.1 n4.2)
  have Z5 := Lib.hid (F3.has X5.out n5.1 n5.2)
  have ZF := Lib.hid ((Frm.of_below B1.out rfl rfl).trans F3)
  have ZE := Lib.hid E3
  clear E3 F3 n4 n5 c0 c1 c2 c3 c4 d0 d1 d2 d3 d4 d5 f0 f1 f2 f3 f4 X4 X5
  obtain ⟨c0, c1, c2, c3, c4⟩ := Z5.out.five
  have f0 := Z5.out.frozen 0
  have f1 := Z5.out.frozen 1
  have f2 := Z5.out.frozen 2
  have f3 := Z5.out.frozen 3
  have f4 := Z5.out.frozen 4
  have K5 : Hid (Has (((((w3.setCell ⟨w.heap.size + 3, 0, none⟩ (.slice (some ⟨y.db, 0, none⟩) 5 y.dc)).setCell ⟨w.heap.size + 3, 1, none⟩ (.slice (some ⟨y.mb, 0, none⟩) 5 y.mc)).setCell ⟨w.heap.size + 3, 2, none⟩ (.slice (some ⟨y.lb, 0, none⟩) e3.log.length y.lc)).setCell ⟨w.heap.size + 3, 3, none⟩ (.int .i64 e3.safe)).setCell ⟨w.heap.size + 3, 4, none⟩ (.bool e3.down)) (w.heap.size + 3) 60 (engC y e3)) := put5E_has Z5.out y e3
  have K4 : Hid (Has (((((w3.setCell ⟨w.heap.size + 3, 0, none⟩ (.slice (some ⟨y.db, 0, none⟩) 5 y.dc)).setCell ⟨w.heap.size + 3, 1, none⟩ (.slice (some ⟨y.mb, 0, none⟩) 5 y.mc)).setCell ⟨w.heap.size + 3, 2, none⟩ (.slice (some ⟨y.lb, 0, none⟩) e3.log.length y.lc)).setCell ⟨w.heap.size + 3, 3, none⟩ (.int .i64 e3.safe)).setCell ⟨w.heap.size + 3, 4, none⟩ (.bool e3.down)) (w.heap.size + 2) 60 zeroEC) := Z4.out.keep (put5E_far (x := y) (e := e3) (by omega))
  have KE : Hid (Eng (((((w3.setCell ⟨w.heap.size + 3, 0, none⟩ (.slice (some ⟨y.db, 0, none⟩) 5 y.dc)).setCell ⟨w.heap.size + 3, 1, none⟩ (.slice (some ⟨y.mb, 0, none⟩) 5 y.mc)).setCell ⟨w.heap.size + 3, 2, none⟩ (.slice (some ⟨y.lb, 0, none⟩) e3.log.length y.lc)).setCell ⟨w.heap.size + 3, 3, none⟩ (.int .i64 e3.safe)).setCell ⟨w.heap.size + 3, 4, none⟩ (.bool e3.down)) base y e3) := ZE.out.box Z5.out (by simp) (fun i _ hn => put5E_far (x := y) (e := e3) hn)
  have KF : Hid (Frm x w y (((((w3.setCell ⟨w.heap.size + 3, 0, none⟩ (.slice (some ⟨y.db, 0, none⟩) 5 y.dc)).setCell ⟨w.heap.size + 3, 1, none⟩ (.slice (some ⟨y.mb, 0, none⟩) 5 y.mc)).setCell ⟨w.heap.size + 3, 2, none⟩ (.slice (some ⟨y.lb, 0, none⟩) e3.log.length y.lc)).setCell ⟨w.heap.size + 3, 3, none⟩ (.int .i64 e3.safe)).setCell ⟨w.heap.size + 3, 4, none⟩ (.bool e3.down))) := ZF.out.put5E (by omega) y e3
  go_upto_region 25 with (fail)
  clear Z4 Z5 ZF ZE c0 c1 c2 c3 c4 f0 f1 f2 f3 f4
  generalize (((((w3.setCell ⟨w.heap.size + 3, 0, none⟩ (.slice (some ⟨y.db, 0, none⟩) 5 y.dc)).setCell ⟨w.heap.size + 3, 1, none⟩ (.slice (some ⟨y.mb, 0, none⟩) 5 y.mc)).setCell ⟨w.heap.size + 3, 2, none⟩ (.slice (some ⟨y.lb, 0, none⟩) e3.log.length y.lc)).setCell ⟨w.heap.size + 3, 3, none⟩ (.int .i64 e3.safe)).setCell ⟨w.heap.size + 3, 4, none⟩ (.bool e3.down)) = w5 at *
  obtain ⟨c0, c1, c2, c3, c4⟩ := K5.out.five
  obtain ⟨y0, y1, y2, y3, y4⟩ := K4.out.five
  have t0 := K4.out.frozen 0
  have t1 := K4.out.frozen 1
  have t2 := K4.out.frozen 2
  have t3 := K4.out.frozen 3
  have t4 := K4.out.frozen 4
  go_wp2
  refine bodyPost_ret (v := engV y e3) (by simp [results, Try.results50, go_sem, y0, y1, y2, y3, y4]) rfl ⟨y, by rw [HR.out], ?_, KF.out.put5E (by omega) y e3⟩
  rw [HR.out]
  exact KE.out.box K4.out (by simp) (fun i _ hn => put5E_far (x := y) (e := e3) hn)

set_option maxRecDepth 100000 in
set_option maxHeartbeats 2000000 in
theorem l22Do_own (base : Nat) (x : Ad) (e : EE) (t p s n : Int) (zs : List Int) (av : Option Addr) (cv : Nat) (w : World) (hbw : base ≤ w.heap.size) (he : Eng w base x e) (hi : Inv e) (hv : Vals w av zs) :
    Calls Try.prog 50 #[engV x e, evV ⟨2, t, p, s, n, zs⟩ av cv] w (RetE base x (doE e ⟨2, t, p, s, n, zs⟩) w) := by
  have HE := Lib.hid he
  have HI := Lib.hid hi
  have HV := Lib.hid hv
  clear he hi hv
  have X2 : Hid (Has ((((w.alloc (.cells (engC x e) 60)).alloc (.cells (evC ⟨2, t, p, s, n, zs⟩ av cv) 72)).alloc (.cells zeroEC 60)).alloc (.cells (engC x e) 60)) w.heap.size 60 (engC x e)) := (((Has.new w _ _).alloc _).alloc _).alloc _
  have X3 : Hid (Has ((((w.alloc (.cells (engC x e) 60)).alloc (.cells (evC ⟨2, t, p, s, n, zs⟩ av cv) 72)).alloc (.cells zeroEC 60)).alloc (.cells (engC x e) 60)) (w.heap.size + 1) 72 (evC ⟨2, t, p, s, n, zs⟩ av cv)) := by
    have h := ((Has.new (w.alloc (.cells (engC x e) 60)) 72 (evC ⟨2, t, p, s, n, zs⟩ av cv)).alloc (.cells zeroEC 60)).alloc (.cells (engC x e) 60)
    rw [World.size_alloc] at h
    exact h
  have X4 : Hid (Has ((((w.alloc (.cells (engC x e) 60)).alloc (.cells (evC ⟨2, t, p, s, n, zs⟩ av cv) 72)).alloc (.cells zeroEC 60)).alloc (.cells (engC x e) 60)) (w.heap.size + 2) 60 zeroEC) := by
    have h := (Has.new ((w.alloc (.cells (engC x e) 60)).alloc (.cells (evC ⟨2, t, p, s, n, zs⟩ av cv) 72)) 60 zeroEC).alloc (.cells (engC x e) 60)
    rw [World.size_alloc, World.size_alloc] at h
    exact h
  have X5 : Hid (Has ((((w.alloc (.cells (engC x e) 60)).alloc (.cells (evC ⟨2, t, p, s, n, zs⟩ av cv) 72)).alloc (.cells zeroEC 60)).alloc (.cells (engC x e) 60)) (w.heap.size + 3) 60 (engC x e)) := by
    have h := Has.new (((w.alloc (.cells (engC x e) 60)).alloc (.cells (evC ⟨2, t, p, s, n, zs⟩ av cv) 72)).alloc (.cells zeroEC 60)) 60 (engC x e)
    rw [World.size_alloc, World.size_alloc, World.size_alloc] at h
    exact h
  have B1 : Hid (Below w.heap.size w ((((w.alloc (.cells (engC x e) 60)).alloc (.cells (evC ⟨2, t, p, s, n, zs⟩ av cv) 72)).alloc (.cells zeroEC 60)).alloc (.cells (engC x e) 60))) := ((below_two _ _ _).alloc (by simp; omega) _).alloc (by simp; omega) _
  go_enter Try.func50, Try.ntmps50
  go_upto_region 2 with (fail)
  generalize ((((w.alloc (.cells (engC x e) 60)).alloc (.cells (evC ⟨2, t, p, s, n, zs⟩ av cv) 72)).alloc (.cells zeroEC 60)).alloc (.cells (engC x e) 60)) = w1 at *
  have HV1 : Hid (Vals w1 av zs) := HV.out.below B1.out
  have hb1 : base ≤ w1.heap.size := Nat.le_trans hbw B1.out.size
  obtain ⟨c0, c1, c2, c3, c4⟩ := X2.out.five
  obtain ⟨d0, d1, d2, d3, d4, d5⟩ := sixE X3.out
  have f0 := X5.out.frozen 0
  have f1 := X5.out.frozen 1
  have f2 := X5.out.frozen 2
  have f3 := X5.out.frozen 3
  have f4 := X5.out.frozen 4
  obtain ⟨p0, p1, p2, p3, p4⟩ := X5.out.five
  have HE1 := Lib.hid (HE.out.below B1.out)
  obtain ⟨res, hres⟩ : ∃ r, ownE e t p n = r := ⟨_, rfl⟩
  obtain ⟨e3, b3⟩ := res
  have HA : Hid (Calls Try.prog 68 #[engV x e, .int .i64 t, .int .i64 p, .int .i64 n] w1 (RetEB base x (e3, b3) w1)) := by
    have h := l12Own_any base x e t p n w1 hb1 HE1.out HI.out
    rw [hres] at h
    exact h
  have HR : Hid (doE e ⟨2, t, p, s, n, zs⟩ = e3) := by show (ownE e t p n).1 = e3; rw [hres]
  clear hres
  go_wp2_with fail
  refine HA.out.mono ?_
  rintro en w3 ⟨y, rfl, E3, F3⟩
  have n4 := (HE.out.below B1.out).ne_eng X4.out
  have n5 := (HE.out.below B1.out).ne_eng X5.out
  have Z4 := Lib.hid (F3.has X4.out n4.1 n4.2)
  have Z5 := Lib.hid (F3.has X5.out n5.1 n5.2)
  have ZF := Lib.hid ((Frm.of_below B1.out rfl rfl).trans F3)
  have ZE := Lib.hid E3
  clear E3 F3 n4 n5 c0 c1 c2 c3 c4 d0 d1 d2 d3 d4 d5 f0 f1 f2 f3 f4 X4 X5
  obtain ⟨c0, c1, c2, c3, c4⟩ := Z5.out.five
  have f0 := Z5.out.frozen 0
  have f1 := Z5.out.frozen 1
  have f2 := Z5.out.frozen 2
  have f3 := Z5.out.frozen 3
  have f4 := Z5.out.frozen 4
  have K5 : Hid (Has (((((w3.setCell ⟨w.heap.size + 3, 0, none⟩ (.slice (some ⟨y.db, 0, none⟩) 5 y.dc)).setCell ⟨w.heap.size + 3, 1, none⟩ (.slice (some ⟨y.mb, 0, none⟩) 5 y.mc)).setCell ⟨w.heap.size + 3, 2, none⟩ (.slice (some ⟨y.lb, 0, none⟩) e3.log.length y.lc)).setCell ⟨w.heap.size + 3, 3, none⟩ (.int .i64 e3.safe)).setCell ⟨w.heap.size + 3, 4, none⟩ (.bool e3.down)) (w.heap.size + 3) 60 (engC y e3)) := put5E_has Z5.out y e3
  have K4 : Hid (Has (((((w3.setCell ⟨w.heap.size + 3, 0, none⟩ (.slice (some ⟨y.db, 0, none⟩) 5 y.dc)).setCell ⟨w.heap.size + 3, 1, none⟩ (.slice (some ⟨y.mb, 0, none⟩) 5 y.mc)).setCell ⟨w.heap.size + 3, 2, none⟩ (.slice (some ⟨y.lb, 0, none⟩) e3.log.length y.lc)).setCell ⟨w.heap.size + 3, 3, none⟩ (.int .i64 e3.safe)).setCell ⟨w.heap.size + 3, 4, none⟩ (.bool e3.down)) (w.heap.size + 2) 60 zeroEC) := Z4.out.keep (put5E_far (x := y) (e := e3) (by omega))
  have KE : Hid (Eng (((((w3.setCell ⟨w.heap.size + 3, 0, none⟩ (.slice (some ⟨y.db, 0, none⟩) 5 y.dc)).setCell ⟨w.heap.size + 3, 1, none⟩ (.slice (some ⟨y.mb, 0, none⟩) 5 y.mc)).setCell ⟨w.heap.size + 3, 2, none⟩ (.slice (some ⟨y.lb, 0, none⟩) e3.log.length y.lc)).setCell ⟨w.heap.size + 3, 3, none⟩ (.int .i64 e3.safe)).setCell ⟨w.heap.size + 3, 4, none⟩ (.bool e3.down)) base y e3) := ZE.out.box Z5.out (by simp) (fun i _ hn => put5E_far (x := y) (e := e3) hn)
  have KF : Hid (Frm x w y (((((w3.setCell ⟨w.heap.size + 3, 0, none⟩ (.slice (some ⟨y.db, 0, none⟩) 5 y.dc)).setCell ⟨w.heap.size + 3, 1, none⟩ (.slice (some ⟨y.mb, 0, none⟩) 5 y.mc)).setCell ⟨w.heap.size + 3, 2, none⟩ (.slice (some ⟨y.lb, 0, none⟩) e3.log.length y.lc)).setCell ⟨w.heap.size + 3, 3, none⟩ (.int .i64 e3.safe)).setCell ⟨w.heap.size + 3, 4, none⟩ (.bool e3.down))) := ZF.out.put5E (by omega) y e3
  go_upto_region 25 with (fail)
  clear Z4 Z5 ZF ZE c0 c1 c2 c3 c4 f0 f1 f2 f3 f4
  generalize (((((w3.setCell ⟨w.heap.size + 3, 0, none⟩ (.slice (some ⟨y.db, 0, none⟩) 5 y.dc)).setCell ⟨w.heap.size + 3, 1, none⟩ (.slice (some ⟨y.mb, 0, none⟩) 5 y.mc)).setCell ⟨w.heap.size + 3, 2, none⟩ (.slice (some ⟨y.lb, 0, none⟩) e3.log.length y.lc)).setCell ⟨w.heap.size + 3, 3, none⟩ (.int .i64 e3.safe)).setCell ⟨w.heap.size + 3, 4, none⟩ (.bool e3.down)) = w5 at *
  obtain ⟨c0, c1, c2, c3, c4⟩ := K5.out.five
  obtain ⟨y0, y1, y2, y3, y4⟩ := K4.out.five
  have t0 := K4.out.frozen 0
  have t1 := K4.out.frozen 1
  have t2 := K4.out.frozen 2
  have t3 := K4.out.frozen 3
  have t4 := K4.out.frozen 4
  go_wp2
  refine bodyPost_ret (v := engV y e3) (by simp [results, Try.results50, go_sem, y0, y1, y2, y3, y4]) rfl ⟨y, by rw [HR.out], ?_, KF.out.put5E (by omega) y e3⟩
  rw [HR.out]
  exact KE.out.box K4.out (by simp) (fun i _ hn => put5E_far (x := y) (e := e3) hn)

set_option maxRecDepth 100000 in
set_option maxHeartbeats 2000000 in
theorem l22Do_load (base : Nat) (x : Ad) (e : EE) (t p s n : Int) (zs : List Int) (av : Option Addr) (cv : Nat) (w : World) (hbw : base ≤ w.heap.size) (he : Eng w base x e) (hi : Inv e) (hv : Vals w av zs) (mx : zs.length ≤ 1000) :
    Calls Try.prog 50 #[engV x e, evV ⟨3, t, p, s, n, zs⟩ av cv] w (RetE base x (doE e ⟨3, t, p, s, n, zs⟩) w) := by
  have HE := Lib.hid he
  have HI := Lib.hid hi
  have HV := Lib.hid hv
  clear he hi hv
  have X2 : Hid (Has ((((w.alloc (.cells (engC x e) 60)).alloc (.cells (evC ⟨3, t, p, s, n, zs⟩ av cv) 72)).alloc (.cells zeroEC 60)).alloc (.cells (engC x e) 60)) w.heap.size 60 (engC x e)) := (((Has.new w _ _).alloc _).alloc _).alloc _
  have X3 : Hid (Has ((((w.alloc (.cells (engC x e) 60)).alloc (.cells (evC ⟨3, t, p, s, n, zs⟩ av cv) 72)).alloc (.cells zeroEC 60)).alloc (.cells (engC x e) 60)) (w.heap.size + 1) 72 (evC ⟨3, t, p, s, n, zs⟩ av cv)) := by
    have h := ((Has.new (w.alloc (.cells (engC x e) 60)) 72 (evC ⟨3, t, p, s, n, zs⟩ av cv)).alloc (.cells zeroEC 60)).alloc (.cells (engC x e) 60)
    rw [World.size_alloc] at h
    exact h
  have X4 : Hid (Has ((((w.alloc (.cells (engC x e) 60)).alloc (.cells (evC ⟨3, t, p, s, n, zs⟩ av cv) 72)).alloc (.cells zeroEC 60)).alloc (.cells (engC x e) 60)) (w.heap.size + 2) 60 zeroEC) := by
    have h := (Has.new ((w.alloc (.cells (engC x e) 60)).alloc (.cells (evC ⟨3, t, p, s, n, zs⟩ av cv) 72)) 60 zeroEC).alloc (.cells (engC x e) 60)
    rw [World.size_alloc, World.size_alloc] at h
    exact h
  have X5 : Hid (Has ((((w.alloc (.cells (engC x e) 60)).alloc (.cells (evC ⟨3, t, p, s, n, zs⟩ av cv) 72)).alloc (.cells zeroEC 60)).alloc (.cells (engC x e) 60)) (w.heap.size + 3) 60 (engC x e)) := by
    have h := Has.new (((w.alloc (.cells (engC x e) 60)).alloc (.cells (evC ⟨3, t, p, s, n, zs⟩ av cv) 72)).alloc (.cells zeroEC 60)) 60 (engC x e)
    rw [World.size_alloc, World.size_alloc, World.size_alloc] at h
    exact h
  have B1 : Hid (Below w.heap.size w ((((w.alloc (.cells (engC x e) 60)).alloc (.cells (evC ⟨3, t, p, s, n, zs⟩ av cv) 72)).alloc (.cells zeroEC 60)).alloc (.cells (engC x e) 60))) := ((below_two _ _ _).alloc (by simp; omega) _).alloc (by simp; omega) _
  go_enter Try.func50, Try.ntmps50
  go_upto_region 2 with (fail)
  generalize ((((w.alloc (.cells (engC x e) 60)).alloc (.cells (evC ⟨3, t, p, s, n, zs⟩ av cv) 72)).alloc (.cells zeroEC 60)).alloc (.cells (engC x e) 60)) = w1 at *
  have HV1 : Hid (Vals w1 av zs) := HV.out.below B1.out
  have hb1 : base ≤ w1.heap.size := Nat.le_trans hbw B1.out.size
  obtain ⟨c0, c1, c2, c3, c4⟩ := X2.out.five
  obtain ⟨d0, d1, d2, d3, d4, d5⟩ := sixE X3.out
  have f0 := X5.out.frozen 0
  have f1 := X5.out.frozen 1
  have f2 := X5.out.frozen 2
  have f3 := X5.out.frozen 3
  have f4 := X5.out.frozen 4
  obtain ⟨p0, p1, p2, p3, p4⟩ := X5.out.five
  have HE1 := Lib.hid (HE.out.below B1.out)
  obtain ⟨res, hres⟩ : ∃ r, loadE e t p zs = r := ⟨_, rfl⟩
  obtain ⟨e3, b3⟩ := res
  have HA : Hid (Calls Try.prog 69 #[engV x e, .int .i64 t, .int .i64 p, .slice av zs.length cv] w1 (RetEB base x (e3, b3) w1)) := by
    have h := l12Load_any base x e t p av cv zs w1 hb1 HE1.out HI.out HV1.out mx
    rw [hres] at h
    exact h
  have HR : Hid (doE e ⟨3, t, p, s, n, zs⟩ = e3) := by show (loadE e t p zs).1 = e3; rw [hres]
  clear hres
  go_wp2_with fail
  refine HA.out.mono ?_
  rintro en w3 ⟨y, rfl, E3, F3⟩
  have n4 := (HE.out.below B1.out).ne_eng X4.out
  have n5 := (HE.out.below B1.out).ne_eng X5.out
  have Z4 := Lib.hid (F3.has X4.out n4.1 n4.2)
  have Z5 := Lib.hid (F3.has X5.out n5.1 n5.2)
  have ZF := Lib.hid ((Frm.of_below B1.out rfl rfl).trans F3)
  have ZE := Lib.hid E3
  clear E3 F3 n4 n5 c0 c1 c2 c3 c4 d0 d1 d2 d3 d4 d5 f0 f1 f2 f3 f4 X4 X5
  obtain ⟨c0, c1, c2, c3, c4⟩ := Z5.out.five
  have f0 := Z5.out.frozen 0
  have f1 := Z5.out.frozen 1
  have f2 := Z5.out.frozen 2
  have f3 := Z5.out.frozen 3
  have f4 := Z5.out.frozen 4
  have K5 : Hid (Has (((((w3.setCell ⟨w.heap.size + 3, 0, none⟩ (.slice (some ⟨y.db, 0, none⟩) 5 y.dc)).setCell ⟨w.heap.size + 3, 1, none⟩ (.slice (some ⟨y.mb, 0, none⟩) 5 y.mc)).setCell ⟨w.heap.size + 3, 2, none⟩ (.slice (some ⟨y.lb, 0, none⟩) e3.log.length y.lc)).setCell ⟨w.heap.size + 3, 3, none⟩ (.int .i64 e3.safe)).setCell ⟨w.heap.size + 3, 4, none⟩ (.bool e3.down)) (w.heap.size + 3) 60 (engC y e3)) := put5E_has Z5.out y e3
  have K4 : Hid (Has (((((w3.setCell ⟨w.heap.size + 3, 0, none⟩ (.slice (some ⟨y.db, 0, none⟩) 5 y.dc)).setCell ⟨w.heap.size + 3, 1, none⟩ (.slice (some ⟨y.mb, 0, none⟩) 5 y.mc)).setCell ⟨w.heap.size + 3, 2, none⟩ (.slice (some ⟨y.lb, 0, none⟩) e3.log.length y.lc)).setCell ⟨w.heap.size + 3, 3, none⟩ (.int .i64 e3.safe)).setCell ⟨w.heap.size + 3, 4, none⟩ (.bool e3.down)) (w.heap.size + 2) 60 zeroEC) := Z4.out.keep (put5E_far (x := y) (e := e3) (by omega))
  have KE : Hid (Eng (((((w3.setCell ⟨w.heap.size + 3, 0, none⟩ (.slice (some ⟨y.db, 0, none⟩) 5 y.dc)).setCell ⟨w.heap.size + 3, 1, none⟩ (.slice (some ⟨y.mb, 0, none⟩) 5 y.mc)).setCell ⟨w.heap.size + 3, 2, none⟩ (.slice (some ⟨y.lb, 0, none⟩) e3.log.length y.lc)).setCell ⟨w.heap.size + 3, 3, none⟩ (.int .i64 e3.safe)).setCell ⟨w.heap.size + 3, 4, none⟩ (.bool e3.down)) base y e3) := ZE.out.box Z5.out (by simp) (fun i _ hn => put5E_far (x := y) (e := e3) hn)
  have KF : Hid (Frm x w y (((((w3.setCell ⟨w.heap.size + 3, 0, none⟩ (.slice (some ⟨y.db, 0, none⟩) 5 y.dc)).setCell ⟨w.heap.size + 3, 1, none⟩ (.slice (some ⟨y.mb, 0, none⟩) 5 y.mc)).setCell ⟨w.heap.size + 3, 2, none⟩ (.slice (some ⟨y.lb, 0, none⟩) e3.log.length y.lc)).setCell ⟨w.heap.size + 3, 3, none⟩ (.int .i64 e3.safe)).setCell ⟨w.heap.size + 3, 4, none⟩ (.bool e3.down))) := ZF.out.put5E (by omega) y e3
  go_upto_region 25 with (fail)
  clear Z4 Z5 ZF ZE c0 c1 c2 c3 c4 f0 f1 f2 f3 f4
  generalize (((((w3.setCell ⟨w.heap.size + 3, 0, none⟩ (.slice (some ⟨y.db, 0, none⟩) 5 y.dc)).setCell ⟨w.heap.size + 3, 1, none⟩ (.slice (some ⟨y.mb, 0, none⟩) 5 y.mc)).setCell ⟨w.heap.size + 3, 2, none⟩ (.slice (some ⟨y.lb, 0, none⟩) e3.log.length y.lc)).setCell ⟨w.heap.size + 3, 3, none⟩ (.int .i64 e3.safe)).setCell ⟨w.heap.size + 3, 4, none⟩ (.bool e3.down)) = w5 at *
  obtain ⟨c0, c1, c2, c3, c4⟩ := K5.out.five
  obtain ⟨y0, y1, y2, y3, y4⟩ := K4.out.five
  have t0 := K4.out.frozen 0
  have t1 := K4.out.frozen 1
  have t2 := K4.out.frozen 2
  have t3 := K4.out.frozen 3
  have t4 := K4.out.frozen 4
  go_wp2
  refine bodyPost_ret (v := engV y e3) (by simp [results, Try.results50, go_sem, y0, y1, y2, y3, y4]) rfl ⟨y, by rw [HR.out], ?_, KF.out.put5E (by omega) y e3⟩
  rw [HR.out]
  exact KE.out.box K4.out (by simp) (fun i _ hn => put5E_far (x := y) (e := e3) hn)

set_option maxRecDepth 100000 in
set_option maxHeartbeats 2000000 in
theorem l22Do_done (base : Nat) (x : Ad) (e : EE) (t p s n : Int) (zs : List Int) (av : Option Addr) (cv : Nat) (w : World) (hbw : base ≤ w.heap.size) (he : Eng w base x e) (hi : Inv e) (hv : Vals w av zs) :
    Calls Try.prog 50 #[engV x e, evV ⟨4, t, p, s, n, zs⟩ av cv] w (RetE base x (doE e ⟨4, t, p, s, n, zs⟩) w) := by
  have HE := Lib.hid he
  have HI := Lib.hid hi
  have HV := Lib.hid hv
  clear he hi hv
  have X2 : Hid (Has ((((w.alloc (.cells (engC x e) 60)).alloc (.cells (evC ⟨4, t, p, s, n, zs⟩ av cv) 72)).alloc (.cells zeroEC 60)).alloc (.cells (engC x e) 60)) w.heap.size 60 (engC x e)) := (((Has.new w _ _).alloc _).alloc _).alloc _
  have X3 : Hid (Has ((((w.alloc (.cells (engC x e) 60)).alloc (.cells (evC ⟨4, t, p, s, n, zs⟩ av cv) 72)).alloc (.cells zeroEC 60)).alloc (.cells (engC x e) 60)) (w.heap.size + 1) 72 (evC ⟨4, t, p, s, n, zs⟩ av cv)) := by
    have h := ((Has.new (w.alloc (.cells (engC x e) 60)) 72 (evC ⟨4, t, p, s, n, zs⟩ av cv)).alloc (.cells zeroEC 60)).alloc (.cells (engC x e) 60)
    rw [World.size_alloc] at h
    exact h
  have X4 : Hid (Has ((((w.alloc (.cells (engC x e) 60)).alloc (.cells (evC ⟨4, t, p, s, n, zs⟩ av cv) 72)).alloc (.cells zeroEC 60)).alloc (.cells (engC x e) 60)) (w.heap.size + 2) 60 zeroEC) := by
    have h := (Has.new ((w.alloc (.cells (engC x e) 60)).alloc (.cells (evC ⟨4, t, p, s, n, zs⟩ av cv) 72)) 60 zeroEC).alloc (.cells (engC x e) 60)
    rw [World.size_alloc, World.size_alloc] at h
    exact h
  have X5 : Hid (Has ((((w.alloc (.cells (engC x e) 60)).alloc (.cells (evC ⟨4, t, p, s, n, zs⟩ av cv) 72)).alloc (.cells zeroEC 60)).alloc (.cells (engC x e) 60)) (w.heap.size + 3) 60 (engC x e)) := by
    have h := Has.new (((w.alloc (.cells (engC x e) 60)).alloc (.cells (evC ⟨4, t, p, s, n, zs⟩ av cv) 72)).alloc (.cells zeroEC 60)) 60 (engC x e)
    rw [World.size_alloc, World.size_alloc, World.size_alloc] at h
    exact h
  have B1 : Hid (Below w.heap.size w ((((w.alloc (.cells (engC x e) 60)).alloc (.cells (evC ⟨4, t, p, s, n, zs⟩ av cv) 72)).alloc (.cells zeroEC 60)).alloc (.cells (engC x e) 60))) := ((below_two _ _ _).alloc (by simp; omega) _).alloc (by simp; omega) _
  go_enter Try.func50, Try.ntmps50
  go_upto_region 2 with (fail)
  generalize ((((w.alloc (.cells (engC x e) 60)).alloc (.cells (evC ⟨4, t, p, s, n, zs⟩ av cv) 72)).alloc (.cells zeroEC 60)).alloc (.cells (engC x e) 60)) = w1 at *
  have HV1 : Hid (Vals w1 av zs) := HV.out.below B1.out
  have hb1 : base ≤ w1.heap.size := Nat.le_trans hbw B1.out.size
  obtain ⟨c0, c1, c2, c3, c4⟩ := X2.out.five
  obtain ⟨d0, d1, d2, d3, d4, d5⟩ := sixE X3.out
  have f0 := X5.out.frozen 0
  have f1 := X5.out.frozen 1
  have f2 := X5.out.frozen 2
  have f3 := X5.out.frozen 3
  have f4 := X5.out.frozen 4
  obtain ⟨p0, p1, p2, p3, p4⟩ := X5.out.five
  have HE1 := Lib.hid (HE.out.below B1.out)
  obtain ⟨res, hres⟩ : ∃ r, doneE e t = r := ⟨_, rfl⟩
  obtain ⟨e3, b3⟩ := res
  have HA : Hid (Calls Try.prog 70 #[engV x e, .int .i64 t] w1 (RetEB base x (e3, b3) w1)) := by
    have h := l13Done_any base x e t w1 hb1 HE1.out HI.out
    rw [hres] at h
    exact h
  have HR : Hid (doE e ⟨4, t, p, s, n, zs⟩ = e3) := by show (doneE e t).1 = e3; rw [hres]
  clear hres
  go_wp2_with fail
  refine HA.out.mono ?_
  rintro en w3 ⟨y, rfl, E3, F3⟩
  have n4 := (HE.out.below B1.out).ne_eng X4.out
  have n5 := (HE.out.below B1.out).ne_eng X5.out
  have Z4 := Lib.hid (F3.has X4.out n4.1 n4.2)
  have Z5 := Lib.hid (F3.has X5.out n5.1 n5.2)
  have ZF := Lib.hid ((Frm.of_below B1.out rfl rfl).trans F3)
  have ZE := Lib.hid E3
  clear E3 F3 n4 n5 c0 c1 c2 c3 c4 d0 d1 d2 d3 d4 d5 f0 f1 f2 f3 f4 X4 X5
  obtain ⟨c0, c1, c2, c3, c4⟩ := Z5.out.five
  have f0 := Z5.out.frozen 0
  have f1 := Z5.out.frozen 1
  have f2 := Z5.out.frozen 2
  have f3 := Z5.out.frozen 3
  have f4 := Z5.out.frozen 4
  have K5 : Hid (Has (((((w3.setCell ⟨w.heap.size + 3, 0, none⟩ (.slice (some ⟨y.db, 0, none⟩) 5 y.dc)).setCell ⟨w.heap.size + 3, 1, none⟩ (.slice (some ⟨y.mb, 0, none⟩) 5 y.mc)).setCell ⟨w.heap.size + 3, 2, none⟩ (.slice (some ⟨y.lb, 0, none⟩) e3.log.length y.lc)).setCell ⟨w.heap.size + 3, 3, none⟩ (.int .i64 e3.safe)).setCell ⟨w.heap.size + 3, 4, none⟩ (.bool e3.down)) (w.heap.size + 3) 60 (engC y e3)) := put5E_has Z5.out y e3
  have K4 : Hid (Has (((((w3.setCell ⟨w.heap.size + 3, 0, none⟩ (.slice (some ⟨y.db, 0, none⟩) 5 y.dc)).setCell ⟨w.heap.size + 3, 1, none⟩ (.slice (some ⟨y.mb, 0, none⟩) 5 y.mc)).setCell ⟨w.heap.size + 3, 2, none⟩ (.slice (some ⟨y.lb, 0, none⟩) e3.log.length y.lc)).setCell ⟨w.heap.size + 3, 3, none⟩ (.int .i64 e3.safe)).setCell ⟨w.heap.size + 3, 4, none⟩ (.bool e3.down)) (w.heap.size + 2) 60 zeroEC) := Z4.out.keep (put5E_far (x := y) (e := e3) (by omega))
  have KE : Hid (Eng (((((w3.setCell ⟨w.heap.size + 3, 0, none⟩ (.slice (some ⟨y.db, 0, none⟩) 5 y.dc)).setCell ⟨w.heap.size + 3, 1, none⟩ (.slice (some ⟨y.mb, 0, none⟩) 5 y.mc)).setCell ⟨w.heap.size + 3, 2, none⟩ (.slice (some ⟨y.lb, 0, none⟩) e3.log.length y.lc)).setCell ⟨w.heap.size + 3, 3, none⟩ (.int .i64 e3.safe)).setCell ⟨w.heap.size + 3, 4, none⟩ (.bool e3.down)) base y e3) := ZE.out.box Z5.out (by simp) (fun i _ hn => put5E_far (x := y) (e := e3) hn)
  have KF : Hid (Frm x w y (((((w3.setCell ⟨w.heap.size + 3, 0, none⟩ (.slice (some ⟨y.db, 0, none⟩) 5 y.dc)).setCell ⟨w.heap.size + 3, 1, none⟩ (.slice (some ⟨y.mb, 0, none⟩) 5 y.mc)).setCell ⟨w.heap.size + 3, 2, none⟩ (.slice (some ⟨y.lb, 0, none⟩) e3.log.length y.lc)).setCell ⟨w.heap.size + 3, 3, none⟩ (.int .i64 e3.safe)).setCell ⟨w.heap.size + 3, 4, none⟩ (.bool e3.down))) := ZF.out.put5E (by omega) y e3
  go_upto_region 25 with (fail)
  clear Z4 Z5 ZF ZE c0 c1 c2 c3 c4 f0 f1 f2 f3 f4
  generalize (((((w3.setCell ⟨w.heap.size + 3, 0, none⟩ (.slice (some ⟨y.db, 0, none⟩) 5 y.dc)).setCell ⟨w.heap.size + 3, 1, none⟩ (.slice (some ⟨y.mb, 0, none⟩) 5 y.mc)).setCell ⟨w.heap.size + 3, 2, none⟩ (.slice (some ⟨y.lb, 0, none⟩) e3.log.length y.lc)).setCell ⟨w.heap.size + 3, 3, none⟩ (.int .i64 e3.safe)).setCell ⟨w.heap.size + 3, 4, none⟩ (.bool e3.down)) = w5 at *
  obtain ⟨c0, c1, c2, c3, c4⟩ := K5.out.five
  obtain ⟨y0, y1, y2, y3, y4⟩ := K4.out.five
  have t0 := K4.out.frozen 0
  have t1 := K4.out.frozen 1
  have t2 := K4.out.frozen 2
  have t3 := K4.out.frozen 3
  have t4 := K4.out.frozen 4
  go_wp2
  refine bodyPost_ret (v := engV y e3) (by simp [results, Try.results50, go_sem, y0, y1, y2, y3, y4]) rfl ⟨y, by rw [HR.out], ?_, KF.out.put5E (by omega) y e3⟩
  rw [HR.out]
  exact KE.out.box K4.out (by simp) (fun i _ hn => put5E_far (x := y) (e := e3) hn)

set_option maxRecDepth 100000 in
set_option maxHeartbeats 2000000 in
theorem l22Do_undo (base : Nat) (x : Ad) (e : EE) (t p s n : Int) (zs : List Int) (av : Option Addr) (cv : Nat) (w : World) (hbw : base ≤ w.heap.size) (he : Eng w base x e) (hi : Inv e) (hv : Vals w av zs) :
    Calls Try.prog 50 #[engV x e, evV ⟨5, t, p, s, n, zs⟩ av cv] w (RetE base x (doE e ⟨5, t, p, s, n, zs⟩) w) := by
  have HE := Lib.hid he
  have HI := Lib.hid hi
  have HV := Lib.hid hv
  clear he hi hv
  have X2 : Hid (Has ((((w.alloc (.cells (engC x e) 60)).alloc (.cells (evC ⟨5, t, p, s, n, zs⟩ av cv) 72)).alloc (.cells zeroEC 60)).alloc (.cells (engC x e) 60)) w.heap.size 60 (engC x e)) := (((Has.new w _ _).alloc _).alloc _).alloc _
  have X3 : Hid (Has ((((w.alloc (.cells (engC x e) 60)).alloc (.cells (evC ⟨5, t, p, s, n, zs⟩ av cv) 72)).alloc (.cells zeroEC 60)).alloc (.cells (engC x e) 60)) (w.heap.size + 1) 72 (evC ⟨5, t, p, s, n, zs⟩ av cv)) := by
    have h := ((Has.new (w.alloc (.cells (engC x e) 60)) 72 (evC ⟨5, t, p, s, n, zs⟩ av cv)).alloc (.cells zeroEC 60)).alloc (.cells (engC x e) 60)
    rw [World.size_alloc] at h
    exact h
  have X4 : Hid (Has ((((w.alloc (.cells (engC x e) 60)).alloc (.cells (evC ⟨5, t, p, s, n, zs⟩ av cv) 72)).alloc (.cells zeroEC 60)).alloc (.cells (engC x e) 60)) (w.heap.size + 2) 60 zeroEC) := by
    have h := (Has.new ((w.alloc (.cells (engC x e) 60)).alloc (.cells (evC ⟨5, t, p, s, n, zs⟩ av cv) 72)) 60 zeroEC).alloc (.cells (engC x e) 60)
    rw [World.size_alloc, World.size_alloc] at h
    exact h
  have X5 : Hid (Has ((((w.alloc (.cells (engC x e) 60)).alloc (.cells (evC ⟨5, t, p, s, n, zs⟩ av cv) 72)).alloc (.cells zeroEC 60)).alloc (.cells (engC x e) 60)) (w.heap.size + 3) 60 (engC x e)) := by
    have h := Has.new (((w.alloc (.cells (engC x e) 60)).alloc (.cells (evC ⟨5, t, p, s, n, zs⟩ av cv) 72)).alloc (.cells zeroEC 60)) 60 (engC x e)
    rw [World.size_alloc, World.size_alloc, World.size_alloc] at h
    exact h
  have B1 : Hid (Below w.heap.size w ((((w.alloc (.cells (engC x e) 60)).alloc (.cells (evC ⟨5, t, p, s, n, zs⟩ av cv) 72)).alloc (.cells zeroEC 60)).alloc (.cells (engC x e) 60))) := ((below_two _ _ _).alloc (by simp; omega) _).alloc (by simp; omega) _
  go_enter Try.func50, Try.ntmps50
  go_upto_region 2 with (fail)
  generalize ((((w.alloc (.cells (engC x e) 60)).alloc (.cells (evC ⟨5, t, p, s, n, zs⟩ av cv) 72)).alloc (.cells zeroEC 60)).alloc (.cells (engC x e) 60)) = w1 at *
  have HV1 : Hid (Vals w1 av zs) := HV.out.below B1.out
  have hb1 : base ≤ w1.heap.size := Nat.le_trans hbw B1.out.size
  obtain ⟨c0, c1, c2, c3, c4⟩ := X2.out.five
  obtain ⟨d0, d1, d2, d3, d4, d5⟩ := sixE X3.out
  have f0 := X5.out.frozen 0
  have f1 := X5.out.frozen 1
  have f2 := X5.out.frozen 2
  have f3 := X5.out.frozen 3
  have f4 := X5.out.frozen 4
  obtain ⟨p0, p1, p2, p3, p4⟩ := X5.out.five
  have HE1 := Lib.hid (HE.out.below B1.out)
  obtain ⟨res, hres⟩ : ∃ r, undoE e t = r := ⟨_, rfl⟩
  obtain ⟨e3, b3⟩ := res
  have HA : Hid (Calls Try.prog 71 #[engV x e, .int .i64 t] w1 (RetEB base x (e3, b3) w1)) := by
    have h := l13Undo_any base x e t w1 hb1 HE1.out HI.out
    rw [hres] at h
    exact h
  have HR : Hid (doE e ⟨5, t, p, s, n, zs⟩ = e3) := by show (undoE e t).1 = e3; rw [hres]
  clear hres
  go_wp2_with fail
  refine HA.out.mono ?_
  rintro en w3 ⟨y, rfl, E3, F3⟩
  have n4 := (HE.out.below B1.out).ne_eng X4.out
  have n5 := (HE.out.below B1.out).ne_eng X5.out
  have Z4 := Lib.hid (F3.has X4.out n4.1 n4.2)
  have Z5 := Lib.hid (F3.has X5.out n5.1 n5.2)
  have ZF := Lib.hid ((Frm.of_below B1.out rfl rfl).trans F3)
  have ZE := Lib.hid E3
  clear E3 F3 n4 n5 c0 c1 c2 c3 c4 d0 d1 d2 d3 d4 d5 f0 f1 f2 f3 f4 X4 X5
  obtain ⟨c0, c1, c2, c3, c4⟩ := Z5.out.five
  have f0 := Z5.out.frozen 0
  have f1 := Z5.out.frozen 1
  have f2 := Z5.out.frozen 2
  have f3 := Z5.out.frozen 3
  have f4 := Z5.out.frozen 4
  have K5 : Hid (Has (((((w3.setCell ⟨w.heap.size + 3, 0, none⟩ (.slice (some ⟨y.db, 0, none⟩) 5 y.dc)).setCell ⟨w.heap.size + 3, 1, none⟩ (.slice (some ⟨y.mb, 0, none⟩) 5 y.mc)).setCell ⟨w.heap.size + 3, 2, none⟩ (.slice (some ⟨y.lb, 0, none⟩) e3.log.length y.lc)).setCell ⟨w.heap.size + 3, 3, none⟩ (.int .i64 e3.safe)).setCell ⟨w.heap.size + 3, 4, none⟩ (.bool e3.down)) (w.heap.size + 3) 60 (engC y e3)) := put5E_has Z5.out y e3
  have K4 : Hid (Has (((((w3.setCell ⟨w.heap.size + 3, 0, none⟩ (.slice (some ⟨y.db, 0, none⟩) 5 y.dc)).setCell ⟨w.heap.size + 3, 1, none⟩ (.slice (some ⟨y.mb, 0, none⟩) 5 y.mc)).setCell ⟨w.heap.size + 3, 2, none⟩ (.slice (some ⟨y.lb, 0, none⟩) e3.log.length y.lc)).setCell ⟨w.heap.size + 3, 3, none⟩ (.int .i64 e3.safe)).setCell ⟨w.heap.size + 3, 4, none⟩ (.bool e3.down)) (w.heap.size + 2) 60 zeroEC) := Z4.out.keep (put5E_far (x := y) (e := e3) (by omega))
  have KE : Hid (Eng (((((w3.setCell ⟨w.heap.size + 3, 0, none⟩ (.slice (some ⟨y.db, 0, none⟩) 5 y.dc)).setCell ⟨w.heap.size + 3, 1, none⟩ (.slice (some ⟨y.mb, 0, none⟩) 5 y.mc)).setCell ⟨w.heap.size + 3, 2, none⟩ (.slice (some ⟨y.lb, 0, none⟩) e3.log.length y.lc)).setCell ⟨w.heap.size + 3, 3, none⟩ (.int .i64 e3.safe)).setCell ⟨w.heap.size + 3, 4, none⟩ (.bool e3.down)) base y e3) := ZE.out.box Z5.out (by simp) (fun i _ hn => put5E_far (x := y) (e := e3) hn)
  have KF : Hid (Frm x w y (((((w3.setCell ⟨w.heap.size + 3, 0, none⟩ (.slice (some ⟨y.db, 0, none⟩) 5 y.dc)).setCell ⟨w.heap.size + 3, 1, none⟩ (.slice (some ⟨y.mb, 0, none⟩) 5 y.mc)).setCell ⟨w.heap.size + 3, 2, none⟩ (.slice (some ⟨y.lb, 0, none⟩) e3.log.length y.lc)).setCell ⟨w.heap.size + 3, 3, none⟩ (.int .i64 e3.safe)).setCell ⟨w.heap.size + 3, 4, none⟩ (.bool e3.down))) := ZF.out.put5E (by omega) y e3
  go_upto_region 25 with (fail)
  clear Z4 Z5 ZF ZE c0 c1 c2 c3 c4 f0 f1 f2 f3 f4
  generalize (((((w3.setCell ⟨w.heap.size + 3, 0, none⟩ (.slice (some ⟨y.db, 0, none⟩) 5 y.dc)).setCell ⟨w.heap.size + 3, 1, none⟩ (.slice (some ⟨y.mb, 0, none⟩) 5 y.mc)).setCell ⟨w.heap.size + 3, 2, none⟩ (.slice (some ⟨y.lb, 0, none⟩) e3.log.length y.lc)).setCell ⟨w.heap.size + 3, 3, none⟩ (.int .i64 e3.safe)).setCell ⟨w.heap.size + 3, 4, none⟩ (.bool e3.down)) = w5 at *
  obtain ⟨c0, c1, c2, c3, c4⟩ := K5.out.five
  obtain ⟨y0, y1, y2, y3, y4⟩ := K4.out.five
  have t0 := K4.out.frozen 0
  have t1 := K4.out.frozen 1
  have t2 := K4.out.frozen 2
  have t3 := K4.out.frozen 3
  have t4 := K4.out.frozen 4
  go_wp2
  refine bodyPost_ret (v := engV y e3) (by simp [results, Try.results50, go_sem, y0, y1, y2, y3, y4]) rfl ⟨y, by rw [HR.out], ?_, KF.out.put5E (by omega) y e3⟩
  rw [HR.out]
  exact KE.out.box K4.out (by simp) (fun i _ hn => put5E_far (x := y) (e := e3) hn)

set_option maxRecDepth 100000 in
set_option maxHeartbeats 2000000 in
theorem l22Do_write (base : Nat) (x : Ad) (e : EE) (t p s n : Int) (zs : List Int) (av : Option Addr) (cv : Nat) (w : World) (hbw : base ≤ w.heap.size) (he : Eng w base x e) (hi : Inv e) (hv : Vals w av zs) :
    Calls Try.prog 50 #[engV x e, evV ⟨6, t, p, s, n, zs⟩ av cv] w (RetE base x (doE e ⟨6, t, p, s, n, zs⟩) w) := by
  have HE := Lib.hid he
  have HI := Lib.hid hi
  have HV := Lib.hid hv
  clear he hi hv
  have X2 : Hid (Has ((((w.alloc (.cells (engC x e) 60)).alloc (.cells (evC ⟨6, t, p, s, n, zs⟩ av cv) 72)).alloc (.cells zeroEC 60)).alloc (.cells (engC x e) 60)) w.heap.size 60 (engC x e)) := (((Has.new w _ _).alloc _).alloc _).alloc _
  have X3 : Hid (Has ((((w.alloc (.cells (engC x e) 60)).alloc (.cells (evC ⟨6, t, p, s, n, zs⟩ av cv) 72)).alloc (.cells zeroEC 60)).alloc (.cells (engC x e) 60)) (w.heap.size + 1) 72 (evC ⟨6, t, p, s, n, zs⟩ av cv)) := by
    have h := ((Has.new (w.alloc (.cells (engC x e) 60)) 72 (evC ⟨6, t, p, s, n, zs⟩ av cv)).alloc (.cells zeroEC 60)).alloc (.cells (engC x e) 60)
    rw [World.size_alloc] at h
    exact h
  have X4 : Hid (Has ((((w.alloc (.cells (engC x e) 60)).alloc (.cells (evC ⟨6, t, p, s, n, zs⟩ av cv) 72)).alloc (.cells zeroEC 60)).alloc (.cells (engC x e) 60)) (w.heap.size + 2) 60 zeroEC) := by
    have h := (Has.new ((w.alloc (.cells (engC x e) 60)).alloc (.cells (evC ⟨6, t, p, s, n, zs⟩ av cv) 72)) 60 zeroEC).alloc (.cells (engC x e) 60)
    rw [World.size_alloc, World.size_alloc] at h
    exact h
  have X5 : Hid (Has ((((w.alloc (.cells (engC x e) 60)).alloc (.cells (evC ⟨6, t, p, s, n, zs⟩ av cv) 72)).alloc (.cells zeroEC 60)).alloc (.cells (engC x e) 60)) (w.heap.size + 3) 60 (engC x e)) := by
    have h := Has.new (((w.alloc (.cells (engC x e) 60)).alloc (.cells (evC ⟨6, t, p, s, n, zs⟩ av cv) 72)).alloc (.cells zeroEC 60)) 60 (engC x e)
    rw [World.size_alloc, World.size_alloc, World.size_alloc] at h
    exact h
  have B1 : Hid (Below w.heap.size w ((((w.alloc (.cells (engC x e) 60)).alloc (.cells (evC ⟨6, t, p, s, n, zs⟩ av cv) 72)).alloc (.cells zeroEC 60)).alloc (.cells (engC x e) 60))) := ((below_two _ _ _).alloc (by simp; omega) _).alloc (by simp; omega) _
  go_enter Try.func50, Try.ntmps50
  go_upto_region 2 with (fail)
  generalize ((((w.alloc (.cells (engC x e) 60)).alloc (.cells (evC ⟨6, t, p, s, n, zs⟩ av cv) 72)).alloc (.cells zeroEC 60)).alloc (.cells (engC x e) 60)) = w1 at *
  have HV1 : Hid (Vals w1 av zs) := HV.out.below B1.out
  have hb1 : base ≤ w1.heap.size := Nat.le_trans hbw B1.out.size
  obtain ⟨c0, c1, c2, c3, c4⟩ := X2.out.five
  obtain ⟨d0, d1, d2, d3, d4, d5⟩ := sixE X3.out
  have f0 := X5.out.frozen 0
  have f1 := X5.out.frozen 1
  have f2 := X5.out.frozen 2
  have f3 := X5.out.frozen 3
  have f4 := X5.out.frozen 4
  obtain ⟨p0, p1, p2, p3, p4⟩ := X5.out.five
  have HE1 := Lib.hid (HE.out.below B1.out)
  have HR0 : Hid (doE e ⟨6, t, p, s, n, zs⟩ = if !e.down && inB p 0 4 then writeE e p else e) := rfl
  cases hd : e.down
  case true =>
    have HR : Hid (doE e ⟨6, t, p, s, n, zs⟩ = e) := by show doE e ⟨6, t, p, s, n, zs⟩ = e; rw [HR0.out, hd]; rfl
    go_upto_region 25 with (fail)
    clear hd
    have K4 := X4
    have KF : Hid (Frm x w x w1) := .of_below B1.out rfl rfl
    have KE : Hid (Eng w1 base x e) := HE.out.below B1.out
    clear c0 c1 c2 c3 c4 d0 d1 d2 d3 d4 d5
    obtain ⟨y0, y1, y2, y3, y4⟩ := K4.out.five
    have t0 := K4.out.frozen 0
    have t1 := K4.out.frozen 1
    have t2 := K4.out.frozen 2
    have t3 := K4.out.frozen 3
    have t4 := K4.out.frozen 4
    go_wp2
    refine bodyPost_ret (v := engV x e) (by simp [results, Try.results50, go_sem, y0, y1, y2, y3, y4]) rfl ⟨x, by rw [HR.out], ?_, KF.out.put5E (by omega) x e⟩
    rw [HR.out]
    exact KE.out.box K4.out (by simp) (fun i _ hn => put5E_far (x := x) (e := e) hn)
  cases hp : inB p 0 4
  case false =>
    have HP := Lib.hid hp
    have HR : Hid (doE e ⟨6, t, p, s, n, zs⟩ = e) := by show doE e ⟨6, t, p, s, n, zs⟩ = e; rw [HR0.out, hd, hp]; rfl
    clear hp
    go_upto_region 25 with (go_at_call 43; refine (l6In_any _ _ _ _).mono ?_; rintro en w9 ⟨rfl, rfl⟩; rw [HP.out])
    clear hd
    have K4 := X4
    have KF : Hid (Frm x w x w1) := .of_below B1.out rfl rfl
    have KE : Hid (Eng w1 base x e) := HE.out.below B1.out
    clear c0 c1 c2 c3 c4 d0 d1 d2 d3 d4 d5
    obtain ⟨y0, y1, y2, y3, y4⟩ := K4.out.five
    have t0 := K4.out.frozen 0
    have t1 := K4.out.frozen 1
    have t2 := K4.out.frozen 2
    have t3 := K4.out.frozen 3
    have t4 := K4.out.frozen 4
    go_wp2
    refine bodyPost_ret (v := engV x e) (by simp [results, Try.results50, go_sem, y0, y1, y2, y3, y4]) rfl ⟨x, by rw [HR.out], ?_, KF.out.put5E (by omega) x e⟩
    rw [HR.out]
    exact KE.out.box K4.out (by simp) (fun i _ hn => put5E_far (x := x) (e := e) hn)
  have HP := Lib.hid hp
  have hp' : 0 ≤ p ∧ p ≤ 4 := by simpa [inB] using hp
  have HR1 : Hid (doE e ⟨6, t, p, s, n, zs⟩ = writeE e p) := by show doE e ⟨6, t, p, s, n, zs⟩ = _; rw [HR0.out, hd, hp]; rfl
  obtain ⟨k, rfl⟩ := Int.eq_ofNat_of_zero_le hp'.1
  have HD := Lib.hid hd
  obtain ⟨e3, he3⟩ : ∃ e3, writeE e k = e3 := ⟨_, rfl⟩
  have HA : Hid (Calls Try.prog 72 #[engV x e, .int .i64 (k : Int)] w1 (RetE base x e3 w1)) := by
    have h := l11Write_any base x e k w1 (by omega) hb1 HE1.out HI.out
    rw [he3] at h
    exact h
  have HR : Hid (doE e ⟨6, t, (k : Int), s, n, zs⟩ = e3) := by show doE e ⟨6, t, (k : Int), s, n, zs⟩ = e3; rw [HR1.out, he3]
  clear he3 hp hp'
  go_upto_region 15 with (go_at_call 43; refine (l6In_any _ _ _ _).mono ?_; rintro en w9 ⟨rfl, rfl⟩; rw [HP.out])
  clear hd
  go_wp2_with fail
  refine HA.out.mono ?_
  rintro en w3 ⟨y, rfl, E3, F3⟩
  have n4 := (HE.out.below B1.out).ne_eng X4.out
  have n5 := (HE.out.below B1.out).ne_eng X5.out
  have Z4 := Lib.hid (F3.has X4.out n4.1 n4.2)
  have Z5 := Lib.hid (F3.has X5.out n5.1 n5.2)
  have ZF := Lib.hid ((Frm.of_below B1.out rfl rfl).trans F3)
  have ZE := Lib.hid E3
  clear E3 F3 n4 n5 c0 c1 c2 c3 c4 d0 d1 d2 d3 d4 d5 f0 f1 f2 f3 f4 X4 X5
  obtain ⟨c0, c1, c2, c3, c4⟩ := Z5.out.five
  have f0 := Z5.out.frozen 0
  have f1 := Z5.out.frozen 1
  have f2 := Z5.out.frozen 2
  have f3 := Z5.out.frozen 3
  have f4 := Z5.out.frozen 4
  have K5 : Hid (Has (((((w3.setCell ⟨w.heap.size + 3, 0, none⟩ (.slice (some ⟨y.db, 0, none⟩) 5 y.dc)).setCell ⟨w.heap.size + 3, 1, none⟩ (.slice (some ⟨y.mb, 0, none⟩) 5 y.mc)).setCell ⟨w.heap.size + 3, 2, none⟩ (.slice (some ⟨y.lb, 0, none⟩) e3.log.length y.lc)).setCell ⟨w.heap.size + 3, 3, none⟩ (.int .i64 e3.safe)).setCell ⟨w.heap.size + 3, 4, none⟩ (.bool e3.down)) (w.heap.size + 3) 60 (engC y e3)) := put5E_has Z5.out y e3
  have K4 : Hid (Has (((((w3.setCell ⟨w.heap.size + 3, 0, none⟩ (.slice (some ⟨y.db, 0, none⟩) 5 y.dc)).setCell ⟨w.heap.size + 3, 1, none⟩ (.slice (some ⟨y.mb, 0, none⟩) 5 y.mc)).setCell ⟨w.heap.size + 3, 2, none⟩ (.slice (some ⟨y.lb, 0, none⟩) e3.log.length y.lc)).setCell ⟨w.heap.size + 3, 3, none⟩ (.int .i64 e3.safe)).setCell ⟨w.heap.size + 3, 4, none⟩ (.bool e3.down)) (w.heap.size + 2) 60 zeroEC) := Z4.out.keep (put5E_far (x := y) (e := e3) (by omega))
  have KE : Hid (Eng (((((w3.setCell ⟨w.heap.size + 3, 0, none⟩ (.slice (some ⟨y.db, 0, none⟩) 5 y.dc)).setCell ⟨w.heap.size + 3, 1, none⟩ (.slice (some ⟨y.mb, 0, none⟩) 5 y.mc)).setCell ⟨w.heap.size + 3, 2, none⟩ (.slice (some ⟨y.lb, 0, none⟩) e3.log.length y.lc)).setCell ⟨w.heap.size + 3, 3, none⟩ (.int .i64 e3.safe)).setCell ⟨w.heap.size + 3, 4, none⟩ (.bool e3.down)) base y e3) := ZE.out.box Z5.out (by simp) (fun i _ hn => put5E_far (x := y) (e := e3) hn)
  have KF : Hid (Frm x w y (((((w3.setCell ⟨w.heap.size + 3, 0, none⟩ (.slice (some ⟨y.db, 0, none⟩) 5 y.dc)).setCell ⟨w.heap.size + 3, 1, none⟩ (.slice (some ⟨y.mb, 0, none⟩) 5 y.mc)).setCell ⟨w.heap.size + 3, 2, none⟩ (.slice (some ⟨y.lb, 0, none⟩) e3.log.length y.lc)).setCell ⟨w.heap.size + 3, 3, none⟩ (.int .i64 e3.safe)).setCell ⟨w.heap.size + 3, 4, none⟩ (.bool e3.down))) := ZF.out.put5E (by omega) y e3
  go_upto_region 25 with (fail)
  clear Z4 Z5 ZF ZE c0 c1 c2 c3 c4 f0 f1 f2 f3 f4
  generalize (((((w3.setCell ⟨w.heap.size + 3, 0, none⟩ (.slice (some ⟨y.db, 0, none⟩) 5 y.dc)).setCell ⟨w.heap.size + 3, 1, none⟩ (.slice (some ⟨y.mb, 0, none⟩) 5 y.mc)).setCell ⟨w.heap.size + 3, 2, none⟩ (.slice (some ⟨y.lb, 0, none⟩) e3.log.length y.lc)).setCell ⟨w.heap.size + 3, 3, none⟩ (.int .i64 e3.safe)).setCell ⟨w.heap.size + 3, 4, none⟩ (.bool e3.down)) = w5 at *
  obtain ⟨c0, c1, c2, c3, c4⟩ := K5.out.five
  obtain ⟨y0, y1, y2, y3, y4⟩ := K4.out.five
  have t0 := K4.out.frozen 0
  have t1 := K4.out.frozen 1
  have t2 := K4.out.frozen 2
  have t3 := K4.out.frozen 3
  have t4 := K4.out.frozen 4
  go_wp2
  refine bodyPost_ret (v := engV y e3) (by simp [results, Try.results50, go_sem, y0, y1, y2, y3, y4]) rfl ⟨y, by rw [HR.out], ?_, KF.out.put5E (by omega) y e3⟩
  rw [HR.out]
  exact KE.out.box K4.out (by simp) (fun i _ hn => put5E_far (x := y) (e := e3) hn)

set_option maxRecDepth 100000 in
set_option maxHeartbeats 2000000 in
theorem l22Do_force (base : Nat) (x : Ad) (e : EE) (t p s n : Int) (zs : List Int) (av : Option Addr) (cv : Nat) (w : World) (hbw : base ≤ w.heap.size) (he : Eng w base x e) (hi : Inv e) (hv : Vals w av zs) :
    Calls Try.prog 50 #[engV x e, evV ⟨7, t, p, s, n, zs⟩ av cv] w (RetE base x (doE e ⟨7, t, p, s, n, zs⟩) w) := by
  have HE := Lib.hid he
  have HI := Lib.hid hi
  have HV := Lib.hid hv
  clear he hi hv
  have X2 : Hid (Has ((((w.alloc (.cells (engC x e) 60)).alloc (.cells (evC ⟨7, t, p, s, n, zs⟩ av cv) 72)).alloc (.cells zeroEC 60)).alloc (.cells (engC x e) 60)) w.heap.size 60 (engC x e)) := (((Has.new w _ _).alloc _).alloc _).alloc _
  have X3 : Hid (Has ((((w.alloc (.cells (engC x e) 60)).alloc (.cells (evC ⟨7, t, p, s, n, zs⟩ av cv) 72)).alloc (.cells zeroEC 60)).alloc (.cells (engC x e) 60)) (w.heap.size + 1) 72 (evC ⟨7, t, p, s, n, zs⟩ av cv)) := by
    have h := ((Has.new (w.alloc (.cells (engC x e) 60)) 72 (evC ⟨7, t, p, s, n, zs⟩ av cv)).alloc (.cells zeroEC 60)).alloc (.cells (engC x e) 60)
    rw [World.size_alloc] at h
    exact h
  have X4 : Hid (Has ((((w.alloc (.cells (engC x e) 60)).alloc (.cells (evC ⟨7, t, p, s, n, zs⟩ av cv) 72)).alloc (.cells zeroEC 60)).alloc (.cells (engC x e) 60)) (w.heap.size + 2) 60 zeroEC) := by
    have h := (Has.new ((w.alloc (.cells (engC x e) 60)).alloc (.cells (evC ⟨7, t, p, s, n, zs⟩ av cv) 72)) 60 zeroEC).alloc (.cells (engC x e) 60)
    rw [World.size_alloc, World.size_alloc] at h
    exact h
  have X5 : Hid (Has ((((w.alloc (.cells (engC x e) 60)).alloc (.cells (evC ⟨7, t, p, s, n, zs⟩ av cv) 72)).alloc (.cells zeroEC 60)).alloc (.cells (engC x e) 60)) (w.heap.size + 3) 60 (engC x e)) := by
    have h := Has.new (((w.alloc (.cells (engC x e) 60)).alloc (.cells (evC ⟨7, t, p, s, n, zs⟩ av cv) 72)).alloc (.cells zeroEC 60)) 60 (engC x e)
    rw [World.size_alloc, World.size_alloc, World.size_alloc] at h
    exact h
  have B1 : Hid (Below w.heap.size w ((((w.alloc (.cells (engC x e) 60)).alloc (.cells (evC ⟨7, t, p, s, n, zs⟩ av cv) 72)).alloc (.cells zeroEC 60)).alloc (.cells (engC x e) 60))) := ((below_two _ _ _).alloc (by simp; omega) _).alloc (by simp; omega) _
  go_enter Try.func50, Try.ntmps50
  go_upto_region 2 with (fail)
  generalize ((((w.alloc (.cells (engC x e) 60)).alloc (.cells (evC ⟨7, t, p, s, n, zs⟩ av cv) 72)).alloc (.cells zeroEC 60)).alloc (.cells (engC x e) 60)) = w1 at *
  have HV1 : Hid (Vals w1 av zs) := HV.out.below B1.out
  have hb1 : base ≤ w1.heap.size := Nat.le_trans hbw B1.out.size
  obtain ⟨c0, c1, c2, c3, c4⟩ := X2.out.five
  obtain ⟨d0, d1, d2, d3, d4, d5⟩ := sixE X3.out
  have f0 := X5.out.frozen 0
  have f1 := X5.out.frozen 1
  have f2 := X5.out.frozen 2
  have f3 := X5.out.frozen 3
  have f4 := X5.out.frozen 4
  obtain ⟨p0, p1, p2, p3, p4⟩ := X5.out.five
  have HE1 := Lib.hid (HE.out.below B1.out)
  have HR0 : Hid (doE e ⟨7, t, p, s, n, zs⟩ = if e.down then e else safeE e) := rfl
  cases hd : e.down
  case true =>
    have HR : Hid (doE e ⟨7, t, p, s, n, zs⟩ = e) := by show doE e ⟨7, t, p, s, n, zs⟩ = e; rw [HR0.out, hd]; rfl
    go_upto_region 25 with (fail)
    clear hd
    have K4 := X4
    have KF : Hid (Frm x w x w1) := .of_below B1.out rfl rfl
    have KE : Hid (Eng w1 base x e) := HE.out.below B1.out
    clear c0 c1 c2 c3 c4 d0 d1 d2 d3 d4 d5
    obtain ⟨y0, y1, y2, y3, y4⟩ := K4.out.five
    have t0 := K4.out.frozen 0
    have t1 := K4.out.frozen 1
    have t2 := K4.out.frozen 2
    have t3 := K4.out.frozen 3
    have t4 := K4.out.frozen 4
    go_wp2
    refine bodyPost_ret (v := engV x e) (by simp [results, Try.results50, go_sem, y0, y1, y2, y3, y4]) rfl ⟨x, by rw [HR.out], ?_, KF.out.put5E (by omega) x e⟩
    rw [HR.out]
    exact KE.out.box K4.out (by simp) (fun i _ hn => put5E_far (x := x) (e := e) hn)
  have HR : Hid (doE e ⟨7, t, p, s, n, zs⟩ = ⟨e.disk, e.mem, e.log, (e.log.length : Int), e.down⟩) := by show doE e ⟨7, t, p, s, n, zs⟩ = _; rw [HR0.out, if_neg (by rw [hd]; simp)]; rfl
  go_upto_region 18 with (fail)
  clear hd
  have K5 : Hid (Has (w1.setCell ⟨w.heap.size + 3, 3, none⟩ (.int .i64 (e.log.length : Int))) (w.heap.size + 3) 60 (engC x ⟨e.disk, e.mem, e.log, (e.log.length : Int), e.down⟩)) := X5.out.set 3 _
  have K4 : Hid (Has (w1.setCell ⟨w.heap.size + 3, 3, none⟩ (.int .i64 (e.log.length : Int))) (w.heap.size + 2) 60 zeroEC) := X4.out.far (by simp) _
  have KE : Hid (Eng (w1.setCell ⟨w.heap.size + 3, 3, none⟩ (.int .i64 (e.log.length : Int))) base x ⟨e.disk, e.mem, e.log, (e.log.length : Int), e.down⟩) := (HE1.out.of (e' := ⟨e.disk, e.mem, e.log, (e.log.length : Int), e.down⟩) rfl rfl rfl).box X5.out (by simp) (fun i _ hn => Below.heap_setCell _ _ _ _ (by simpa using hn))
  have KF : Hid (Frm x w x (w1.setCell ⟨w.heap.size + 3, 3, none⟩ (.int .i64 (e.log.length : Int)))) := (Frm.of_below B1.out rfl rfl).setCell (.inl (by omega)) _ _
  go_upto_region 25 with (fail)
  clear X2 X3 X4 X5 c0 c1 c2 c3 c4 d0 d1 d2 d3 d4 d5 f0 f1 f2 f3 f4 p0 p1 p2 p3 p4 B1 HE1 HV1 hb1
  generalize (w1.setCell ⟨w.heap.size + 3, 3, none⟩ (.int .i64 (e.log.length : Int))) = w5 at *
  obtain ⟨c0, c1, c2, c3, c4⟩ := K5.out.five
  obtain ⟨y0, y1, y2, y3, y4⟩ := K4.out.five
  have t0 := K4.out.frozen 0
  have t1 := K4.out.frozen 1
  have t2 := K4.out.frozen 2
  have t3 := K4.out.frozen 3
  have t4 := K4.out.frozen 4
  go_wp2
  refine bodyPost_ret (v := engV x ⟨e.disk, e.mem, e.log, (e.log.length : Int), e.down⟩) (by simp [results, Try.results50, go_sem, y0, y1, y2, y3, y4]) rfl ⟨x, by rw [HR.out], ?_, KF.out.put5E (by omega) x ⟨e.disk, e.mem, e.log, (e.log.length : Int), e.down⟩⟩
  rw [HR.out]
  exact KE.out.box K4.out (by simp) (fun i _ hn => put5E_far (x := x) (e := ⟨e.disk, e.mem, e.log, (e.log.length : Int), e.down⟩) hn)

set_option maxRecDepth 100000 in
set_option maxHeartbeats 2000000 in
theorem l22Do_fall (base : Nat) (x : Ad) (e : EE) (t p s n : Int) (zs : List Int) (av : Option Addr) (cv : Nat) (w : World) (hbw : base ≤ w.heap.size) (he : Eng w base x e) (hi : Inv e) (hv : Vals w av zs) :
    Calls Try.prog 50 #[engV x e, evV ⟨8, t, p, s, n, zs⟩ av cv] w (RetE base x (doE e ⟨8, t, p, s, n, zs⟩) w) := by
  have HE := Lib.hid he
  have HI := Lib.hid hi
  have HV := Lib.hid hv
  clear he hi hv
  have X2 : Hid (Has ((((w.alloc (.cells (engC x e) 60)).alloc (.cells (evC ⟨8, t, p, s, n, zs⟩ av cv) 72)).alloc (.cells zeroEC 60)).alloc (.cells (engC x e) 60)) w.heap.size 60 (engC x e)) := (((Has.new w _ _).alloc _).alloc _).alloc _
  have X3 : Hid (Has ((((w.alloc (.cells (engC x e) 60)).alloc (.cells (evC ⟨8, t, p, s, n, zs⟩ av cv) 72)).alloc (.cells zeroEC 60)).alloc (.cells (engC x e) 60)) (w.heap.size + 1) 72 (evC ⟨8, t, p, s, n, zs⟩ av cv)) := by
    have h := ((Has.new (w.alloc (.cells (engC x e) 60)) 72 (evC ⟨8, t, p, s, n, zs⟩ av cv)).alloc (.cells zeroEC 60)).alloc (.cells (engC x e) 60)
    rw [World.size_alloc] at h
    exact h
  have X4 : Hid (Has ((((w.alloc (.cells (engC x e) 60)).alloc (.cells (evC ⟨8, t, p, s, n, zs⟩ av cv) 72)).alloc (.cells zeroEC 60)).alloc (.cells (engC x e) 60)) (w.heap.size + 2) 60 zeroEC) := by
    have h := (Has.new ((w.alloc (.cells (engC x e) 60)).alloc (.cells (evC ⟨8, t, p, s, n, zs⟩ av cv) 72)) 60 zeroEC).alloc (.cells (engC x e) 60)
    rw [World.size_alloc, World.size_alloc] at h
    exact h
  have X5 : Hid (Has ((((w.alloc (.cells (engC x e) 60)).alloc (.cells (evC ⟨8, t, p, s, n, zs⟩ av cv) 72)).alloc (.cells zeroEC 60)).alloc (.cells (engC x e) 60)) (w.heap.size + 3) 60 (engC x e)) := by
    have h := Has.new (((w.alloc (.cells (engC x e) 60)).alloc (.cells (evC ⟨8, t, p, s, n, zs⟩ av cv) 72)).alloc (.cells zeroEC 60)) 60 (engC x e)
    rw [World.size_alloc, World.size_alloc, World.size_alloc] at h
    exact h
  have B1 : Hid (Below w.heap.size w ((((w.alloc (.cells (engC x e) 60)).alloc (.cells (evC ⟨8, t, p, s, n, zs⟩ av cv) 72)).alloc (.cells zeroEC 60)).alloc (.cells (engC x e) 60))) := ((below_two _ _ _).alloc (by simp; omega) _).alloc (by simp; omega) _
  go_enter Try.func50, Try.ntmps50
  go_upto_region 2 with (fail)
  generalize ((((w.alloc (.cells (engC x e) 60)).alloc (.cells (evC ⟨8, t, p, s, n, zs⟩ av cv) 72)).alloc (.cells zeroEC 60)).alloc (.cells (engC x e) 60)) = w1 at *
  have HV1 : Hid (Vals w1 av zs) := HV.out.below B1.out
  have hb1 : base ≤ w1.heap.size := Nat.le_trans hbw B1.out.size
  obtain ⟨c0, c1, c2, c3, c4⟩ := X2.out.five
  obtain ⟨d0, d1, d2, d3, d4, d5⟩ := sixE X3.out
  have f0 := X5.out.frozen 0
  have f1 := X5.out.frozen 1
  have f2 := X5.out.frozen 2
  have f3 := X5.out.frozen 3
  have f4 := X5.out.frozen 4
  obtain ⟨p0, p1, p2, p3, p4⟩ := X5.out.five
  have HE1 := Lib.hid (HE.out.below B1.out)
  have HR0 : Hid (doE e ⟨8, t, p, s, n, zs⟩ = if 0 ≤ n then fallE e n else e) := rfl
  by_cases hn : 0 ≤ n
  case neg =>
    have HR : Hid (doE e ⟨8, t, p, s, n, zs⟩ = e) := by show doE e ⟨8, t, p, s, n, zs⟩ = e; rw [HR0.out, if_neg hn]
    go_upto_region 25 with (fail)
    skip
    have K4 := X4
    have KF : Hid (Frm x w x w1) := .of_below B1.out rfl rfl
    have KE : Hid (Eng w1 base x e) := HE.out.below B1.out
    clear c0 c1 c2 c3 c4 d0 d1 d2 d3 d4 d5
    obtain ⟨y0, y1, y2, y3, y4⟩ := K4.out.five
    have t0 := K4.out.frozen 0
    have t1 := K4.out.frozen 1
    have t2 := K4.out.frozen 2
    have t3 := K4.out.frozen 3
    have t4 := K4.out.frozen 4
    go_wp2
    refine bodyPost_ret (v := engV x e) (by simp [results, Try.results50, go_sem, y0, y1, y2, y3, y4]) rfl ⟨x, by rw [HR.out], ?_, KF.out.put5E (by omega) x e⟩
    rw [HR.out]
    exact KE.out.box K4.out (by simp) (fun i _ hn => put5E_far (x := x) (e := e) hn)
  obtain ⟨e3, he3⟩ : ∃ e3, fallE e n = e3 := ⟨_, rfl⟩
  have HA : Hid (Calls Try.prog 73 #[engV x e, .int .i64 n] w1 (RetE base x e3 w1)) := by
    have h := l21Fall_any base x e n w1 hb1 HE1.out HI.out
    rw [he3] at h
    exact h
  have HR : Hid (doE e ⟨8, t, p, s, n, zs⟩ = e3) := by show doE e ⟨8, t, p, s, n, zs⟩ = e3; rw [HR0.out, if_pos hn, he3]
  clear he3
  go_wp2_with fail
  refine HA.out.mono ?_
  rintro en w3 ⟨y, rfl, E3, F3⟩
  have n4 := (HE.out.below B1.out).ne_eng X4.out
  have n5 := (HE.out.below B1.out).ne_eng X5.out
  have Z4 := Lib.hid (F3.has X4.out n4.1 n4.2)
  have Z5 := Lib.hid (F3.has X5.out n5.1 n5.2)
  have ZF := Lib.hid ((Frm.of_below B1.out rfl rfl).trans F3)
  have ZE := Lib.hid E3
  clear E3 F3 n4 n5 c0 c1 c2 c3 c4 d0 d1 d2 d3 d4 d5 f0 f1 f2 f3 f4 X4 X5
  obtain ⟨c0, c1, c2, c3, c4⟩ := Z5.out.five
  have f0 := Z5.out.frozen 0
  have f1 := Z5.out.frozen 1
  have f2 := Z5.out.frozen 2
  have f3 := Z5.out.frozen 3
  have f4 := Z5.out.frozen 4
  have K5 : Hid (Has (((((w3.setCell ⟨w.heap.size + 3, 0, none⟩ (.slice (some ⟨y.db, 0, none⟩) 5 y.dc)).setCell ⟨w.heap.size + 3, 1, none⟩ (.slice (some ⟨y.mb, 0, none⟩) 5 y.mc)).setCell ⟨w.heap.size + 3, 2, none⟩ (.slice (some ⟨y.lb, 0, none⟩) e3.log.length y.lc)).setCell ⟨w.heap.size + 3, 3, none⟩ (.int .i64 e3.safe)).setCell ⟨w.heap.size + 3, 4, none⟩ (.bool e3.down)) (w.heap.size + 3) 60 (engC y e3)) := put5E_has Z5.out y e3
  have K4 : Hid (Has (((((w3.setCell ⟨w.heap.size + 3, 0, none⟩ (.slice (some ⟨y.db, 0, none⟩) 5 y.dc)).setCell ⟨w.heap.size + 3, 1, none⟩ (.slice (some ⟨y.mb, 0, none⟩) 5 y.mc)).setCell ⟨w.heap.size + 3, 2, none⟩ (.slice (some ⟨y.lb, 0, none⟩) e3.log.length y.lc)).setCell ⟨w.heap.size + 3, 3, none⟩ (.int .i64 e3.safe)).setCell ⟨w.heap.size + 3, 4, none⟩ (.bool e3.down)) (w.heap.size + 2) 60 zeroEC) := Z4.out.keep (put5E_far (x := y) (e := e3) (by omega))
  have KE : Hid (Eng (((((w3.setCell ⟨w.heap.size + 3, 0, none⟩ (.slice (some ⟨y.db, 0, none⟩) 5 y.dc)).setCell ⟨w.heap.size + 3, 1, none⟩ (.slice (some ⟨y.mb, 0, none⟩) 5 y.mc)).setCell ⟨w.heap.size + 3, 2, none⟩ (.slice (some ⟨y.lb, 0, none⟩) e3.log.length y.lc)).setCell ⟨w.heap.size + 3, 3, none⟩ (.int .i64 e3.safe)).setCell ⟨w.heap.size + 3, 4, none⟩ (.bool e3.down)) base y e3) := ZE.out.box Z5.out (by simp) (fun i _ hn => put5E_far (x := y) (e := e3) hn)
  have KF : Hid (Frm x w y (((((w3.setCell ⟨w.heap.size + 3, 0, none⟩ (.slice (some ⟨y.db, 0, none⟩) 5 y.dc)).setCell ⟨w.heap.size + 3, 1, none⟩ (.slice (some ⟨y.mb, 0, none⟩) 5 y.mc)).setCell ⟨w.heap.size + 3, 2, none⟩ (.slice (some ⟨y.lb, 0, none⟩) e3.log.length y.lc)).setCell ⟨w.heap.size + 3, 3, none⟩ (.int .i64 e3.safe)).setCell ⟨w.heap.size + 3, 4, none⟩ (.bool e3.down))) := ZF.out.put5E (by omega) y e3
  go_upto_region 25 with (fail)
  clear Z4 Z5 ZF ZE c0 c1 c2 c3 c4 f0 f1 f2 f3 f4
  generalize (((((w3.setCell ⟨w.heap.size + 3, 0, none⟩ (.slice (some ⟨y.db, 0, none⟩) 5 y.dc)).setCell ⟨w.heap.size + 3, 1, none⟩ (.slice (some ⟨y.mb, 0, none⟩) 5 y.mc)).setCell ⟨w.heap.size + 3, 2, none⟩ (.slice (some ⟨y.lb, 0, none⟩) e3.log.length y.lc)).setCell ⟨w.heap.size + 3, 3, none⟩ (.int .i64 e3.safe)).setCell ⟨w.heap.size + 3, 4, none⟩ (.bool e3.down)) = w5 at *
  obtain ⟨c0, c1, c2, c3, c4⟩ := K5.out.five
  obtain ⟨y0, y1, y2, y3, y4⟩ := K4.out.five
  have t0 := K4.out.frozen 0
  have t1 := K4.out.frozen 1
  have t2 := K4.out.frozen 2
  have t3 := K4.out.frozen 3
  have t4 := K4.out.frozen 4
  go_wp2
  refine bodyPost_ret (v := engV y e3) (by simp [results, Try.results50, go_sem, y0, y1, y2, y3, y4]) rfl ⟨y, by rw [HR.out], ?_, KF.out.put5E (by omega) y e3⟩
  rw [HR.out]
  exact KE.out.box K4.out (by simp) (fun i _ hn => put5E_far (x := y) (e := e3) hn)

set_option maxRecDepth 100000 in
set_option maxHeartbeats 2000000 in
theorem l22Do_rise (base : Nat) (x : Ad) (e : EE) (t p s n : Int) (zs : List Int) (av : Option Addr) (cv : Nat) (w : World) (hbw : base ≤ w.heap.size) (he : Eng w base x e) (hi : Inv e) (hv : Vals w av zs) :
    Calls Try.prog 50 #[engV x e, evV ⟨9, t, p, s, n, zs⟩ av cv] w (RetE base x (doE e ⟨9, t, p, s, n, zs⟩) w) := by
  have HE := Lib.hid he
  have HI := Lib.hid hi
  have HV := Lib.hid hv
  clear he hi hv
  have X2 : Hid (Has ((((w.alloc (.cells (engC x e) 60)).alloc (.cells (evC ⟨9, t, p, s, n, zs⟩ av cv) 72)).alloc (.cells zeroEC 60)).alloc (.cells (engC x e) 60)) w.heap.size 60 (engC x e)) := (((Has.new w _ _).alloc _).alloc _).alloc _
  have X3 : Hid (Has ((((w.alloc (.cells (engC x e) 60)).alloc (.cells (evC ⟨9, t, p, s, n, zs⟩ av cv) 72)).alloc (.cells zeroEC 60)).alloc (.cells (engC x e) 60)) (w.heap.size + 1) 72 (evC ⟨9, t, p, s, n, zs⟩ av cv)) := by
    have h := ((Has.new (w.alloc (.cells (engC x e) 60)) 72 (evC ⟨9, t, p, s, n, zs⟩ av cv)).alloc (.cells zeroEC 60)).alloc (.cells (engC x e) 60)
    rw [World.size_alloc] at h
    exact h
  have X4 : Hid (Has ((((w.alloc (.cells (engC x e) 60)).alloc (.cells (evC ⟨9, t, p, s, n, zs⟩ av cv) 72)).alloc (.cells zeroEC 60)).alloc (.cells (engC x e) 60)) (w.heap.size + 2) 60 zeroEC) := by
    have h := (Has.new ((w.alloc (.cells (engC x e) 60)).alloc (.cells (evC ⟨9, t, p, s, n, zs⟩ av cv) 72)) 60 zeroEC).alloc (.cells (engC x e) 60)
    rw [World.size_alloc, World.size_alloc] at h
    exact h
  have X5 : Hid (Has ((((w.alloc (.cells (engC x e) 60)).alloc (.cells (evC ⟨9, t, p, s, n, zs⟩ av cv) 72)).alloc (.cells zeroEC 60)).alloc (.cells (engC x e) 60)) (w.heap.size + 3) 60 (engC x e)) := by
    have h := Has.new (((w.alloc (.cells (engC x e) 60)).alloc (.cells (evC ⟨9, t, p, s, n, zs⟩ av cv) 72)).alloc (.cells zeroEC 60)) 60 (engC x e)
    rw [World.size_alloc, World.size_alloc, World.size_alloc] at h
    exact h
  have B1 : Hid (Below w.heap.size w ((((w.alloc (.cells (engC x e) 60)).alloc (.cells (evC ⟨9, t, p, s, n, zs⟩ av cv) 72)).alloc (.cells zeroEC 60)).alloc (.cells (engC x e) 60))) := ((below_two _ _ _).alloc (by simp; omega) _).alloc (by simp; omega) _
  go_enter Try.func50, Try.ntmps50
  go_upto_region 2 with (fail)
  generalize ((((w.alloc (.cells (engC x e) 60)).alloc (.cells (evC ⟨9, t, p, s, n, zs⟩ av cv) 72)).alloc (.cells zeroEC 60)).alloc (.cells (engC x e) 60)) = w1 at *
  have HV1 : Hid (Vals w1 av zs) := HV.out.below B1.out
  have hb1 : base ≤ w1.heap.size := Nat.le_trans hbw B1.out.size
  obtain ⟨c0, c1, c2, c3, c4⟩ := X2.out.five
  obtain ⟨d0, d1, d2, d3, d4, d5⟩ := sixE X3.out
  have f0 := X5.out.frozen 0
  have f1 := X5.out.frozen 1
  have f2 := X5.out.frozen 2
  have f3 := X5.out.frozen 3
  have f4 := X5.out.frozen 4
  obtain ⟨p0, p1, p2, p3, p4⟩ := X5.out.five
  have HE1 := Lib.hid (HE.out.below B1.out)
  have HR0 : Hid (doE e ⟨9, t, p, s, n, zs⟩ = if decide (0 ≤ n) && e.down then (upE e n).1 else e) := rfl
  by_cases hn : 0 ≤ n
  case neg =>
    have HR : Hid (doE e ⟨9, t, p, s, n, zs⟩ = e) := by show doE e ⟨9, t, p, s, n, zs⟩ = e; rw [HR0.out]; simp [hn]
    go_upto_region 25 with (fail)
    skip
    have K4 := X4
    have KF : Hid (Frm x w x w1) := .of_below B1.out rfl rfl
    have KE : Hid (Eng w1 base x e) := HE.out.below B1.out
    clear c0 c1 c2 c3 c4 d0 d1 d2 d3 d4 d5
    obtain ⟨y0, y1, y2, y3, y4⟩ := K4.out.five
    have t0 := K4.out.frozen 0
    have t1 := K4.out.frozen 1
    have t2 := K4.out.frozen 2
    have t3 := K4.out.frozen 3
    have t4 := K4.out.frozen 4
    go_wp2
    refine bodyPost_ret (v := engV x e) (by simp [results, Try.results50, go_sem, y0, y1, y2, y3, y4]) rfl ⟨x, by rw [HR.out], ?_, KF.out.put5E (by omega) x e⟩
    rw [HR.out]
    exact KE.out.box K4.out (by simp) (fun i _ hn => put5E_far (x := x) (e := e) hn)
  cases hd : e.down
  case false =>
    have HR : Hid (doE e ⟨9, t, p, s, n, zs⟩ = e) := by show doE e ⟨9, t, p, s, n, zs⟩ = e; rw [HR0.out, hd]; simp
    go_upto_region 25 with (fail)
    clear hd
    have K4 := X4
    have KF : Hid (Frm x w x w1) := .of_below B1.out rfl rfl
    have KE : Hid (Eng w1 base x e) := HE.out.below B1.out
    clear c0 c1 c2 c3 c4 d0 d1 d2 d3 d4 d5
    obtain ⟨y0, y1, y2, y3, y4⟩ := K4.out.five
    have t0 := K4.out.frozen 0
    have t1 := K4.out.frozen 1
    have t2 := K4.out.frozen 2
    have t3 := K4.out.frozen 3
    have t4 := K4.out.frozen 4
    go_wp2
    refine bodyPost_ret (v := engV x e) (by simp [results, Try.results50, go_sem, y0, y1, y2, y3, y4]) rfl ⟨x, by rw [HR.out], ?_, KF.out.put5E (by omega) x e⟩
    rw [HR.out]
    exact KE.out.box K4.out (by simp) (fun i _ hn => put5E_far (x := x) (e := e) hn)
  have hup : doE e ⟨9, t, p, s, n, zs⟩ = (upE e n).1 := by rw [HR0.out, hd]; simp [hn]
  obtain ⟨res, hres⟩ : ∃ r, upE e n = r := ⟨_, rfl⟩
  obtain ⟨e3, b3⟩ := res
  have HA : Hid (Calls Try.prog 74 #[engV x e, .int .i64 n] w1 (RetEB base x (e3, b3) w1)) := by
    have h := l21Up_any base x e n w1 hn hb1 HE1.out HI.out
    rw [hres] at h
    exact h
  have HR : Hid (doE e ⟨9, t, p, s, n, zs⟩ = e3) := by show doE e ⟨9, t, p, s, n, zs⟩ = e3; rw [hup, hres]
  clear hres hup
  go_upto_region 24 with (fail)
  clear hd
  go_wp2_with fail
  refine HA.out.mono ?_
  rintro en w3 ⟨y, rfl, E3, F3⟩
  have n4 := (HE.out.below B1.out).ne_eng X4.out
  have n5 := (HE.out.below B1.out).ne_eng X5.out
  have Z4 := Lib.hid (F3.has X4.out n4.1 n4.2)
  have Z5 := Lib.hid (F3.has X5.out n5.1 n5.2)
  have ZF := Lib.hid ((Frm.of_below B1.out rfl rfl).trans F3)
  have ZE := Lib.hid E3
  clear E3 F3 n4 n5 c0 c1 c2 c3 c4 d0 d1 d2 d3 d4 d5 f0 f1 f2 f3 f4 X4 X5
  obtain ⟨c0, c1, c2, c3, c4⟩ := Z5.out.five
  have f0 := Z5.out.frozen 0
  have f1 := Z5.out.frozen 1
  have f2 := Z5.out.frozen 2
  have f3 := Z5.out.frozen 3
  have f4 := Z5.out.frozen 4
  have K5 : Hid (Has (((((w3.setCell ⟨w.heap.size + 3, 0, none⟩ (.slice (some ⟨y.db, 0, none⟩) 5 y.dc)).setCell ⟨w.heap.size + 3, 1, none⟩ (.slice (some ⟨y.mb, 0, none⟩) 5 y.mc)).setCell ⟨w.heap.size + 3, 2, none⟩ (.slice (some ⟨y.lb, 0, none⟩) e3.log.length y.lc)).setCell ⟨w.heap.size + 3, 3, none⟩ (.int .i64 e3.safe)).setCell ⟨w.heap.size + 3, 4, none⟩ (.bool e3.down)) (w.heap.size + 3) 60 (engC y e3)) := put5E_has Z5.out y e3
  have K4 : Hid (Has (((((w3.setCell ⟨w.heap.size + 3, 0, none⟩ (.slice (some ⟨y.db, 0, none⟩) 5 y.dc)).setCell ⟨w.heap.size + 3, 1, none⟩ (.slice (some ⟨y.mb, 0, none⟩) 5 y.mc)).setCell ⟨w.heap.size + 3, 2, none⟩ (.slice (some ⟨y.lb, 0, none⟩) e3.log.length y.lc)).setCell ⟨w.heap.size + 3, 3, none⟩ (.int .i64 e3.safe)).setCell ⟨w.heap.size + 3, 4, none⟩ (.bool e3.down)) (w.heap.size + 2) 60 zeroEC) := Z4.out.keep (put5E_far (x := y) (e := e3) (by omega))
  have KE : Hid (Eng (((((w3.setCell ⟨w.heap.size + 3, 0, none⟩ (.slice (some ⟨y.db, 0, none⟩) 5 y.dc)).setCell ⟨w.heap.size + 3, 1, none⟩ (.slice (some ⟨y.mb, 0, none⟩) 5 y.mc)).setCell ⟨w.heap.size + 3, 2, none⟩ (.slice (some ⟨y.lb, 0, none⟩) e3.log.length y.lc)).setCell ⟨w.heap.size + 3, 3, none⟩ (.int .i64 e3.safe)).setCell ⟨w.heap.size + 3, 4, none⟩ (.bool e3.down)) base y e3) := ZE.out.box Z5.out (by simp) (fun i _ hn => put5E_far (x := y) (e := e3) hn)
  have KF : Hid (Frm x w y (((((w3.setCell ⟨w.heap.size + 3, 0, none⟩ (.slice (some ⟨y.db, 0, none⟩) 5 y.dc)).setCell ⟨w.heap.size + 3, 1, none⟩ (.slice (some ⟨y.mb, 0, none⟩) 5 y.mc)).setCell ⟨w.heap.size + 3, 2, none⟩ (.slice (some ⟨y.lb, 0, none⟩) e3.log.length y.lc)).setCell ⟨w.heap.size + 3, 3, none⟩ (.int .i64 e3.safe)).setCell ⟨w.heap.size + 3, 4, none⟩ (.bool e3.down))) := ZF.out.put5E (by omega) y e3
  go_upto_region 25 with (fail)
  clear Z4 Z5 ZF ZE c0 c1 c2 c3 c4 f0 f1 f2 f3 f4
  generalize (((((w3.setCell ⟨w.heap.size + 3, 0, none⟩ (.slice (some ⟨y.db, 0, none⟩) 5 y.dc)).setCell ⟨w.heap.size + 3, 1, none⟩ (.slice (some ⟨y.mb, 0, none⟩) 5 y.mc)).setCell ⟨w.heap.size + 3, 2, none⟩ (.slice (some ⟨y.lb, 0, none⟩) e3.log.length y.lc)).setCell ⟨w.heap.size + 3, 3, none⟩ (.int .i64 e3.safe)).setCell ⟨w.heap.size + 3, 4, none⟩ (.bool e3.down)) = w5 at *
  obtain ⟨c0, c1, c2, c3, c4⟩ := K5.out.five
  obtain ⟨y0, y1, y2, y3, y4⟩ := K4.out.five
  have t0 := K4.out.frozen 0
  have t1 := K4.out.frozen 1
  have t2 := K4.out.frozen 2
  have t3 := K4.out.frozen 3
  have t4 := K4.out.frozen 4
  go_wp2
  refine bodyPost_ret (v := engV y e3) (by simp [results, Try.results50, go_sem, y0, y1, y2, y3, y4]) rfl ⟨y, by rw [HR.out], ?_, KF.out.put5E (by omega) y e3⟩
  rw [HR.out]
  exact KE.out.box K4.out (by simp) (fun i _ hn => put5E_far (x := y) (e := e3) hn)

set_option maxRecDepth 100000 in
set_option maxHeartbeats 2000000 in
theorem l22Do_none (base : Nat) (x : Ad) (e : EE) (k t p s n : Int) (zs : List Int) (av : Option Addr) (cv : Nat) (w : World) (hbw : base ≤ w.heap.size) (he : Eng w base x e) (hi : Inv e) (hv : Vals w av zs) (h1 : k ≠ 1) (h2 : k ≠ 2) (h3 : k ≠ 3) (h4 : k ≠ 4) (h5 : k ≠ 5) (h6 : k ≠ 6) (h7 : k ≠ 7) (h8 : k ≠ 8) (h9 : k ≠ 9) :
    Calls Try.prog 50 #[engV x e, evV ⟨k, t, p, s, n, zs⟩ av cv] w (RetE base x (doE e ⟨k, t, p, s, n, zs⟩) w) := by
  have HE := Lib.hid he
  have HI := Lib.hid hi
  have HV := Lib.hid hv
  clear he hi hv
  have X2 : Hid (Has ((((w.alloc (.cells (engC x e) 60)).alloc (.cells (evC ⟨k, t, p, s, n, zs⟩ av cv) 72)).alloc (.cells zeroEC 60)).alloc (.cells (engC x e) 60)) w.heap.size 60 (engC x e)) := (((Has.new w _ _).alloc _).alloc _).alloc _
  have X3 : Hid (Has ((((w.alloc (.cells (engC x e) 60)).alloc (.cells (evC ⟨k, t, p, s, n, zs⟩ av cv) 72)).alloc (.cells zeroEC 60)).alloc (.cells (engC x e) 60)) (w.heap.size + 1) 72 (evC ⟨k, t, p, s, n, zs⟩ av cv)) := by
    have h := ((Has.new (w.alloc (.cells (engC x e) 60)) 72 (evC ⟨k, t, p, s, n, zs⟩ av cv)).alloc (.cells zeroEC 60)).alloc (.cells (engC x e) 60)
    rw [World.size_alloc] at h
    exact h
  have X4 : Hid (Has ((((w.alloc (.cells (engC x e) 60)).alloc (.cells (evC ⟨k, t, p, s, n, zs⟩ av cv) 72)).alloc (.cells zeroEC 60)).alloc (.cells (engC x e) 60)) (w.heap.size + 2) 60 zeroEC) := by
    have h := (Has.new ((w.alloc (.cells (engC x e) 60)).alloc (.cells (evC ⟨k, t, p, s, n, zs⟩ av cv) 72)) 60 zeroEC).alloc (.cells (engC x e) 60)
    rw [World.size_alloc, World.size_alloc] at h
    exact h
  have X5 : Hid (Has ((((w.alloc (.cells (engC x e) 60)).alloc (.cells (evC ⟨k, t, p, s, n, zs⟩ av cv) 72)).alloc (.cells zeroEC 60)).alloc (.cells (engC x e) 60)) (w.heap.size + 3) 60 (engC x e)) := by
    have h := Has.new (((w.alloc (.cells (engC x e) 60)).alloc (.cells (evC ⟨k, t, p, s, n, zs⟩ av cv) 72)).alloc (.cells zeroEC 60)) 60 (engC x e)
    rw [World.size_alloc, World.size_alloc, World.size_alloc] at h
    exact h
  have B1 : Hid (Below w.heap.size w ((((w.alloc (.cells (engC x e) 60)).alloc (.cells (evC ⟨k, t, p, s, n, zs⟩ av cv) 72)).alloc (.cells zeroEC 60)).alloc (.cells (engC x e) 60))) := ((below_two _ _ _).alloc (by simp; omega) _).alloc (by simp; omega) _
  go_enter Try.func50, Try.ntmps50
  go_upto_region 2 with (fail)
  generalize ((((w.alloc (.cells (engC x e) 60)).alloc (.cells (evC ⟨k, t, p, s, n, zs⟩ av cv) 72)).alloc (.cells zeroEC 60)).alloc (.cells (engC x e) 60)) = w1 at *
  have HV1 : Hid (Vals w1 av zs) := HV.out.below B1.out
  have hb1 : base ≤ w1.heap.size := Nat.le_trans hbw B1.out.size
  obtain ⟨c0, c1, c2, c3, c4⟩ := X2.out.five
  obtain ⟨d0, d1, d2, d3, d4, d5⟩ := sixE X3.out
  have f0 := X5.out.frozen 0
  have f1 := X5.out.frozen 1
  have f2 := X5.out.frozen 2
  have f3 := X5.out.frozen 3
  have f4 := X5.out.frozen 4
  obtain ⟨p0, p1, p2, p3, p4⟩ := X5.out.five
  have HE1 := Lib.hid (HE.out.below B1.out)
  have HR : Hid (doE e ⟨k, t, p, s, n, zs⟩ = e) := by
    show doE e ⟨k, t, p, s, n, zs⟩ = e
    unfold doE
    simp only [h1, h2, h3, h4, h5, h6, h7, h8, h9, if_false]
  have g1 : (k == 1) = false := by simpa using h1
  have g2 : (k == 2) = false := by simpa using h2
  have g3 : (k == 3) = false := by simpa using h3
  have g4 : (k == 4) = false := by simpa using h4
  have g5 : (k == 5) = false := by simpa using h5
  have g6 : (k == 6) = false := by simpa using h6
  have g7 : (k == 7) = false := by simpa using h7
  have g8 : (k == 8) = false := by simpa using h8
  have g9 : (k == 9) = false := by simpa using h9
  clear h1 h2 h3 h4 h5 h6 h7 h8 h9
  go_upto_region 25 with (fail)
  skip
  have K4 := X4
  have KF : Hid (Frm x w x w1) := .of_below B1.out rfl rfl
  have KE : Hid (Eng w1 base x e) := HE.out.below B1.out
  clear c0 c1 c2 c3 c4 d0 d1 d2 d3 d4 d5
  obtain ⟨y0, y1, y2, y3, y4⟩ := K4.out.five
  have t0 := K4.out.frozen 0
  have t1 := K4.out.frozen 1
  have t2 := K4.out.frozen 2
  have t3 := K4.out.frozen 3
  have t4 := K4.out.frozen 4
  go_wp2
  refine bodyPost_ret (v := engV x e) (by simp [results, Try.results50, go_sem, y0, y1, y2, y3, y4]) rfl ⟨x, by rw [HR.out], ?_, KF.out.put5E (by omega) x e⟩
  rw [HR.out]
  exact KE.out.box K4.out (by simp) (fun i _ hn => put5E_far (x := x) (e := e) hn)

theorem l22Do_any (base : Nat) (x : Ad) (e : EE) (v : Ev) (av : Option Addr) (cv : Nat) (w : World) (hbw : base ≤ w.heap.size) (he : Eng w base x e) (hi : Inv e) (hv : Vals w av v.zs) (mx : v.zs.length ≤ 1000) :
    Calls Try.prog 50 #[engV x e, evV v av cv] w (RetE base x (doE e v) w) := by
  obtain ⟨k, t, p, s, n, zs⟩ := v
  by_cases h1 : k = 1
  · subst h1; exact l22Do_put base x e t p s n zs av cv w hbw he hi hv
  by_cases h2 : k = 2
  · subst h2; exact l22Do_own base x e t p s n zs av cv w hbw he hi hv
  by_cases h3 : k = 3
  · subst h3; exact l22Do_load base x e t p s n zs av cv w hbw he hi hv mx
  by_cases h4 : k = 4
  · subst h4; exact l22Do_done base x e t p s n zs av cv w hbw he hi hv
  by_cases h5 : k = 5
  · subst h5; exact l22Do_undo base x e t p s n zs av cv w hbw he hi hv
  by_cases h6 : k = 6
  · subst h6; exact l22Do_write base x e t p s n zs av cv w hbw he hi hv
  by_cases h7 : k = 7
  · subst h7; exact l22Do_force base x e t p s n zs av cv w hbw he hi hv
  by_cases h8 : k = 8
  · subst h8; exact l22Do_fall base x e t p s n zs av cv w hbw he hi hv
  by_cases h9 : k = 9
  · subst h9; exact l22Do_rise base x e t p s n zs av cv w hbw he hi hv
  exact l22Do_none base x e k t p s n zs av cv w hbw he hi hv h1 h2 h3 h4 h5 h6 h7 h8 h9
end Go.Proofs.Ytejbmjdipfcblaa.Base
