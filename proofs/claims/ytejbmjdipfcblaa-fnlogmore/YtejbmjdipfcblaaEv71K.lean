/-
  Contract of the model's l71Event. Only that it draws an event is said, not which one. Conditions: the reader stands at a place that is not too far; the engine lies in memory and keeps what holds throughout a play.
-/
import Derived.Test.YtejbmjdipfcblaaDo22K
import Derived.Test.YtejbmjdipfcblaaDrawsK
import Derived.Deep.DeepCutAuto
import Derived.Deep.LoopGhost
namespace Go.Proofs.Ytejbmjdipfcblaa.Base
open Go.RowKit

/-- no event's cells -/
abbrev zeroVC : Array Value := #[.int .i64 0, .int .i64 0, .int .i64 0, .int .i64 0, .int .i64 0, .slice none 0 0]
/-- an event, stored whole -/
abbrev put6E (w : World) (b : Nat) (v : Ev) (av : Option Addr) (cv : Nat) : World := (((((w.setCell ⟨b, 0, none⟩ (.int .i64 v.k)).setCell ⟨b, 1, none⟩ (.int .i64 v.t)).setCell ⟨b, 2, none⟩ (.int .i64 v.p)).setCell ⟨b, 3, none⟩ (.int .i64 v.s)).setCell ⟨b, 4, none⟩ (.int .i64 v.n)).setCell ⟨b, 5, none⟩ (.slice av v.zs.length cv)
theorem put6E_far {w : World} {b i : Nat} {v : Ev} {av : Option Addr} {cv : Nat} (h : i ≠ b) : (put6E w b v av cv).heap[i]? = w.heap[i]? := by
  rw [put6E, Below.heap_setCell _ _ _ _ (by simpa using h), Below.heap_setCell _ _ _ _ (by simpa using h), Below.heap_setCell _ _ _ _ (by simpa using h), Below.heap_setCell _ _ _ _ (by simpa using h), Below.heap_setCell _ _ _ _ (by simpa using h), Below.heap_setCell _ _ _ _ (by simpa using h)]
/-- what l71Event leaves -/
def EvRet (g : Nat) (a : Option Addr) (bs : List Int) (cap B : Nat) (m : Int) (w : World) (en : Ending) (w' : World) : Prop :=
  ∃ v av cv, en = .returned (evV v av cv) ∧ Vals w' av v.zs ∧ v.zs.length ≤ 1000 ∧ w.grownBy w' (some g) ∧ ∃ p', p' ≤ m ∧ Rdr w' g a bs cap p' B
/-- where it stands -/
structure EvSt (w0 wx : World) (g : Nat) (a : Option Addr) (bs : List Int) (cap : Nat) (p : Int) (B : Nat) (x : Ad) (e : EE) : Prop where
  rdr : Rdr wx g a bs cap p B
  b3 : Has wx w0.heap.size 60 (engC x e)
  b4 : Has wx (w0.heap.size + 1) 72 zeroVC
  grown : w0.grownBy wx (some g)
  lg : g < w0.heap.size
theorem list3 {w : World} {b : Nat} {T : TypeId} {x y z : Int} (h : Has w b T #[.int .i64 x, .int .i64 y, .int .i64 z]) {i : Nat} (hi : i < 3) : ∃ v : Int, w.cell? ⟨b, i, none⟩ = some (.int .i64 v) := by
  rw [h.cell]
  match i, hi with
  | 0, _ => exact ⟨_, rfl⟩
  | 1, _ => exact ⟨_, rfl⟩
  | 2, _ => exact ⟨_, rfl⟩
section
variable {w0 wx wy : World} {g : Nat} {a : Option Addr} {bs : List Int} {cap : Nat} {p : Int} {B : Nat} {x : Ad} {e : EE}
theorem EvSt.pick {p' : Int} (h : EvSt w0 wx g a bs cap p B x e) (k : wx.grownBy wy (some g)) (hr : Rdr wy g a bs cap p' B) : EvSt w0 wy g a bs cap p' B x e := by
  have := h.lg
  exact ⟨hr, h.b3.grown k (fun e => by injection e; omega), h.b4.grown k (fun e => by injection e; omega), grown_two h.grown k, h.lg⟩
theorem EvSt.below (h : EvSt w0 wx g a bs cap p B x e) (k : Below wx.heap.size wx wy) : EvSt w0 wy g a bs cap p B x e :=
  ⟨h.rdr.below k h.rdr.has.lt, h.b3.below k h.b3.lt, h.b4.below k h.b4.lt, grown_two h.grown (grown_below k _), h.lg⟩
theorem EvSt.alloc (h : EvSt w0 wx g a bs cap p B x e) (ob : Obj) : EvSt w0 (wx.alloc ob) g a bs cap p B x e := h.below (below_one wx ob)
theorem EvSt.finish (h : EvSt w0 wx g a bs cap p B x e) (v : Ev) (av : Option Addr) (cv : Nat) (hv : Vals wx av v.zs) (mx : v.zs.length ≤ 1000) {m : Int} (hp : p ≤ m) :
    EvRet g a bs cap B m w0 (.returned (evV v av cv)) (put6E wx (w0.heap.size + 1) v av cv) := by
  have hl := h.lg
  have hB := h.rdr.apart
  refine ⟨v, av, cv, rfl, hv.keep (fun i hi hI => put6E_far ?_), mx, ?_, p, hp, h.rdr.keep (put6E_far (by omega)) (fun i hi => put6E_far (by omega))⟩
  · obtain ⟨cs, hc⟩ := hI
    exact Has.ne_kind hc h.b4 (by decide)
  · exact grown_far (grown_far (grown_far (grown_far (grown_far (grown_far h.grown (by omega) _) (by omega) _) (by omega) _) (by omega) _) (by omega) _) (by omega) _
end

set_option maxRecDepth 100000 in
set_option maxHeartbeats 20000000 in
theorem l71Event_any (g : Nat) (a : Option Addr) (bs : List Int) (cap : Nat) (p : Int) (B base : Nat) (x : Ad) (e : EE) (w : World) (hr : Rdr w g a bs cap p B) (hgb : g < base) (hbw : base ≤ w.heap.size) (he : Eng w base x e) (hi : Inv e) (hp : p ≤ 100000000) :
    Calls Try.prog 49 #[.pointer (some ⟨g, 0, none⟩), engV x e] w (EvRet g a bs cap B (p + 20) w) := by
  have HE := Lib.hid he
  have HI := Lib.hid hi
  have hl150 := log_len hi.log
  have lg : g < w.heap.size := by omega
  have S0 : EvSt w ((w.alloc (.cells (engC x e) 60)).alloc (.cells zeroVC 72)) g a bs cap p B x e := by
    refine ⟨hr.below (below_two w _ _) lg, (Has.new w _ _).alloc _, ?_, grown_below (below_two w _ _) _, lg⟩
    have h := Has.new (w.alloc (.cells (engC x e) 60)) 72 zeroVC
    rwa [World.size_alloc] at h
  have S := Lib.hid S0
  clear he hi hr S0
  go_enter Try.func49, Try.ntmps49
  go_upto_region 1 with (fail)
  generalize ((w.alloc (.cells (engC x e) 60)).alloc (.cells zeroVC 72)) = w1 at *
  go_wp2_with fail
  refine (pick_any 3 g a bs cap _ B _ S.out.rdr (by omega) (by omega) (by omega)).mono ?_
  rintro en w2 ⟨z5, rfl, z5l, z5m, hgr, -, hr⟩
  have z5h := z5m (by omega)
  have S' := Lib.hid (S.out.pick hgr hr)
  clear z5m hgr hr S
  have S := S'
  clear S'
  go_wp2_with fail
  refine (pick_any 5 g a bs cap _ B _ S.out.rdr (by omega) (by omega) (by omega)).mono ?_
  rintro en w3 ⟨z6, rfl, z6l, z6m, hgr, -, hr⟩
  have z6h := z6m (by omega)
  have S' := Lib.hid (S.out.pick hgr hr)
  clear z6m hgr hr S
  have S := S'
  clear S'
  obtain ⟨j, rfl⟩ := Int.eq_ofNat_of_zero_le z6l
  have hj5 : j < 5 := by omega
  have j0 : (0 : Int) ≤ (j : Int) := by omega
  have j5 : (j : Int) < 5 := by omega
  have HLk : Hid (∀ W, Eng W base x e → Calls Try.prog 66 #[engV x e, .int .i64 (j : Int)] W (Keeps (.int .i64 (lockE e.log (j : Int))) W)) := fun W hW => l11Lock_any base x e j W hW HI.out
  obtain ⟨c0, c1, c2, c3, c4⟩ := S.out.b3.five
  cases hd : e.down
  case true =>
    go_upto_region 4 with (fail)
    clear hd c0 c1 c2 c3 c4
    go_wp2_with fail
    refine (pick_any 4 g a bs cap _ B _ S.out.rdr (by omega) (by omega) (by omega)).mono ?_
    rintro en w4 ⟨z7, rfl, z7l, z7m, hgr, -, hr⟩
    have z7h := z7m (by omega)
    have S' := Lib.hid (S.out.pick hgr hr)
    clear z7m hgr hr S
    have S := S'
    clear S'
    have S' := Lib.hid (S.out.alloc (.cells #[.int .i64 99, .int .i64 99, .int .i64 z7] 3))
    have L := Lib.hid (Has.new w4 3 #[.int .i64 99, .int .i64 99, .int .i64 z7])
    have lg4 := S.out.rdr.has.lt
    go_wp2_with fail
    clear S
    have S := S'
    clear S'
    generalize (w4.alloc (.cells #[.int .i64 99, .int .i64 99, .int .i64 z7] 3)) = w5 at *
    generalize hlb : w4.heap.size = lb at *
    clear hlb
    refine (pick_any 3 g a bs cap _ B _ S.out.rdr (by omega) (by omega) (by omega)).mono ?_
    rintro en w6 ⟨z8, rfl, z8l, z8m, hgr, -, hr⟩
    have z8h := z8m (by omega)
    have L' := Lib.hid (L.out.grown hgr (fun e => by injection e; omega))
    have S' := Lib.hid (S.out.pick hgr hr)
    clear z8m hgr hr S L
    have S := S'
    have L := L'
    clear S' L'
    obtain ⟨ix, rfl⟩ := Int.eq_ofNat_of_zero_le z8l
    have ix3 : ix < 3 := by omega
    have ix0 : (0 : Int) ≤ (ix : Int) := by omega
    have ix3' : (ix : Int) < 3 := by omega
    obtain ⟨vv, hvv⟩ : ∃ v : Int, w6.cell? ⟨lb, ix, none⟩ = some (.int .i64 v) := by
      rw [L.out.cell]
      have h : ix = 0 ∨ ix = 1 ∨ ix = 2 := by omega
      rcases h with rfl | rfl | rfl
      · exact ⟨_, rfl⟩
      · exact ⟨_, rfl⟩
      · exact ⟨_, rfl⟩
    obtain ⟨y0, y1, y2, y3, y4, y5⟩ := sixE S.out.b4
    have u0 := S.out.b4.frozen 0
    have u1 := S.out.b4.frozen 1
    have u2 := S.out.b4.frozen 2
    have u3 := S.out.b4.frozen 3
    have u4 := S.out.b4.frozen 4
    have u5 := S.out.b4.frozen 5
    go_wp2
    refine bodyPost_ret (v := evV ⟨9, 0, 0, 0, vv, []⟩ none 0) (by simp [results, Try.results49, go_sem, y0, y1, y2, y3, y4, y5]) rfl (S.out.finish ⟨9, 0, 0, 0, vv, []⟩ none 0 (fun h => absurd h (by simp)) (by simp) (by omega))
  go_upto_region 5 with (fail)
  clear hd c0 c1 c2 c3 c4
  go_wp2_with fail
  refine (pick_any 16 g a bs cap _ B _ S.out.rdr (by omega) (by omega) (by omega)).mono ?_
  rintro en w4 ⟨zk, rfl, zkl, zkm, hgr, -, hr⟩
  have zkh := zkm (by omega)
  have S' := Lib.hid (S.out.pick hgr hr)
  clear zkm hgr hr S
  have S := S'
  clear S'
  by_cases hk0 : zk = 0
  · subst hk0
    go_wp2_with fail
    refine (pick_any 3 g a bs cap _ B _ S.out.rdr (by omega) (by omega) (by omega)).mono ?_
    rintro en w5 ⟨zt, rfl, ztl, ztm, hgr, -, hr⟩
    have zth := ztm (by omega)
    have S' := Lib.hid (S.out.pick hgr hr)
    clear ztm hgr hr S
    have S := S'
    clear S'
    obtain ⟨pg, hin, hsay, hlow⟩ := (HE.out.grown S.out.grown (fun q hq => by injection hq; omega)).mem HI.out hj5
    have m1 := hin.c1
    obtain ⟨pl, po, pgb, pq, pc, pz⟩ := pg
    simp only at m1
    clear hin hsay hlow
    obtain ⟨c0, c1, c2, c3, c4⟩ := S.out.b3.five
    by_cases hpo : (0 : Int) < po
    · have bp : decide ((0 : Int) < po) = true := by simpa using hpo
      go_wp2_with fail
      refine (pick_any 3 g a bs cap _ B _ S.out.rdr (by omega) (by omega) (by omega)).mono ?_
      rintro en w6 ⟨zq, rfl, zql, zqm, hgr, -, hr⟩
      have zqh := zqm (by omega)
      have S' := Lib.hid (S.out.pick hgr hr)
      clear zqm hgr hr S
      have S := S'
      clear S'
      clear c0 c1 c2 c3 c4
      by_cases hq : (0 : Int) < zq
      · have bq : decide ((0 : Int) < zq) = true := by simpa using hq
        obtain ⟨y0, y1, y2, y3, y4, y5⟩ := sixE S.out.b4
        have u0 := S.out.b4.frozen 0
        have u1 := S.out.b4.frozen 1
        have u2 := S.out.b4.frozen 2
        have u3 := S.out.b4.frozen 3
        have u4 := S.out.b4.frozen 4
        have u5 := S.out.b4.frozen 5
        go_wp2
        refine bodyPost_ret (v := evV ⟨2, 1 + z5, j, 0, 0, []⟩ none 0) (by simp [results, Try.results49, go_sem, y0, y1, y2, y3, y4, y5]) rfl (S.out.finish ⟨2, 1 + z5, j, 0, 0, []⟩ none 0 (fun h => absurd h (by simp)) (by simp) (by omega))
      · have bq : decide ((0 : Int) < zq) = false := by simpa using hq
        obtain ⟨y0, y1, y2, y3, y4, y5⟩ := sixE S.out.b4
        have u0 := S.out.b4.frozen 0
        have u1 := S.out.b4.frozen 1
        have u2 := S.out.b4.frozen 2
        have u3 := S.out.b4.frozen 3
        have u4 := S.out.b4.frozen 4
        have u5 := S.out.b4.frozen 5
        go_wp2
        refine bodyPost_ret (v := evV ⟨2, 1 + z5, j, 0, 1 + zt, []⟩ none 0) (by simp [results, Try.results49, go_sem, y0, y1, y2, y3, y4, y5]) rfl (S.out.finish ⟨2, 1 + z5, j, 0, 1 + zt, []⟩ none 0 (fun h => absurd h (by simp)) (by simp) (by omega))
    · have bp : decide ((0 : Int) < po) = false := by simpa using hpo
      obtain ⟨y0, y1, y2, y3, y4, y5⟩ := sixE S.out.b4
      have u0 := S.out.b4.frozen 0
      have u1 := S.out.b4.frozen 1
      have u2 := S.out.b4.frozen 2
      have u3 := S.out.b4.frozen 3
      have u4 := S.out.b4.frozen 4
      have u5 := S.out.b4.frozen 5
      go_wp2
      refine bodyPost_ret (v := evV ⟨2, 1 + z5, j, 0, 1 + zt, []⟩ none 0) (by simp [results, Try.results49, go_sem, y0, y1, y2, y3, y4, y5]) rfl (S.out.finish ⟨2, 1 + z5, j, 0, 1 + zt, []⟩ none 0 (fun h => absurd h (by simp)) (by simp) (by omega))
  by_cases hk1 : zk = 1
  · subst hk1
    clear hk0
    go_wp2_with fail
    refine (pick_any 3 g a bs cap _ B _ S.out.rdr (by omega) (by omega) (by omega)).mono ?_
    rintro en w5 ⟨zt, rfl, ztl, ztm, hgr, -, hr⟩
    have zth := ztm (by omega)
    have S' := Lib.hid (S.out.pick hgr hr)
    clear ztm hgr hr S
    have S := S'
    clear S'
    obtain ⟨pg, hin, hsay, hlow⟩ := (HE.out.grown S.out.grown (fun q hq => by injection hq; omega)).mem HI.out hj5
    have m1 := hin.c1
    obtain ⟨pl, po, pgb, pq, pc, pz⟩ := pg
    simp only at m1
    clear hin hsay hlow
    obtain ⟨c0, c1, c2, c3, c4⟩ := S.out.b3.five
    by_cases hpo : (0 : Int) < po
    · have bp : decide ((0 : Int) < po) = true := by simpa using hpo
      go_wp2_with fail
      refine (pick_any 3 g a bs cap _ B _ S.out.rdr (by omega) (by omega) (by omega)).mono ?_
      rintro en w6 ⟨zq, rfl, zql, zqm, hgr, -, hr⟩
      have zqh := zqm (by omega)
      have S' := Lib.hid (S.out.pick hgr hr)
      clear zqm hgr hr S
      have S := S'
      clear S'
      clear c0 c1 c2 c3 c4
      by_cases hq : (0 : Int) < zq
      · have bq : decide ((0 : Int) < zq) = true := by simpa using hq
        obtain ⟨y0, y1, y2, y3, y4, y5⟩ := sixE S.out.b4
        have u0 := S.out.b4.frozen 0
        have u1 := S.out.b4.frozen 1
        have u2 := S.out.b4.frozen 2
        have u3 := S.out.b4.frozen 3
        have u4 := S.out.b4.frozen 4
        have u5 := S.out.b4.frozen 5
        go_wp2
        refine bodyPost_ret (v := evV ⟨2, 1 + z5, j, 0, 0, []⟩ none 0) (by simp [results, Try.results49, go_sem, y0, y1, y2, y3, y4, y5]) rfl (S.out.finish ⟨2, 1 + z5, j, 0, 0, []⟩ none 0 (fun h => absurd h (by simp)) (by simp) (by omega))
      · have bq : decide ((0 : Int) < zq) = false := by simpa using hq
        obtain ⟨y0, y1, y2, y3, y4, y5⟩ := sixE S.out.b4
        have u0 := S.out.b4.frozen 0
        have u1 := S.out.b4.frozen 1
        have u2 := S.out.b4.frozen 2
        have u3 := S.out.b4.frozen 3
        have u4 := S.out.b4.frozen 4
        have u5 := S.out.b4.frozen 5
        go_wp2
        refine bodyPost_ret (v := evV ⟨2, 1 + z5, j, 0, 1 + zt, []⟩ none 0) (by simp [results, Try.results49, go_sem, y0, y1, y2, y3, y4, y5]) rfl (S.out.finish ⟨2, 1 + z5, j, 0, 1 + zt, []⟩ none 0 (fun h => absurd h (by simp)) (by simp) (by omega))
    · have bp : decide ((0 : Int) < po) = false := by simpa using hpo
      obtain ⟨y0, y1, y2, y3, y4, y5⟩ := sixE S.out.b4
      have u0 := S.out.b4.frozen 0
      have u1 := S.out.b4.frozen 1
      have u2 := S.out.b4.frozen 2
      have u3 := S.out.b4.frozen 3
      have u4 := S.out.b4.frozen 4
      have u5 := S.out.b4.frozen 5
      go_wp2
      refine bodyPost_ret (v := evV ⟨2, 1 + z5, j, 0, 1 + zt, []⟩ none 0) (by simp [results, Try.results49, go_sem, y0, y1, y2, y3, y4, y5]) rfl (S.out.finish ⟨2, 1 + z5, j, 0, 1 + zt, []⟩ none 0 (fun h => absurd h (by simp)) (by simp) (by omega))
  by_cases hk2 : zk = 2
  · subst hk2
    clear hk0
    clear hk1
    go_wp2_with fail
    refine (pick_any 3 g a bs cap _ B _ S.out.rdr (by omega) (by omega) (by omega)).mono ?_
    rintro en w5 ⟨zt, rfl, ztl, ztm, hgr, -, hr⟩
    have zth := ztm (by omega)
    have S' := Lib.hid (S.out.pick hgr hr)
    clear ztm hgr hr S
    have S := S'
    clear S'
    obtain ⟨pg, hin, hsay, hlow⟩ := (HE.out.grown S.out.grown (fun q hq => by injection hq; omega)).mem HI.out hj5
    have m1 := hin.c1
    obtain ⟨pl, po, pgb, pq, pc, pz⟩ := pg
    simp only at m1
    clear hin hsay hlow
    obtain ⟨c0, c1, c2, c3, c4⟩ := S.out.b3.five
    by_cases hpo : (0 : Int) < po
    · have bp : decide ((0 : Int) < po) = true := by simpa using hpo
      go_wp2_with fail
      refine (pick_any 3 g a bs cap _ B _ S.out.rdr (by omega) (by omega) (by omega)).mono ?_
      rintro en w6 ⟨zq, rfl, zql, zqm, hgr, -, hr⟩
      have zqh := zqm (by omega)
      have S' := Lib.hid (S.out.pick hgr hr)
      clear zqm hgr hr S
      have S := S'
      clear S'
      clear c0 c1 c2 c3 c4
      by_cases hq : (0 : Int) < zq
      · have bq : decide ((0 : Int) < zq) = true := by simpa using hq
        obtain ⟨y0, y1, y2, y3, y4, y5⟩ := sixE S.out.b4
        have u0 := S.out.b4.frozen 0
        have u1 := S.out.b4.frozen 1
        have u2 := S.out.b4.frozen 2
        have u3 := S.out.b4.frozen 3
        have u4 := S.out.b4.frozen 4
        have u5 := S.out.b4.frozen 5
        go_wp2
        refine bodyPost_ret (v := evV ⟨2, 1 + z5, j, 0, 0, []⟩ none 0) (by simp [results, Try.results49, go_sem, y0, y1, y2, y3, y4, y5]) rfl (S.out.finish ⟨2, 1 + z5, j, 0, 0, []⟩ none 0 (fun h => absurd h (by simp)) (by simp) (by omega))
      · have bq : decide ((0 : Int) < zq) = false := by simpa using hq
        obtain ⟨y0, y1, y2, y3, y4, y5⟩ := sixE S.out.b4
        have u0 := S.out.b4.frozen 0
        have u1 := S.out.b4.frozen 1
        have u2 := S.out.b4.frozen 2
        have u3 := S.out.b4.frozen 3
        have u4 := S.out.b4.frozen 4
        have u5 := S.out.b4.frozen 5
        go_wp2
        refine bodyPost_ret (v := evV ⟨2, 1 + z5, j, 0, 1 + zt, []⟩ none 0) (by simp [results, Try.results49, go_sem, y0, y1, y2, y3, y4, y5]) rfl (S.out.finish ⟨2, 1 + z5, j, 0, 1 + zt, []⟩ none 0 (fun h => absurd h (by simp)) (by simp) (by omega))
    · have bp : decide ((0 : Int) < po) = false := by simpa using hpo
      obtain ⟨y0, y1, y2, y3, y4, y5⟩ := sixE S.out.b4
      have u0 := S.out.b4.frozen 0
      have u1 := S.out.b4.frozen 1
      have u2 := S.out.b4.frozen 2
      have u3 := S.out.b4.frozen 3
      have u4 := S.out.b4.frozen 4
      have u5 := S.out.b4.frozen 5
      go_wp2
      refine bodyPost_ret (v := evV ⟨2, 1 + z5, j, 0, 1 + zt, []⟩ none 0) (by simp [results, Try.results49, go_sem, y0, y1, y2, y3, y4, y5]) rfl (S.out.finish ⟨2, 1 + z5, j, 0, 1 + zt, []⟩ none 0 (fun h => absurd h (by simp)) (by simp) (by omega))
  by_cases hk3 : zk = 3
  · subst hk3
    clear hk0
    clear hk1
    clear hk2
    obtain ⟨c0, c1, c2, c3, c4⟩ := S.out.b3.five
    go_wp2_with fail
    refine (HLk.out _ (HE.out.grown S.out.grown (fun q hq => by injection hq; omega))).mono ?_
    rintro en w5 ⟨rfl, b2⟩
    have S' := Lib.hid (S.out.below b2)
    clear b2 S
    have S := S'
    clear S'
    clear c0 c1 c2 c3 c4
    generalize lockE e.log (j : Int) = qq at *
    by_cases hq1 : qq < 1
    · go_wp2_with fail
      refine (pick_any 9 g a bs cap _ B _ S.out.rdr (by omega) (by omega) (by omega)).mono ?_
      rintro en w6 ⟨zv, rfl, zvl, zvm, hgr, -, hr⟩
      have zvh := zvm (by omega)
      have S' := Lib.hid (S.out.pick hgr hr)
      clear zvm hgr hr S
      have S := S'
      clear S'
      go_wp2_with fail
      refine (pick_any 10 g a bs cap _ B _ S.out.rdr (by omega) (by omega) (by omega)).mono ?_
      rintro en w7 ⟨zw, rfl, zwl, zwm, hgr, -, hr⟩
      have zwh := zwm (by omega)
      have S' := Lib.hid (S.out.pick hgr hr)
      clear zwm hgr hr S
      have S := S'
      clear S'
      go_wp2_with fail
      refine (pick_any 10 g a bs cap _ B _ S.out.rdr (by omega) (by omega) (by omega)).mono ?_
      rintro en w8 ⟨zx, rfl, zxl, zxm, hgr, -, hr⟩
      have zxh := zxm (by omega)
      have S' := Lib.hid (S.out.pick hgr hr)
      clear zxm hgr hr S
      have S := S'
      clear S'
      have S' := Lib.hid (S.out.alloc (.cells #[.int .i64 (1 + zv), .int .i64 zw, .int .i64 zx] 3))
      have L := Lib.hid (Has.new w8 3 #[.int .i64 (1 + zv), .int .i64 zw, .int .i64 zx])
      clear S
      have S := S'
      clear S'
      have HVs : Hid (Vals (w8.alloc (.cells #[.int .i64 (1 + zv), .int .i64 zw, .int .i64 zx] 3)) (some ⟨w8.heap.size, 0, none⟩) [1 + zv, zw, zx]) := fun _ => ⟨w8.heap.size, 0, rfl, ⟨_, L.out⟩, fun i hi => by
        rw [L.out.cell]
        match i, hi with
        | 0, _ => rfl
        | 1, _ => rfl
        | 2, _ => rfl⟩
      obtain ⟨y0, y1, y2, y3, y4, y5⟩ := sixE S.out.b4
      have u0 := S.out.b4.frozen 0
      have u1 := S.out.b4.frozen 1
      have u2 := S.out.b4.frozen 2
      have u3 := S.out.b4.frozen 3
      have u4 := S.out.b4.frozen 4
      have u5 := S.out.b4.frozen 5
      go_wp2
      refine bodyPost_ret (v := evV ⟨3, 1, j, 0, 0, [1 + zv, zw, zx]⟩ (some ⟨w8.heap.size, 0, none⟩) 3) (by simp [results, Try.results49, go_sem, y0, y1, y2, y3, y4, y5]) rfl (S.out.finish ⟨3, 1, j, 0, 0, [1 + zv, zw, zx]⟩ (some ⟨w8.heap.size, 0, none⟩) 3 HVs.out (by simp) (by omega))
    · go_wp2_with fail
      refine (pick_any 9 g a bs cap _ B _ S.out.rdr (by omega) (by omega) (by omega)).mono ?_
      rintro en w6 ⟨zv, rfl, zvl, zvm, hgr, -, hr⟩
      have zvh := zvm (by omega)
      have S' := Lib.hid (S.out.pick hgr hr)
      clear zvm hgr hr S
      have S := S'
      clear S'
      go_wp2_with fail
      refine (pick_any 10 g a bs cap _ B _ S.out.rdr (by omega) (by omega) (by omega)).mono ?_
      rintro en w7 ⟨zw, rfl, zwl, zwm, hgr, -, hr⟩
      have zwh := zwm (by omega)
      have S' := Lib.hid (S.out.pick hgr hr)
      clear zwm hgr hr S
      have S := S'
      clear S'
      go_wp2_with fail
      refine (pick_any 10 g a bs cap _ B _ S.out.rdr (by omega) (by omega) (by omega)).mono ?_
      rintro en w8 ⟨zx, rfl, zxl, zxm, hgr, -, hr⟩
      have zxh := zxm (by omega)
      have S' := Lib.hid (S.out.pick hgr hr)
      clear zxm hgr hr S
      have S := S'
      clear S'
      have S' := Lib.hid (S.out.alloc (.cells #[.int .i64 (1 + zv), .int .i64 zw, .int .i64 zx] 3))
      have L := Lib.hid (Has.new w8 3 #[.int .i64 (1 + zv), .int .i64 zw, .int .i64 zx])
      clear S
      have S := S'
      clear S'
      have HVs : Hid (Vals (w8.alloc (.cells #[.int .i64 (1 + zv), .int .i64 zw, .int .i64 zx] 3)) (some ⟨w8.heap.size, 0, none⟩) [1 + zv, zw, zx]) := fun _ => ⟨w8.heap.size, 0, rfl, ⟨_, L.out⟩, fun i hi => by
        rw [L.out.cell]
        match i, hi with
        | 0, _ => rfl
        | 1, _ => rfl
        | 2, _ => rfl⟩
      obtain ⟨y0, y1, y2, y3, y4, y5⟩ := sixE S.out.b4
      have u0 := S.out.b4.frozen 0
      have u1 := S.out.b4.frozen 1
      have u2 := S.out.b4.frozen 2
      have u3 := S.out.b4.frozen 3
      have u4 := S.out.b4.frozen 4
      have u5 := S.out.b4.frozen 5
      go_wp2
      refine bodyPost_ret (v := evV ⟨3, qq, j, 0, 0, [1 + zv, zw, zx]⟩ (some ⟨w8.heap.size, 0, none⟩) 3) (by simp [results, Try.results49, go_sem, y0, y1, y2, y3, y4, y5]) rfl (S.out.finish ⟨3, qq, j, 0, 0, [1 + zv, zw, zx]⟩ (some ⟨w8.heap.size, 0, none⟩) 3 HVs.out (by simp) (by omega))
  by_cases hk4 : zk = 4
  · subst hk4
    clear hk0
    clear hk1
    clear hk2
    clear hk3
    obtain ⟨y0, y1, y2, y3, y4, y5⟩ := sixE S.out.b4
    have u0 := S.out.b4.frozen 0
    have u1 := S.out.b4.frozen 1
    have u2 := S.out.b4.frozen 2
    have u3 := S.out.b4.frozen 3
    have u4 := S.out.b4.frozen 4
    have u5 := S.out.b4.frozen 5
    go_wp2
    refine bodyPost_ret (v := evV ⟨4, 1 + z5, 0, 0, 0, []⟩ none 0) (by simp [results, Try.results49, go_sem, y0, y1, y2, y3, y4, y5]) rfl (S.out.finish ⟨4, 1 + z5, 0, 0, 0, []⟩ none 0 (fun h => absurd h (by simp)) (by simp) (by omega))
  by_cases hk5 : zk = 5
  · subst hk5
    clear hk0
    clear hk1
    clear hk2
    clear hk3
    clear hk4
    obtain ⟨y0, y1, y2, y3, y4, y5⟩ := sixE S.out.b4
    have u0 := S.out.b4.frozen 0
    have u1 := S.out.b4.frozen 1
    have u2 := S.out.b4.frozen 2
    have u3 := S.out.b4.frozen 3
    have u4 := S.out.b4.frozen 4
    have u5 := S.out.b4.frozen 5
    go_wp2
    refine bodyPost_ret (v := evV ⟨4, 1 + z5, 0, 0, 0, []⟩ none 0) (by simp [results, Try.results49, go_sem, y0, y1, y2, y3, y4, y5]) rfl (S.out.finish ⟨4, 1 + z5, 0, 0, 0, []⟩ none 0 (fun h => absurd h (by simp)) (by simp) (by omega))
  by_cases hk6 : zk = 6
  · subst hk6
    clear hk0
    clear hk1
    clear hk2
    clear hk3
    clear hk4
    clear hk5
    obtain ⟨y0, y1, y2, y3, y4, y5⟩ := sixE S.out.b4
    have u0 := S.out.b4.frozen 0
    have u1 := S.out.b4.frozen 1
    have u2 := S.out.b4.frozen 2
    have u3 := S.out.b4.frozen 3
    have u4 := S.out.b4.frozen 4
    have u5 := S.out.b4.frozen 5
    go_wp2
    refine bodyPost_ret (v := evV ⟨5, 1 + z5, 0, 0, 0, []⟩ none 0) (by simp [results, Try.results49, go_sem, y0, y1, y2, y3, y4, y5]) rfl (S.out.finish ⟨5, 1 + z5, 0, 0, 0, []⟩ none 0 (fun h => absurd h (by simp)) (by simp) (by omega))
  by_cases hk7 : zk = 7
  · subst hk7
    clear hk0
    clear hk1
    clear hk2
    clear hk3
    clear hk4
    clear hk5
    clear hk6
    obtain ⟨y0, y1, y2, y3, y4, y5⟩ := sixE S.out.b4
    have u0 := S.out.b4.frozen 0
    have u1 := S.out.b4.frozen 1
    have u2 := S.out.b4.frozen 2
    have u3 := S.out.b4.frozen 3
    have u4 := S.out.b4.frozen 4
    have u5 := S.out.b4.frozen 5
    go_wp2
    refine bodyPost_ret (v := evV ⟨6, 0, j, 0, 0, []⟩ none 0) (by simp [results, Try.results49, go_sem, y0, y1, y2, y3, y4, y5]) rfl (S.out.finish ⟨6, 0, j, 0, 0, []⟩ none 0 (fun h => absurd h (by simp)) (by simp) (by omega))
  by_cases hk8 : zk = 8
  · subst hk8
    clear hk0
    clear hk1
    clear hk2
    clear hk3
    clear hk4
    clear hk5
    clear hk6
    clear hk7
    obtain ⟨y0, y1, y2, y3, y4, y5⟩ := sixE S.out.b4
    have u0 := S.out.b4.frozen 0
    have u1 := S.out.b4.frozen 1
    have u2 := S.out.b4.frozen 2
    have u3 := S.out.b4.frozen 3
    have u4 := S.out.b4.frozen 4
    have u5 := S.out.b4.frozen 5
    go_wp2
    refine bodyPost_ret (v := evV ⟨6, 0, j, 0, 0, []⟩ none 0) (by simp [results, Try.results49, go_sem, y0, y1, y2, y3, y4, y5]) rfl (S.out.finish ⟨6, 0, j, 0, 0, []⟩ none 0 (fun h => absurd h (by simp)) (by simp) (by omega))
  by_cases hk9 : zk = 9
  · subst hk9
    clear hk0
    clear hk1
    clear hk2
    clear hk3
    clear hk4
    clear hk5
    clear hk6
    clear hk7
    clear hk8
    go_wp2_with fail
    refine (pick_any 3 g a bs cap _ B _ S.out.rdr (by omega) (by omega) (by omega)).mono ?_
    rintro en w5 ⟨zt, rfl, ztl, ztm, hgr, -, hr⟩
    have zth := ztm (by omega)
    have S' := Lib.hid (S.out.pick hgr hr)
    clear ztm hgr hr S
    have S := S'
    clear S'
    by_cases ht0 : zt = 0
    · subst ht0
      obtain ⟨y0, y1, y2, y3, y4, y5⟩ := sixE S.out.b4
      have u0 := S.out.b4.frozen 0
      have u1 := S.out.b4.frozen 1
      have u2 := S.out.b4.frozen 2
      have u3 := S.out.b4.frozen 3
      have u4 := S.out.b4.frozen 4
      have u5 := S.out.b4.frozen 5
      go_wp2
      refine bodyPost_ret (v := evV ⟨7, 0, 0, 0, 0, []⟩ none 0) (by simp [results, Try.results49, go_sem, y0, y1, y2, y3, y4, y5]) rfl (S.out.finish ⟨7, 0, 0, 0, 0, []⟩ none 0 (fun h => absurd h (by simp)) (by simp) (by omega))
    · have bt : ((zt : Int) == 0) = false := by simpa using ht0
      clear ht0
      obtain ⟨c0, c1, c2, c3, c4⟩ := S.out.b3.five
      go_upto_region 26 with (fail)
      clear c0 c1 c2 c3 c4
      have Sd : Hid (EvSt w w5.drew g a bs cap (p + 1 + 1 + 1 + 1) B x e) := S.out.below (wy_drew w5)
      have llen : (0 : Int) ≤ (e.log.length : Int) := by omega
      clear S
      refine wp_region_held_drew (S := (fun w' => w'.cell? ⟨w.heap.size, 2, none⟩ = some (.slice (some ⟨x.lb, 0, none⟩) e.log.length x.lc))) (by kernel_rfl) ?_ (fun hHeld0 => ?_)
      · (first | (with_reducible exact Sd.out.b3.five.2.2.1) | exact (Sd.out.b3.keep (put6E_far (b := w.heap.size + 1) (v := ⟨8, 0, 0, 0, vv, []⟩) (av := none) (cv := 0) (by omega))).five.2.2.1 | exact Sd.out.b3.five.2.2.1)
      refine wpAnyH_take (i := 0) (oi := { dst := some 85, op := Go.Op.fieldAddr 60 (Go.Operand.tmp 3) 2, type := 0, pos := "l71_draw.go:164", after := #[], guard := none }) (v := ?_) rfl (by kernel_rfl) (by kernel_rfl) (by kernel_rfl) (fun _ _ _ h => h) (Or.inl ⟨by rfl, ?_⟩) hHeld0 ?_
      rotate_left
      · (intro w hSw; (try dsimp only at hSw); go_simp; (first | done | (with_reducible rfl) | (rw [if_neg (by omega)]) | (rw [if_neg (by simp only [ByteArray.size_append]; omega)])))
      (try simp only [Act.put, List.setIfInBounds_toArray, List.set_cons_zero, List.set_cons_succ])
      refine wpAnyH_take (i := 1) (oi := { dst := some 86, op := Go.Op.load 23 (Go.Operand.tmp 85), type := 23, pos := "l71_draw.go:164", after := #[{ on := 0, ground := Go.Ground.data }], guard := none }) (v := ?_) rfl (by kernel_rfl) (by kernel_rfl) (by kernel_rfl) (fun _ _ _ h => h) (Or.inl ⟨by rfl, ?_⟩) hHeld0 ?_
      rotate_left
      · (intro w hSw; (try dsimp only at hSw); go_simp; (first | done | (with_reducible rfl) | (rw [if_neg (by omega)]) | (rw [if_neg (by simp only [ByteArray.size_append]; omega)])))
      (try simp only [Act.put, List.setIfInBounds_toArray, List.set_cons_zero, List.set_cons_succ])
      refine wpAnyH_take (i := 2) (oi := { dst := some 87, op := Go.Op.call { callee := Go.Callee.builtin Go.Builtin.len, args := #[Go.Operand.tmp 86], argTypes := #[23] }, type := 3, pos := "l71_draw.go:164", after := #[{ on := 1, ground := Go.Ground.data }], guard := none }) (v := ?_) rfl (by kernel_rfl) (by kernel_rfl) (by kernel_rfl) (fun _ _ _ h => h) (Or.inl ⟨by rfl, ?_⟩) hHeld0 ?_
      rotate_left
      · (intro w hSw; (try dsimp only at hSw); go_simp; (first | done | (with_reducible rfl) | (rw [if_neg (by omega)]) | (rw [if_neg (by simp only [ByteArray.size_append]; omega)])))
      (try simp only [Act.put, List.setIfInBounds_toArray, List.set_cons_zero, List.set_cons_succ])
      refine wpAnyH_take (i := 3) (oi := { dst := some 88, op := Go.Op.move (Go.Operand.tmp 0), type := 38, pos := "l71_draw.go:164", after := #[], guard := none }) (v := ?_) rfl (by kernel_rfl) (by kernel_rfl) (by kernel_rfl) (fun _ _ _ h => h) (Or.inl ⟨by rfl, ?_⟩) hHeld0 ?_
      rotate_left
      · (intro w hSw; (try dsimp only at hSw); go_simp; (first | done | (with_reducible rfl) | (rw [if_neg (by omega)]) | (rw [if_neg (by simp only [ByteArray.size_append]; omega)])))
      (try simp only [Act.put, List.setIfInBounds_toArray, List.set_cons_zero, List.set_cons_succ])
      refine wpAnyH_take (i := 8) (oi := { dst := some 93, op := Go.Op.move (Go.Operand.tmp 0), type := 38, pos := "l71_draw.go:164", after := #[], guard := none }) (v := ?_) rfl (by kernel_rfl) (by kernel_rfl) (by kernel_rfl) (fun _ _ _ h => h) (Or.inl ⟨by rfl, ?_⟩) hHeld0 ?_
      rotate_left
      · (intro w hSw; (try dsimp only at hSw); go_simp; (first | done | (with_reducible rfl) | (rw [if_neg (by omega)]) | (rw [if_neg (by simp only [ByteArray.size_append]; omega)])))
      (try simp only [Act.put, List.setIfInBounds_toArray, List.set_cons_zero, List.set_cons_succ])
      refine wpAnyH_ready (rs := [4]) (by kernel_rfl) (by simp) ?_
      refine AllReadyH.cons (o := { dst := some 89, op := Go.Op.call { callee := Go.Callee.value (Go.Operand.func 29), args := #[Go.Operand.tmp 88, Go.Operand.const (Go.Value.int Go.IntKind.i64 4)], argTypes := #[38, 3] }, type := 3, pos := "l71_draw.go:164", after := #[{ on := 3, ground := Go.Ground.data }], guard := none }) rfl (fun K hK => ?_) AllReadyH.nil
      go_simp
      refine (pick_any 4 g a bs cap _ B _ Sd.out.rdr (by omega) (by omega) (by omega)).mono ?_
      rintro en w6 ⟨zu, rfl, zul, zum, hgr, -, hr⟩
      have zuh := zum (by omega)
      have S' := Lib.hid (Sd.out.pick hgr hr)
      clear zum hgr hr Sd
      have Sd := S'
      clear S'
      have wq : IntKind.i64.wrap ((e.log.length : Int) - zu) = (e.log.length : Int) - zu := IntWalk.i64_in _ (by omega)
      (try go_wp2_with fail)
      refine hK.out _ _ ?_ (fun hHeld1 => ?_)
      · (first | (with_reducible exact Sd.out.b3.five.2.2.1) | exact (Sd.out.b3.keep (put6E_far (b := w.heap.size + 1) (v := ⟨8, 0, 0, 0, vv, []⟩) (av := none) (cv := 0) (by omega))).five.2.2.1 | exact Sd.out.b3.five.2.2.1)
      clear hK K hHeld0
      (try simp only [Act.put, List.setIfInBounds_toArray, List.set_cons_zero, List.set_cons_succ])
      by_cases hlt : (e.log.length : Int) - zu < 0
      · refine wpAnyH_take (i := 5) (oi := { dst := some 90, op := Go.Op.binOp Go.BinOp.sub 3 (Go.Operand.tmp 87) (Go.Operand.tmp 89) 3, type := 3, pos := "l71_draw.go:164", after := #[{ on := 2, ground := Go.Ground.data }, { on := 4, ground := Go.Ground.data }], guard := none }) (v := ?_) rfl (by kernel_rfl) (by kernel_rfl) (by kernel_rfl) (fun _ _ _ h => h) (Or.inl ⟨by rfl, ?_⟩) hHeld1 ?_
        rotate_left
        · (intro w hSw; (try dsimp only at hSw); go_simp; (first | done | (with_reducible rfl) | (rw [if_neg (by omega)]) | (rw [if_neg (by simp only [ByteArray.size_append]; omega)])))
        (try simp only [Act.put, List.setIfInBounds_toArray, List.set_cons_zero, List.set_cons_succ])
        refine wpAnyH_take (i := 6) (oi := { dst := some 91, op := Go.Op.call { callee := Go.Callee.builtin Go.Builtin.max, args := #[Go.Operand.tmp 90, Go.Operand.const (Go.Value.int Go.IntKind.i64 0)], argTypes := #[3, 3] }, type := 3, pos := "l71_draw.go:164", after := #[{ on := 5, ground := Go.Ground.data }], guard := none }) (v := ?_) rfl (by kernel_rfl) (by kernel_rfl) (by kernel_rfl) (fun _ _ _ h => h) (Or.inl ⟨by rfl, ?_⟩) hHeld1 ?_
        rotate_left
        · (intro w hSw; (try dsimp only at hSw); go_simp; (first | done | (with_reducible rfl) | (rw [if_neg (by omega)]) | (rw [if_neg (by simp only [ByteArray.size_append]; omega)])))
        (try simp only [Act.put, List.setIfInBounds_toArray, List.set_cons_zero, List.set_cons_succ])
        refine wpAnyH_ready (rs := [7, 9]) (by kernel_rfl) (by simp) ?_
        refine AllReadyH.cons (o := { dst := some 92, op := Go.Op.buildSlice 31 3 #[(0, Go.Operand.const (Go.Value.int Go.IntKind.i64 0)), (1, Go.Operand.const (Go.Value.int Go.IntKind.i64 99)), (2, Go.Operand.tmp 91)], type := 31, pos := "l71_draw.go:164", after := #[{ on := 6, ground := Go.Ground.data }], guard := none }) rfl (fun K hK => ?_) (AllReadyH.cons (o := { dst := some 94, op := Go.Op.call { callee := Go.Callee.value (Go.Operand.func 29), args := #[Go.Operand.tmp 93, Go.Operand.const (Go.Value.int Go.IntKind.i64 3)], argTypes := #[38, 3] }, type := 3, pos := "l71_draw.go:164", after := #[{ on := 8, ground := Go.Ground.data }, { on := 4, ground := Go.Ground.chain }], guard := none }) rfl (fun K hK => ?_) AllReadyH.nil)
        · go_simp
          have lgx := Sd.out.rdr.has.lt
          (first | (have L := Lib.hid (Has.new w7 3 #[.int .i64 0, .int .i64 99, .int .i64 0])) | (have L := Lib.hid (Has.new w6 3 #[.int .i64 0, .int .i64 99, .int .i64 0])))
          have S' := Lib.hid (Sd.out.alloc (.cells #[.int .i64 0, .int .i64 99, .int .i64 0] 3))
          clear Sd
          have Sd := S'
          clear S'
          (try clear y0 y1 y2 y3 y4 y5 u0 u1 u2 u3 u4 u5)
          obtain ⟨y0, y1, y2, y3, y4, y5⟩ := sixE Sd.out.b4
          have u0 := Sd.out.b4.frozen 0
          have u1 := Sd.out.b4.frozen 1
          have u2 := Sd.out.b4.frozen 2
          have u3 := Sd.out.b4.frozen 3
          have u4 := Sd.out.b4.frozen 4
          have u5 := Sd.out.b4.frozen 5
          (first | (have hvv0 := list3 L.out ix3; obtain ⟨vv, hvv⟩ := hvv0) | skip)
          (try go_wp2_with fail)
          refine hK.out _ _ ?_ (fun hHeld2 => ?_)
          · (first | (with_reducible exact Sd.out.b3.five.2.2.1) | exact (Sd.out.b3.keep (put6E_far (b := w.heap.size + 1) (v := ⟨8, 0, 0, 0, vv, []⟩) (av := none) (cv := 0) (by omega))).five.2.2.1 | exact Sd.out.b3.five.2.2.1)
          clear hK K hHeld1
          (try simp only [Act.put, List.setIfInBounds_toArray, List.set_cons_zero, List.set_cons_succ])
          refine wpAnyH_ready (rs := [9]) (by kernel_rfl) (by simp) ?_
          refine AllReadyH.cons (o := { dst := some 94, op := Go.Op.call { callee := Go.Callee.value (Go.Operand.func 29), args := #[Go.Operand.tmp 93, Go.Operand.const (Go.Value.int Go.IntKind.i64 3)], argTypes := #[38, 3] }, type := 3, pos := "l71_draw.go:164", after := #[{ on := 8, ground := Go.Ground.data }, { on := 4, ground := Go.Ground.chain }], guard := none }) rfl (fun K hK => ?_) AllReadyH.nil
          go_simp
          refine (pick_any 3 g a bs cap _ B _ Sd.out.rdr (by omega) (by omega) (by omega)).mono ?_
          rintro en w7 ⟨zy, rfl, zyl, zym, hgr, -, hr⟩
          have zyh := zym (by omega)
          (first | (have L' := Lib.hid (L.out.grown hgr (fun e => by injection e; omega)); clear L; have L := L'; clear L') | skip)
          have S' := Lib.hid (Sd.out.pick hgr hr)
          clear zym hgr hr Sd
          have Sd := S'
          clear S'
          obtain ⟨ix, rfl⟩ := Int.eq_ofNat_of_zero_le zyl
          have ix3 : ix < 3 := by omega
          have ix0 : (0 : Int) ≤ (ix : Int) := by omega
          have ix3' : (ix : Int) < 3 := by omega
          (try clear y0 y1 y2 y3 y4 y5 u0 u1 u2 u3 u4 u5)
          obtain ⟨y0, y1, y2, y3, y4, y5⟩ := sixE Sd.out.b4
          have u0 := Sd.out.b4.frozen 0
          have u1 := Sd.out.b4.frozen 1
          have u2 := Sd.out.b4.frozen 2
          have u3 := Sd.out.b4.frozen 3
          have u4 := Sd.out.b4.frozen 4
          have u5 := Sd.out.b4.frozen 5
          (first | (have hvv0 := list3 L.out ix3; obtain ⟨vv, hvv⟩ := hvv0) | skip)
          (try go_wp2_with fail)
          refine hK.out _ _ ?_ (fun hHeld3 => ?_)
          · (first | (with_reducible exact Sd.out.b3.five.2.2.1) | exact (Sd.out.b3.keep (put6E_far (b := w.heap.size + 1) (v := ⟨8, 0, 0, 0, vv, []⟩) (av := none) (cv := 0) (by omega))).five.2.2.1 | exact Sd.out.b3.five.2.2.1)
          clear hK K hHeld2
          (try simp only [Act.put, List.setIfInBounds_toArray, List.set_cons_zero, List.set_cons_succ])
          refine wpAnyH_take (i := 10) (oi := { dst := some 95, op := Go.Op.indexAddr 31 (Go.Operand.tmp 92) (Go.Operand.tmp 94), type := 0, pos := "l71_draw.go:164", after := #[{ on := 7, ground := Go.Ground.data }, { on := 9, ground := Go.Ground.data }], guard := none }) (v := ?_) rfl (by kernel_rfl) (by kernel_rfl) (by kernel_rfl) (fun _ _ _ h => h) (Or.inl ⟨by rfl, ?_⟩) hHeld3 ?_
          rotate_left
          · (intro w hSw; (try dsimp only at hSw); go_simp; (first | done | (with_reducible rfl) | (rw [if_neg (by omega)]) | (rw [if_neg (by simp only [ByteArray.size_append]; omega)])))
          (try simp only [Act.put, List.setIfInBounds_toArray, List.set_cons_zero, List.set_cons_succ])
          refine wpAnyH_ready (rs := [11]) (by kernel_rfl) (by simp) ?_
          refine AllReadyH.cons (o := { dst := some 96, op := Go.Op.load 3 (Go.Operand.tmp 95), type := 3, pos := "l71_draw.go:164", after := #[{ on := 10, ground := Go.Ground.data }], guard := none }) rfl (fun K hK => ?_) AllReadyH.nil
          go_simp
          skip
          (try go_wp2_with fail)
          refine hK.out _ _ ?_ (fun hHeld4 => ?_)
          · (first | (with_reducible exact Sd.out.b3.five.2.2.1) | exact (Sd.out.b3.keep (put6E_far (b := w.heap.size + 1) (v := ⟨8, 0, 0, 0, vv, []⟩) (av := none) (cv := 0) (by omega))).five.2.2.1 | exact Sd.out.b3.five.2.2.1)
          clear hK K hHeld3
          (try simp only [Act.put, List.setIfInBounds_toArray, List.set_cons_zero, List.set_cons_succ])
          refine wpAnyH_take (i := 12) (oi := { dst := some 97, op := Go.Op.build 72 #[(0, Go.Operand.const (Go.Value.int Go.IntKind.i64 8)), (4, Go.Operand.tmp 96)], type := 72, pos := "l71_draw.go:164", after := #[{ on := 11, ground := Go.Ground.data }], guard := none }) (v := ?_) rfl (by kernel_rfl) (by kernel_rfl) (by kernel_rfl) (fun _ _ _ h => h) (Or.inl ⟨by rfl, ?_⟩) hHeld4 ?_
          rotate_left
          · (intro w hSw; (try dsimp only at hSw); go_simp; (first | done | (with_reducible rfl) | (rw [if_neg (by omega)]) | (rw [if_neg (by simp only [ByteArray.size_append]; omega)])))
          (try simp only [Act.put, List.setIfInBounds_toArray, List.set_cons_zero, List.set_cons_succ])
          refine wpAnyH_ready (rs := [13]) (by kernel_rfl) (by simp) ?_
          refine AllReadyH.cons (o := { dst := none, op := Go.Op.store 72 (Go.Operand.tmp 4) (Go.Operand.tmp 97), type := 0, pos := "l71_draw.go:164", after := #[{ on := 12, ground := Go.Ground.data }, { on := 9, ground := Go.Ground.chain }, { on := 0, ground := Go.Ground.phase }, { on := 1, ground := Go.Ground.phase }, { on := 2, ground := Go.Ground.phase }, { on := 3, ground := Go.Ground.phase }, { on := 4, ground := Go.Ground.phase }, { on := 5, ground := Go.Ground.phase }, { on := 6, ground := Go.Ground.phase }, { on := 7, ground := Go.Ground.phase }, { on := 8, ground := Go.Ground.phase }, { on := 9, ground := Go.Ground.phase }, { on := 10, ground := Go.Ground.phase }, { on := 11, ground := Go.Ground.phase }, { on := 12, ground := Go.Ground.phase }], guard := none }) rfl (fun K hK => ?_) AllReadyH.nil
          go_simp
          skip
          (try go_wp2_with fail)
          refine hK.out _ _ ?_ (fun hHeld5 => ?_)
          · (first | (with_reducible exact Sd.out.b3.five.2.2.1) | exact (Sd.out.b3.keep (put6E_far (b := w.heap.size + 1) (v := ⟨8, 0, 0, 0, vv, []⟩) (av := none) (cv := 0) (by omega))).five.2.2.1 | exact Sd.out.b3.five.2.2.1)
          clear hK K hHeld4
          (try simp only [Act.put, List.setIfInBounds_toArray, List.set_cons_zero, List.set_cons_succ])
          refine wpAnyH_done (by kernel_rfl) ?_ _
          clear hHeld5
          go_wp2
          refine bodyPost_ret (v := evV ⟨8, 0, 0, 0, vv, []⟩ none 0) (by simp [results, Try.results49, go_sem, y0, y1, y2, y3, y4, y5]) rfl (Sd.out.finish ⟨8, 0, 0, 0, vv, []⟩ none 0 (fun h => absurd h (by simp)) (by simp) (by omega))
        · go_simp
          refine (pick_any 3 g a bs cap _ B _ Sd.out.rdr (by omega) (by omega) (by omega)).mono ?_
          rintro en w7 ⟨zy, rfl, zyl, zym, hgr, -, hr⟩
          have zyh := zym (by omega)
          (first | (have L' := Lib.hid (L.out.grown hgr (fun e => by injection e; omega)); clear L; have L := L'; clear L') | skip)
          have S' := Lib.hid (Sd.out.pick hgr hr)
          clear zym hgr hr Sd
          have Sd := S'
          clear S'
          obtain ⟨ix, rfl⟩ := Int.eq_ofNat_of_zero_le zyl
          have ix3 : ix < 3 := by omega
          have ix0 : (0 : Int) ≤ (ix : Int) := by omega
          have ix3' : (ix : Int) < 3 := by omega
          (try clear y0 y1 y2 y3 y4 y5 u0 u1 u2 u3 u4 u5)
          obtain ⟨y0, y1, y2, y3, y4, y5⟩ := sixE Sd.out.b4
          have u0 := Sd.out.b4.frozen 0
          have u1 := Sd.out.b4.frozen 1
          have u2 := Sd.out.b4.frozen 2
          have u3 := Sd.out.b4.frozen 3
          have u4 := Sd.out.b4.frozen 4
          have u5 := Sd.out.b4.frozen 5
          (first | (have hvv0 := list3 L.out ix3; obtain ⟨vv, hvv⟩ := hvv0) | skip)
          (try go_wp2_with fail)
          refine hK.out _ _ ?_ (fun hHeld2 => ?_)
          · (first | (with_reducible exact Sd.out.b3.five.2.2.1) | exact (Sd.out.b3.keep (put6E_far (b := w.heap.size + 1) (v := ⟨8, 0, 0, 0, vv, []⟩) (av := none) (cv := 0) (by omega))).five.2.2.1 | exact Sd.out.b3.five.2.2.1)
          clear hK K hHeld1
          (try simp only [Act.put, List.setIfInBounds_toArray, List.set_cons_zero, List.set_cons_succ])
          refine wpAnyH_ready (rs := [7]) (by kernel_rfl) (by simp) ?_
          refine AllReadyH.cons (o := { dst := some 92, op := Go.Op.buildSlice 31 3 #[(0, Go.Operand.const (Go.Value.int Go.IntKind.i64 0)), (1, Go.Operand.const (Go.Value.int Go.IntKind.i64 99)), (2, Go.Operand.tmp 91)], type := 31, pos := "l71_draw.go:164", after := #[{ on := 6, ground := Go.Ground.data }], guard := none }) rfl (fun K hK => ?_) AllReadyH.nil
          go_simp
          have lgx := Sd.out.rdr.has.lt
          (first | (have L := Lib.hid (Has.new w7 3 #[.int .i64 0, .int .i64 99, .int .i64 0])) | (have L := Lib.hid (Has.new w6 3 #[.int .i64 0, .int .i64 99, .int .i64 0])))
          have S' := Lib.hid (Sd.out.alloc (.cells #[.int .i64 0, .int .i64 99, .int .i64 0] 3))
          clear Sd
          have Sd := S'
          clear S'
          (try clear y0 y1 y2 y3 y4 y5 u0 u1 u2 u3 u4 u5)
          obtain ⟨y0, y1, y2, y3, y4, y5⟩ := sixE Sd.out.b4
          have u0 := Sd.out.b4.frozen 0
          have u1 := Sd.out.b4.frozen 1
          have u2 := Sd.out.b4.frozen 2
          have u3 := Sd.out.b4.frozen 3
          have u4 := Sd.out.b4.frozen 4
          have u5 := Sd.out.b4.frozen 5
          (first | (have hvv0 := list3 L.out ix3; obtain ⟨vv, hvv⟩ := hvv0) | skip)
          (try go_wp2_with fail)
          refine hK.out _ _ ?_ (fun hHeld3 => ?_)
          · (first | (with_reducible exact Sd.out.b3.five.2.2.1) | exact (Sd.out.b3.keep (put6E_far (b := w.heap.size + 1) (v := ⟨8, 0, 0, 0, vv, []⟩) (av := none) (cv := 0) (by omega))).five.2.2.1 | exact Sd.out.b3.five.2.2.1)
          clear hK K hHeld2
          (try simp only [Act.put, List.setIfInBounds_toArray, List.set_cons_zero, List.set_cons_succ])
          refine wpAnyH_take (i := 10) (oi := { dst := some 95, op := Go.Op.indexAddr 31 (Go.Operand.tmp 92) (Go.Operand.tmp 94), type := 0, pos := "l71_draw.go:164", after := #[{ on := 7, ground := Go.Ground.data }, { on := 9, ground := Go.Ground.data }], guard := none }) (v := ?_) rfl (by kernel_rfl) (by kernel_rfl) (by kernel_rfl) (fun _ _ _ h => h) (Or.inl ⟨by rfl, ?_⟩) hHeld3 ?_
          rotate_left
          · (intro w hSw; (try dsimp only at hSw); go_simp; (first | done | (with_reducible rfl) | (rw [if_neg (by omega)]) | (rw [if_neg (by simp only [ByteArray.size_append]; omega)])))
          (try simp only [Act.put, List.setIfInBounds_toArray, List.set_cons_zero, List.set_cons_succ])
          refine wpAnyH_ready (rs := [11]) (by kernel_rfl) (by simp) ?_
          refine AllReadyH.cons (o := { dst := some 96, op := Go.Op.load 3 (Go.Operand.tmp 95), type := 3, pos := "l71_draw.go:164", after := #[{ on := 10, ground := Go.Ground.data }], guard := none }) rfl (fun K hK => ?_) AllReadyH.nil
          go_simp
          skip
          (try go_wp2_with fail)
          refine hK.out _ _ ?_ (fun hHeld4 => ?_)
          · (first | (with_reducible exact Sd.out.b3.five.2.2.1) | exact (Sd.out.b3.keep (put6E_far (b := w.heap.size + 1) (v := ⟨8, 0, 0, 0, vv, []⟩) (av := none) (cv := 0) (by omega))).five.2.2.1 | exact Sd.out.b3.five.2.2.1)
          clear hK K hHeld3
          (try simp only [Act.put, List.setIfInBounds_toArray, List.set_cons_zero, List.set_cons_succ])
          refine wpAnyH_take (i := 12) (oi := { dst := some 97, op := Go.Op.build 72 #[(0, Go.Operand.const (Go.Value.int Go.IntKind.i64 8)), (4, Go.Operand.tmp 96)], type := 72, pos := "l71_draw.go:164", after := #[{ on := 11, ground := Go.Ground.data }], guard := none }) (v := ?_) rfl (by kernel_rfl) (by kernel_rfl) (by kernel_rfl) (fun _ _ _ h => h) (Or.inl ⟨by rfl, ?_⟩) hHeld4 ?_
          rotate_left
          · (intro w hSw; (try dsimp only at hSw); go_simp; (first | done | (with_reducible rfl) | (rw [if_neg (by omega)]) | (rw [if_neg (by simp only [ByteArray.size_append]; omega)])))
          (try simp only [Act.put, List.setIfInBounds_toArray, List.set_cons_zero, List.set_cons_succ])
          refine wpAnyH_ready (rs := [13]) (by kernel_rfl) (by simp) ?_
          refine AllReadyH.cons (o := { dst := none, op := Go.Op.store 72 (Go.Operand.tmp 4) (Go.Operand.tmp 97), type := 0, pos := "l71_draw.go:164", after := #[{ on := 12, ground := Go.Ground.data }, { on := 9, ground := Go.Ground.chain }, { on := 0, ground := Go.Ground.phase }, { on := 1, ground := Go.Ground.phase }, { on := 2, ground := Go.Ground.phase }, { on := 3, ground := Go.Ground.phase }, { on := 4, ground := Go.Ground.phase }, { on := 5, ground := Go.Ground.phase }, { on := 6, ground := Go.Ground.phase }, { on := 7, ground := Go.Ground.phase }, { on := 8, ground := Go.Ground.phase }, { on := 9, ground := Go.Ground.phase }, { on := 10, ground := Go.Ground.phase }, { on := 11, ground := Go.Ground.phase }, { on := 12, ground := Go.Ground.phase }], guard := none }) rfl (fun K hK => ?_) AllReadyH.nil
          go_simp
          skip
          (try go_wp2_with fail)
          refine hK.out _ _ ?_ (fun hHeld5 => ?_)
          · (first | (with_reducible exact Sd.out.b3.five.2.2.1) | exact (Sd.out.b3.keep (put6E_far (b := w.heap.size + 1) (v := ⟨8, 0, 0, 0, vv, []⟩) (av := none) (cv := 0) (by omega))).five.2.2.1 | exact Sd.out.b3.five.2.2.1)
          clear hK K hHeld4
          (try simp only [Act.put, List.setIfInBounds_toArray, List.set_cons_zero, List.set_cons_succ])
          refine wpAnyH_done (by kernel_rfl) ?_ _
          clear hHeld5
          go_wp2
          refine bodyPost_ret (v := evV ⟨8, 0, 0, 0, vv, []⟩ none 0) (by simp [results, Try.results49, go_sem, y0, y1, y2, y3, y4, y5]) rfl (Sd.out.finish ⟨8, 0, 0, 0, vv, []⟩ none 0 (fun h => absurd h (by simp)) (by simp) (by omega))
      · refine wpAnyH_take (i := 5) (oi := { dst := some 90, op := Go.Op.binOp Go.BinOp.sub 3 (Go.Operand.tmp 87) (Go.Operand.tmp 89) 3, type := 3, pos := "l71_draw.go:164", after := #[{ on := 2, ground := Go.Ground.data }, { on := 4, ground := Go.Ground.data }], guard := none }) (v := ?_) rfl (by kernel_rfl) (by kernel_rfl) (by kernel_rfl) (fun _ _ _ h => h) (Or.inl ⟨by rfl, ?_⟩) hHeld1 ?_
        rotate_left
        · (intro w hSw; (try dsimp only at hSw); go_simp; (first | done | (with_reducible rfl) | (rw [if_neg (by omega)]) | (rw [if_neg (by simp only [ByteArray.size_append]; omega)])))
        (try simp only [Act.put, List.setIfInBounds_toArray, List.set_cons_zero, List.set_cons_succ])
        refine wpAnyH_take (i := 6) (oi := { dst := some 91, op := Go.Op.call { callee := Go.Callee.builtin Go.Builtin.max, args := #[Go.Operand.tmp 90, Go.Operand.const (Go.Value.int Go.IntKind.i64 0)], argTypes := #[3, 3] }, type := 3, pos := "l71_draw.go:164", after := #[{ on := 5, ground := Go.Ground.data }], guard := none }) (v := ?_) rfl (by kernel_rfl) (by kernel_rfl) (by kernel_rfl) (fun _ _ _ h => h) (Or.inl ⟨by rfl, ?_⟩) hHeld1 ?_
        rotate_left
        · (intro w hSw; (try dsimp only at hSw); go_simp; (first | done | (with_reducible rfl) | (rw [if_neg (by omega)]) | (rw [if_neg (by simp only [ByteArray.size_append]; omega)])))
        (try simp only [Act.put, List.setIfInBounds_toArray, List.set_cons_zero, List.set_cons_succ])
        refine wpAnyH_ready (rs := [7, 9]) (by kernel_rfl) (by simp) ?_
        refine AllReadyH.cons (o := { dst := some 92, op := Go.Op.buildSlice 31 3 #[(0, Go.Operand.const (Go.Value.int Go.IntKind.i64 0)), (1, Go.Operand.const (Go.Value.int Go.IntKind.i64 99)), (2, Go.Operand.tmp 91)], type := 31, pos := "l71_draw.go:164", after := #[{ on := 6, ground := Go.Ground.data }], guard := none }) rfl (fun K hK => ?_) (AllReadyH.cons (o := { dst := some 94, op := Go.Op.call { callee := Go.Callee.value (Go.Operand.func 29), args := #[Go.Operand.tmp 93, Go.Operand.const (Go.Value.int Go.IntKind.i64 3)], argTypes := #[38, 3] }, type := 3, pos := "l71_draw.go:164", after := #[{ on := 8, ground := Go.Ground.data }, { on := 4, ground := Go.Ground.chain }], guard := none }) rfl (fun K hK => ?_) AllReadyH.nil)
        · go_simp
          have lgx := Sd.out.rdr.has.lt
          (first | (have L := Lib.hid (Has.new w7 3 #[.int .i64 0, .int .i64 99, .int .i64 ((e.log.length : Int) - zu)])) | (have L := Lib.hid (Has.new w6 3 #[.int .i64 0, .int .i64 99, .int .i64 ((e.log.length : Int) - zu)])))
          have S' := Lib.hid (Sd.out.alloc (.cells #[.int .i64 0, .int .i64 99, .int .i64 ((e.log.length : Int) - zu)] 3))
          clear Sd
          have Sd := S'
          clear S'
          (try clear y0 y1 y2 y3 y4 y5 u0 u1 u2 u3 u4 u5)
          obtain ⟨y0, y1, y2, y3, y4, y5⟩ := sixE Sd.out.b4
          have u0 := Sd.out.b4.frozen 0
          have u1 := Sd.out.b4.frozen 1
          have u2 := Sd.out.b4.frozen 2
          have u3 := Sd.out.b4.frozen 3
          have u4 := Sd.out.b4.frozen 4
          have u5 := Sd.out.b4.frozen 5
          (first | (have hvv0 := list3 L.out ix3; obtain ⟨vv, hvv⟩ := hvv0) | skip)
          (try go_wp2_with fail)
          refine hK.out _ _ ?_ (fun hHeld2 => ?_)
          · (first | (with_reducible exact Sd.out.b3.five.2.2.1) | exact (Sd.out.b3.keep (put6E_far (b := w.heap.size + 1) (v := ⟨8, 0, 0, 0, vv, []⟩) (av := none) (cv := 0) (by omega))).five.2.2.1 | exact Sd.out.b3.five.2.2.1)
          clear hK K hHeld1
          (try simp only [Act.put, List.setIfInBounds_toArray, List.set_cons_zero, List.set_cons_succ])
          refine wpAnyH_ready (rs := [9]) (by kernel_rfl) (by simp) ?_
          refine AllReadyH.cons (o := { dst := some 94, op := Go.Op.call { callee := Go.Callee.value (Go.Operand.func 29), args := #[Go.Operand.tmp 93, Go.Operand.const (Go.Value.int Go.IntKind.i64 3)], argTypes := #[38, 3] }, type := 3, pos := "l71_draw.go:164", after := #[{ on := 8, ground := Go.Ground.data }, { on := 4, ground := Go.Ground.chain }], guard := none }) rfl (fun K hK => ?_) AllReadyH.nil
          go_simp
          refine (pick_any 3 g a bs cap _ B _ Sd.out.rdr (by omega) (by omega) (by omega)).mono ?_
          rintro en w7 ⟨zy, rfl, zyl, zym, hgr, -, hr⟩
          have zyh := zym (by omega)
          (first | (have L' := Lib.hid (L.out.grown hgr (fun e => by injection e; omega)); clear L; have L := L'; clear L') | skip)
          have S' := Lib.hid (Sd.out.pick hgr hr)
          clear zym hgr hr Sd
          have Sd := S'
          clear S'
          obtain ⟨ix, rfl⟩ := Int.eq_ofNat_of_zero_le zyl
          have ix3 : ix < 3 := by omega
          have ix0 : (0 : Int) ≤ (ix : Int) := by omega
          have ix3' : (ix : Int) < 3 := by omega
          (try clear y0 y1 y2 y3 y4 y5 u0 u1 u2 u3 u4 u5)
          obtain ⟨y0, y1, y2, y3, y4, y5⟩ := sixE Sd.out.b4
          have u0 := Sd.out.b4.frozen 0
          have u1 := Sd.out.b4.frozen 1
          have u2 := Sd.out.b4.frozen 2
          have u3 := Sd.out.b4.frozen 3
          have u4 := Sd.out.b4.frozen 4
          have u5 := Sd.out.b4.frozen 5
          (first | (have hvv0 := list3 L.out ix3; obtain ⟨vv, hvv⟩ := hvv0) | skip)
          (try go_wp2_with fail)
          refine hK.out _ _ ?_ (fun hHeld3 => ?_)
          · (first | (with_reducible exact Sd.out.b3.five.2.2.1) | exact (Sd.out.b3.keep (put6E_far (b := w.heap.size + 1) (v := ⟨8, 0, 0, 0, vv, []⟩) (av := none) (cv := 0) (by omega))).five.2.2.1 | exact Sd.out.b3.five.2.2.1)
          clear hK K hHeld2
          (try simp only [Act.put, List.setIfInBounds_toArray, List.set_cons_zero, List.set_cons_succ])
          refine wpAnyH_take (i := 10) (oi := { dst := some 95, op := Go.Op.indexAddr 31 (Go.Operand.tmp 92) (Go.Operand.tmp 94), type := 0, pos := "l71_draw.go:164", after := #[{ on := 7, ground := Go.Ground.data }, { on := 9, ground := Go.Ground.data }], guard := none }) (v := ?_) rfl (by kernel_rfl) (by kernel_rfl) (by kernel_rfl) (fun _ _ _ h => h) (Or.inl ⟨by rfl, ?_⟩) hHeld3 ?_
          rotate_left
          · (intro w hSw; (try dsimp only at hSw); go_simp; (first | done | (with_reducible rfl) | (rw [if_neg (by omega)]) | (rw [if_neg (by simp only [ByteArray.size_append]; omega)])))
          (try simp only [Act.put, List.setIfInBounds_toArray, List.set_cons_zero, List.set_cons_succ])
          refine wpAnyH_ready (rs := [11]) (by kernel_rfl) (by simp) ?_
          refine AllReadyH.cons (o := { dst := some 96, op := Go.Op.load 3 (Go.Operand.tmp 95), type := 3, pos := "l71_draw.go:164", after := #[{ on := 10, ground := Go.Ground.data }], guard := none }) rfl (fun K hK => ?_) AllReadyH.nil
          go_simp
          skip
          (try go_wp2_with fail)
          refine hK.out _ _ ?_ (fun hHeld4 => ?_)
          · (first | (with_reducible exact Sd.out.b3.five.2.2.1) | exact (Sd.out.b3.keep (put6E_far (b := w.heap.size + 1) (v := ⟨8, 0, 0, 0, vv, []⟩) (av := none) (cv := 0) (by omega))).five.2.2.1 | exact Sd.out.b3.five.2.2.1)
          clear hK K hHeld3
          (try simp only [Act.put, List.setIfInBounds_toArray, List.set_cons_zero, List.set_cons_succ])
          refine wpAnyH_take (i := 12) (oi := { dst := some 97, op := Go.Op.build 72 #[(0, Go.Operand.const (Go.Value.int Go.IntKind.i64 8)), (4, Go.Operand.tmp 96)], type := 72, pos := "l71_draw.go:164", after := #[{ on := 11, ground := Go.Ground.data }], guard := none }) (v := ?_) rfl (by kernel_rfl) (by kernel_rfl) (by kernel_rfl) (fun _ _ _ h => h) (Or.inl ⟨by rfl, ?_⟩) hHeld4 ?_
          rotate_left
          · (intro w hSw; (try dsimp only at hSw); go_simp; (first | done | (with_reducible rfl) | (rw [if_neg (by omega)]) | (rw [if_neg (by simp only [ByteArray.size_append]; omega)])))
          (try simp only [Act.put, List.setIfInBounds_toArray, List.set_cons_zero, List.set_cons_succ])
          refine wpAnyH_ready (rs := [13]) (by kernel_rfl) (by simp) ?_
          refine AllReadyH.cons (o := { dst := none, op := Go.Op.store 72 (Go.Operand.tmp 4) (Go.Operand.tmp 97), type := 0, pos := "l71_draw.go:164", after := #[{ on := 12, ground := Go.Ground.data }, { on := 9, ground := Go.Ground.chain }, { on := 0, ground := Go.Ground.phase }, { on := 1, ground := Go.Ground.phase }, { on := 2, ground := Go.Ground.phase }, { on := 3, ground := Go.Ground.phase }, { on := 4, ground := Go.Ground.phase }, { on := 5, ground := Go.Ground.phase }, { on := 6, ground := Go.Ground.phase }, { on := 7, ground := Go.Ground.phase }, { on := 8, ground := Go.Ground.phase }, { on := 9, ground := Go.Ground.phase }, { on := 10, ground := Go.Ground.phase }, { on := 11, ground := Go.Ground.phase }, { on := 12, ground := Go.Ground.phase }], guard := none }) rfl (fun K hK => ?_) AllReadyH.nil
          go_simp
          skip
          (try go_wp2_with fail)
          refine hK.out _ _ ?_ (fun hHeld5 => ?_)
          · (first | (with_reducible exact Sd.out.b3.five.2.2.1) | exact (Sd.out.b3.keep (put6E_far (b := w.heap.size + 1) (v := ⟨8, 0, 0, 0, vv, []⟩) (av := none) (cv := 0) (by omega))).five.2.2.1 | exact Sd.out.b3.five.2.2.1)
          clear hK K hHeld4
          (try simp only [Act.put, List.setIfInBounds_toArray, List.set_cons_zero, List.set_cons_succ])
          refine wpAnyH_done (by kernel_rfl) ?_ _
          clear hHeld5
          go_wp2
          refine bodyPost_ret (v := evV ⟨8, 0, 0, 0, vv, []⟩ none 0) (by simp [results, Try.results49, go_sem, y0, y1, y2, y3, y4, y5]) rfl (Sd.out.finish ⟨8, 0, 0, 0, vv, []⟩ none 0 (fun h => absurd h (by simp)) (by simp) (by omega))
        · go_simp
          refine (pick_any 3 g a bs cap _ B _ Sd.out.rdr (by omega) (by omega) (by omega)).mono ?_
          rintro en w7 ⟨zy, rfl, zyl, zym, hgr, -, hr⟩
          have zyh := zym (by omega)
          (first | (have L' := Lib.hid (L.out.grown hgr (fun e => by injection e; omega)); clear L; have L := L'; clear L') | skip)
          have S' := Lib.hid (Sd.out.pick hgr hr)
          clear zym hgr hr Sd
          have Sd := S'
          clear S'
          obtain ⟨ix, rfl⟩ := Int.eq_ofNat_of_zero_le zyl
          have ix3 : ix < 3 := by omega
          have ix0 : (0 : Int) ≤ (ix : Int) := by omega
          have ix3' : (ix : Int) < 3 := by omega
          (try clear y0 y1 y2 y3 y4 y5 u0 u1 u2 u3 u4 u5)
          obtain ⟨y0, y1, y2, y3, y4, y5⟩ := sixE Sd.out.b4
          have u0 := Sd.out.b4.frozen 0
          have u1 := Sd.out.b4.frozen 1
          have u2 := Sd.out.b4.frozen 2
          have u3 := Sd.out.b4.frozen 3
          have u4 := Sd.out.b4.frozen 4
          have u5 := Sd.out.b4.frozen 5
          (first | (have hvv0 := list3 L.out ix3; obtain ⟨vv, hvv⟩ := hvv0) | skip)
          (try go_wp2_with fail)
          refine hK.out _ _ ?_ (fun hHeld2 => ?_)
          · (first | (with_reducible exact Sd.out.b3.five.2.2.1) | exact (Sd.out.b3.keep (put6E_far (b := w.heap.size + 1) (v := ⟨8, 0, 0, 0, vv, []⟩) (av := none) (cv := 0) (by omega))).five.2.2.1 | exact Sd.out.b3.five.2.2.1)
          clear hK K hHeld1
          (try simp only [Act.put, List.setIfInBounds_toArray, List.set_cons_zero, List.set_cons_succ])
          refine wpAnyH_ready (rs := [7]) (by kernel_rfl) (by simp) ?_
          refine AllReadyH.cons (o := { dst := some 92, op := Go.Op.buildSlice 31 3 #[(0, Go.Operand.const (Go.Value.int Go.IntKind.i64 0)), (1, Go.Operand.const (Go.Value.int Go.IntKind.i64 99)), (2, Go.Operand.tmp 91)], type := 31, pos := "l71_draw.go:164", after := #[{ on := 6, ground := Go.Ground.data }], guard := none }) rfl (fun K hK => ?_) AllReadyH.nil
          go_simp
          have lgx := Sd.out.rdr.has.lt
          (first | (have L := Lib.hid (Has.new w7 3 #[.int .i64 0, .int .i64 99, .int .i64 ((e.log.length : Int) - zu)])) | (have L := Lib.hid (Has.new w6 3 #[.int .i64 0, .int .i64 99, .int .i64 ((e.log.length : Int) - zu)])))
          have S' := Lib.hid (Sd.out.alloc (.cells #[.int .i64 0, .int .i64 99, .int .i64 ((e.log.length : Int) - zu)] 3))
          clear Sd
          have Sd := S'
          clear S'
          (try clear y0 y1 y2 y3 y4 y5 u0 u1 u2 u3 u4 u5)
          obtain ⟨y0, y1, y2, y3, y4, y5⟩ := sixE Sd.out.b4
          have u0 := Sd.out.b4.frozen 0
          have u1 := Sd.out.b4.frozen 1
          have u2 := Sd.out.b4.frozen 2
          have u3 := Sd.out.b4.frozen 3
          have u4 := Sd.out.b4.frozen 4
          have u5 := Sd.out.b4.frozen 5
          (first | (have hvv0 := list3 L.out ix3; obtain ⟨vv, hvv⟩ := hvv0) | skip)
          (try go_wp2_with fail)
          refine hK.out _ _ ?_ (fun hHeld3 => ?_)
          · (first | (with_reducible exact Sd.out.b3.five.2.2.1) | exact (Sd.out.b3.keep (put6E_far (b := w.heap.size + 1) (v := ⟨8, 0, 0, 0, vv, []⟩) (av := none) (cv := 0) (by omega))).five.2.2.1 | exact Sd.out.b3.five.2.2.1)
          clear hK K hHeld2
          (try simp only [Act.put, List.setIfInBounds_toArray, List.set_cons_zero, List.set_cons_succ])
          refine wpAnyH_take (i := 10) (oi := { dst := some 95, op := Go.Op.indexAddr 31 (Go.Operand.tmp 92) (Go.Operand.tmp 94), type := 0, pos := "l71_draw.go:164", after := #[{ on := 7, ground := Go.Ground.data }, { on := 9, ground := Go.Ground.data }], guard := none }) (v := ?_) rfl (by kernel_rfl) (by kernel_rfl) (by kernel_rfl) (fun _ _ _ h => h) (Or.inl ⟨by rfl, ?_⟩) hHeld3 ?_
          rotate_left
          · (intro w hSw; (try dsimp only at hSw); go_simp; (first | done | (with_reducible rfl) | (rw [if_neg (by omega)]) | (rw [if_neg (by simp only [ByteArray.size_append]; omega)])))
          (try simp only [Act.put, List.setIfInBounds_toArray, List.set_cons_zero, List.set_cons_succ])
          refine wpAnyH_ready (rs := [11]) (by kernel_rfl) (by simp) ?_
          refine AllReadyH.cons (o := { dst := some 96, op := Go.Op.load 3 (Go.Operand.tmp 95), type := 3, pos := "l71_draw.go:164", after := #[{ on := 10, ground := Go.Ground.data }], guard := none }) rfl (fun K hK => ?_) AllReadyH.nil
          go_simp
          skip
          (try go_wp2_with fail)
          refine hK.out _ _ ?_ (fun hHeld4 => ?_)
          · (first | (with_reducible exact Sd.out.b3.five.2.2.1) | exact (Sd.out.b3.keep (put6E_far (b := w.heap.size + 1) (v := ⟨8, 0, 0, 0, vv, []⟩) (av := none) (cv := 0) (by omega))).five.2.2.1 | exact Sd.out.b3.five.2.2.1)
          clear hK K hHeld3
          (try simp only [Act.put, List.setIfInBounds_toArray, List.set_cons_zero, List.set_cons_succ])
          refine wpAnyH_take (i := 12) (oi := { dst := some 97, op := Go.Op.build 72 #[(0, Go.Operand.const (Go.Value.int Go.IntKind.i64 8)), (4, Go.Operand.tmp 96)], type := 72, pos := "l71_draw.go:164", after := #[{ on := 11, ground := Go.Ground.data }], guard := none }) (v := ?_) rfl (by kernel_rfl) (by kernel_rfl) (by kernel_rfl) (fun _ _ _ h => h) (Or.inl ⟨by rfl, ?_⟩) hHeld4 ?_
          rotate_left
          · (intro w hSw; (try dsimp only at hSw); go_simp; (first | done | (with_reducible rfl) | (rw [if_neg (by omega)]) | (rw [if_neg (by simp only [ByteArray.size_append]; omega)])))
          (try simp only [Act.put, List.setIfInBounds_toArray, List.set_cons_zero, List.set_cons_succ])
          refine wpAnyH_ready (rs := [13]) (by kernel_rfl) (by simp) ?_
          refine AllReadyH.cons (o := { dst := none, op := Go.Op.store 72 (Go.Operand.tmp 4) (Go.Operand.tmp 97), type := 0, pos := "l71_draw.go:164", after := #[{ on := 12, ground := Go.Ground.data }, { on := 9, ground := Go.Ground.chain }, { on := 0, ground := Go.Ground.phase }, { on := 1, ground := Go.Ground.phase }, { on := 2, ground := Go.Ground.phase }, { on := 3, ground := Go.Ground.phase }, { on := 4, ground := Go.Ground.phase }, { on := 5, ground := Go.Ground.phase }, { on := 6, ground := Go.Ground.phase }, { on := 7, ground := Go.Ground.phase }, { on := 8, ground := Go.Ground.phase }, { on := 9, ground := Go.Ground.phase }, { on := 10, ground := Go.Ground.phase }, { on := 11, ground := Go.Ground.phase }, { on := 12, ground := Go.Ground.phase }], guard := none }) rfl (fun K hK => ?_) AllReadyH.nil
          go_simp
          skip
          (try go_wp2_with fail)
          refine hK.out _ _ ?_ (fun hHeld5 => ?_)
          · (first | (with_reducible exact Sd.out.b3.five.2.2.1) | exact (Sd.out.b3.keep (put6E_far (b := w.heap.size + 1) (v := ⟨8, 0, 0, 0, vv, []⟩) (av := none) (cv := 0) (by omega))).five.2.2.1 | exact Sd.out.b3.five.2.2.1)
          clear hK K hHeld4
          (try simp only [Act.put, List.setIfInBounds_toArray, List.set_cons_zero, List.set_cons_succ])
          refine wpAnyH_done (by kernel_rfl) ?_ _
          clear hHeld5
          go_wp2
          refine bodyPost_ret (v := evV ⟨8, 0, 0, 0, vv, []⟩ none 0) (by simp [results, Try.results49, go_sem, y0, y1, y2, y3, y4, y5]) rfl (Sd.out.finish ⟨8, 0, 0, 0, vv, []⟩ none 0 (fun h => absurd h (by simp)) (by simp) (by omega))
  have e0 : ((zk : Int) == 0) = false := by simpa using hk0
  have e1 : ((zk : Int) == 1) = false := by simpa using hk1
  have e2 : ((zk : Int) == 2) = false := by simpa using hk2
  have e3 : ((zk : Int) == 3) = false := by simpa using hk3
  have e4 : ((zk : Int) == 4) = false := by simpa using hk4
  have e5 : ((zk : Int) == 5) = false := by simpa using hk5
  have e6 : ((zk : Int) == 6) = false := by simpa using hk6
  have e7 : ((zk : Int) == 7) = false := by simpa using hk7
  have e8 : ((zk : Int) == 8) = false := by simpa using hk8
  have e9 : ((zk : Int) == 9) = false := by simpa using hk9
  clear hk0 hk1 hk2 hk3 hk4 hk5 hk6 hk7 hk8 hk9
  go_upto_region 27 with (fail)
  go_wp2_with fail
  clear HLk
  go_loopg [6, 8] 4 (fun k pv iv wx => ∃ (q r : Nat) (p' : Int), pv = .int .i64 (q : Int) ∧ q < 5 ∧ iv = .int .i64 (r : Int) ∧ r + k = 4 ∧ p' ≤ p + 10 + r ∧ EvSt w wx g a bs cap p' B x e)
  case atStart => exact ⟨j, 0, _, rfl, hj5, rfl, by omega, by simp; omega, S.out⟩
  case round =>
    clear S j0 j5 hj5 z6h
    obtain ⟨q, r, p', rfl, hq5, rfl, hr4, hp', hS⟩ := hrel
    have S := Lib.hid hS
    clear hS
    have q0 : (0 : Int) ≤ (q : Int) := by omega
    have q5 : (q : Int) < 5 := by omega
    obtain ⟨pg, hin, hsay, hlow⟩ := (HE.out.grown S.out.grown (fun q hq => by injection hq; omega)).mem HI.out hq5
    have m1 := hin.c1
    obtain ⟨pl, po, pgb, pq, pc, pz⟩ := pg
    simp only at m1
    clear hin hsay hlow
    obtain ⟨c0, c1, c2, c3, c4⟩ := S.out.b3.five

    by_cases hr : r < 4
    · have hr' : (r : Int) < 4 := by omega
      by_cases hpo : po = 0
      · subst hpo
        go_wp2_with fail
        refine (pick_any 5 g a bs cap _ B _ S.out.rdr (by omega) (by omega) (by omega)).mono ?_
        rintro en wn ⟨zn, rfl, znl, znm, hgr, -, hr⟩
        have znh := znm (by omega)
        have S' := Lib.hid (S.out.pick hgr hr)
        clear znm hgr hr S
        have S := S'
        clear S'
        clear c0 c1 c2 c3 c4 m1
        obtain ⟨q', rfl⟩ := Int.eq_ofNat_of_zero_le znl
        go_wp2
        obtain ⟨n, rfl⟩ : ∃ n, gk = n + 1 := ⟨gk - 1, by omega⟩
        go_roundg n
        case measure => omega
        case rel => exact ⟨q', r + 1, _, rfl, by omega, by go_num, by omega, by simp; omega, S.out⟩
      · have bpo : ((po : Int) == 0) = false := by simpa using hpo
        have HLq : Hid (∀ W, Eng W base x e → Calls Try.prog 66 #[engV x e, .int .i64 (q : Int)] W (Keeps (.int .i64 (lockE e.log (q : Int))) W)) := fun W hW => l11Lock_any base x e q W hW HI.out
        go_wp2_with fail
        refine (HLq.out _ (HE.out.grown S.out.grown (fun q hq => by injection hq; omega))).mono ?_
        rintro en w5 ⟨rfl, b2⟩
        have S' := Lib.hid (S.out.below b2)
        clear b2 S
        have S := S'
        clear S'
        clear c0 c1 c2 c3 c4
        obtain ⟨c0, c1, c2, c3, c4⟩ := S.out.b3.five
        generalize lockE e.log (q : Int) = qq at *
        by_cases hqq : (0 : Int) < qq
        · have bqq : decide ((0 : Int) < qq) = true := by simpa using hqq
          go_wp2_with fail
          refine (pick_any 4 g a bs cap _ B _ S.out.rdr (by omega) (by omega) (by omega)).mono ?_
          rintro en w6 ⟨zq, rfl, zql, zqm, hgr, -, hr⟩
          have zqh := zqm (by omega)
          have S' := Lib.hid (S.out.pick hgr hr)
          clear zqm hgr hr S
          have S := S'
          clear S'
          clear c0 c1 c2 c3 c4
          by_cases hzq : (0 : Int) < zq
          · have bzq : decide ((0 : Int) < zq) = true := by simpa using hzq
            obtain ⟨c0, c1, c2, c3, c4⟩ := S.out.b3.five
            go_wp2_with fail
            refine (HLq.out _ (HE.out.grown S.out.grown (fun q hq => by injection hq; omega))).mono ?_
            rintro en w7 ⟨rfl, b2⟩
            have S' := Lib.hid (S.out.below b2)
            clear b2 S
            have S := S'
            clear S'
            clear c0 c1 c2 c3 c4
            go_wp2_with fail
            refine (pick_any 3 g a bs cap _ B _ S.out.rdr (by omega) (by omega) (by omega)).mono ?_
            rintro en w8 ⟨zs, rfl, zsl, zsm, hgr, -, hr⟩
            have zsh := zsm (by omega)
            have S' := Lib.hid (S.out.pick hgr hr)
            clear zsm hgr hr S
            have S := S'
            clear S'
            go_wp2_with fail
            refine (pick_any 10 g a bs cap _ B _ S.out.rdr (by omega) (by omega) (by omega)).mono ?_
            rintro en w9 ⟨za, rfl, zal, zam, hgr, -, hr⟩
            have zah := zam (by omega)
            have S' := Lib.hid (S.out.pick hgr hr)
            clear zam hgr hr S
            have S := S'
            clear S'
            go_wp2_with fail
            refine (pick_any 4 g a bs cap _ B _ S.out.rdr (by omega) (by omega) (by omega)).mono ?_
            rintro en wa ⟨zb, rfl, zbl, zbm, hgr, -, hr⟩
            have zbh := zbm (by omega)
            have S' := Lib.hid (S.out.pick hgr hr)
            clear zbm hgr hr S
            have S := S'
            clear S'
            have wb : IntKind.i64.wrap (zb + 2) = zb + 2 := IntWalk.i64_in _ (by omega)
            have hm : 0 ≤ za * (zb + 2) ∧ za * (zb + 2) ≤ 50 := by
              have hz : zb = 0 ∨ zb = 1 ∨ zb = 2 ∨ zb = 3 := by omega
              rcases hz with rfl | rfl | rfl | rfl <;> constructor <;> omega
            have wm : IntKind.i64.wrap (za * (zb + 2)) = za * (zb + 2) := IntWalk.i64_in _ (by omega)
            have hm0 := hm.1
            have hm1 := hm.2
            clear hm
            obtain ⟨y0, y1, y2, y3, y4, y5⟩ := sixE S.out.b4
            have u0 := S.out.b4.frozen 0
            have u1 := S.out.b4.frozen 1
            have u2 := S.out.b4.frozen 2
            have u3 := S.out.b4.frozen 3
            have u4 := S.out.b4.frozen 4
            have u5 := S.out.b4.frozen 5
            go_wp2
            refine bodyPost_ret (v := evV ⟨1, qq, q, zs, za * (zb + 2) / 4 % 10, []⟩ none 0) (by simp [results, Try.results49, go_sem, y0, y1, y2, y3, y4, y5]) rfl (S.out.finish ⟨1, qq, q, zs, za * (zb + 2) / 4 % 10, []⟩ none 0 (fun h => absurd h (by simp)) (by simp) (by omega))
          · have bzq : decide ((0 : Int) < zq) = false := by simpa using hzq
            go_wp2_with fail
            refine (pick_any 3 g a bs cap _ B _ S.out.rdr (by omega) (by omega) (by omega)).mono ?_
            rintro en w8 ⟨zs, rfl, zsl, zsm, hgr, -, hr⟩
            have zsh := zsm (by omega)
            have S' := Lib.hid (S.out.pick hgr hr)
            clear zsm hgr hr S
            have S := S'
            clear S'
            go_wp2_with fail
            refine (pick_any 10 g a bs cap _ B _ S.out.rdr (by omega) (by omega) (by omega)).mono ?_
            rintro en w9 ⟨za, rfl, zal, zam, hgr, -, hr⟩
            have zah := zam (by omega)
            have S' := Lib.hid (S.out.pick hgr hr)
            clear zam hgr hr S
            have S := S'
            clear S'
            go_wp2_with fail
            refine (pick_any 4 g a bs cap _ B _ S.out.rdr (by omega) (by omega) (by omega)).mono ?_
            rintro en wa ⟨zb, rfl, zbl, zbm, hgr, -, hr⟩
            have zbh := zbm (by omega)
            have S' := Lib.hid (S.out.pick hgr hr)
            clear zbm hgr hr S
            have S := S'
            clear S'
            have wb : IntKind.i64.wrap (zb + 2) = zb + 2 := IntWalk.i64_in _ (by omega)
            have hm : 0 ≤ za * (zb + 2) ∧ za * (zb + 2) ≤ 50 := by
              have hz : zb = 0 ∨ zb = 1 ∨ zb = 2 ∨ zb = 3 := by omega
              rcases hz with rfl | rfl | rfl | rfl <;> constructor <;> omega
            have wm : IntKind.i64.wrap (za * (zb + 2)) = za * (zb + 2) := IntWalk.i64_in _ (by omega)
            have hm0 := hm.1
            have hm1 := hm.2
            clear hm
            obtain ⟨y0, y1, y2, y3, y4, y5⟩ := sixE S.out.b4
            have u0 := S.out.b4.frozen 0
            have u1 := S.out.b4.frozen 1
            have u2 := S.out.b4.frozen 2
            have u3 := S.out.b4.frozen 3
            have u4 := S.out.b4.frozen 4
            have u5 := S.out.b4.frozen 5
            go_wp2
            refine bodyPost_ret (v := evV ⟨1, 1 + z5, q, zs, za * (zb + 2) / 4 % 10, []⟩ none 0) (by simp [results, Try.results49, go_sem, y0, y1, y2, y3, y4, y5]) rfl (S.out.finish ⟨1, 1 + z5, q, zs, za * (zb + 2) / 4 % 10, []⟩ none 0 (fun h => absurd h (by simp)) (by simp) (by omega))
        · have bqq : decide ((0 : Int) < qq) = false := by simpa using hqq
          clear c0 c1 c2 c3 c4
          go_wp2_with fail
          refine (pick_any 3 g a bs cap _ B _ S.out.rdr (by omega) (by omega) (by omega)).mono ?_
          rintro en w8 ⟨zs, rfl, zsl, zsm, hgr, -, hr⟩
          have zsh := zsm (by omega)
          have S' := Lib.hid (S.out.pick hgr hr)
          clear zsm hgr hr S
          have S := S'
          clear S'
          go_wp2_with fail
          refine (pick_any 10 g a bs cap _ B _ S.out.rdr (by omega) (by omega) (by omega)).mono ?_
          rintro en w9 ⟨za, rfl, zal, zam, hgr, -, hr⟩
          have zah := zam (by omega)
          have S' := Lib.hid (S.out.pick hgr hr)
          clear zam hgr hr S
          have S := S'
          clear S'
          go_wp2_with fail
          refine (pick_any 4 g a bs cap _ B _ S.out.rdr (by omega) (by omega) (by omega)).mono ?_
          rintro en wa ⟨zb, rfl, zbl, zbm, hgr, -, hr⟩
          have zbh := zbm (by omega)
          have S' := Lib.hid (S.out.pick hgr hr)
          clear zbm hgr hr S
          have S := S'
          clear S'
          have wb : IntKind.i64.wrap (zb + 2) = zb + 2 := IntWalk.i64_in _ (by omega)
          have hm : 0 ≤ za * (zb + 2) ∧ za * (zb + 2) ≤ 50 := by
            have hz : zb = 0 ∨ zb = 1 ∨ zb = 2 ∨ zb = 3 := by omega
            rcases hz with rfl | rfl | rfl | rfl <;> constructor <;> omega
          have wm : IntKind.i64.wrap (za * (zb + 2)) = za * (zb + 2) := IntWalk.i64_in _ (by omega)
          have hm0 := hm.1
          have hm1 := hm.2
          clear hm
          obtain ⟨y0, y1, y2, y3, y4, y5⟩ := sixE S.out.b4
          have u0 := S.out.b4.frozen 0
          have u1 := S.out.b4.frozen 1
          have u2 := S.out.b4.frozen 2
          have u3 := S.out.b4.frozen 3
          have u4 := S.out.b4.frozen 4
          have u5 := S.out.b4.frozen 5
          go_wp2
          refine bodyPost_ret (v := evV ⟨1, 1 + z5, q, zs, za * (zb + 2) / 4 % 10, []⟩ none 0) (by simp [results, Try.results49, go_sem, y0, y1, y2, y3, y4, y5]) rfl (S.out.finish ⟨1, 1 + z5, q, zs, za * (zb + 2) / 4 % 10, []⟩ none 0 (fun h => absurd h (by simp)) (by simp) (by omega))
    · have hr' : ¬ (r : Int) < 4 := by omega
      have HLq : Hid (∀ W, Eng W base x e → Calls Try.prog 66 #[engV x e, .int .i64 (q : Int)] W (Keeps (.int .i64 (lockE e.log (q : Int))) W)) := fun W hW => l11Lock_any base x e q W hW HI.out
      go_wp2_with fail
      refine (HLq.out _ (HE.out.grown S.out.grown (fun q hq => by injection hq; omega))).mono ?_
      rintro en w5 ⟨rfl, b2⟩
      have S' := Lib.hid (S.out.below b2)
      clear b2 S
      have S := S'
      clear S'
      clear c0 c1 c2 c3 c4
      obtain ⟨c0, c1, c2, c3, c4⟩ := S.out.b3.five
      generalize lockE e.log (q : Int) = qq at *
      by_cases hqq : (0 : Int) < qq
      · have bqq : decide ((0 : Int) < qq) = true := by simpa using hqq
        go_wp2_with fail
        refine (pick_any 4 g a bs cap _ B _ S.out.rdr (by omega) (by omega) (by omega)).mono ?_
        rintro en w6 ⟨zq, rfl, zql, zqm, hgr, -, hr⟩
        have zqh := zqm (by omega)
        have S' := Lib.hid (S.out.pick hgr hr)
        clear zqm hgr hr S
        have S := S'
        clear S'
        clear c0 c1 c2 c3 c4
        by_cases hzq : (0 : Int) < zq
        · have bzq : decide ((0 : Int) < zq) = true := by simpa using hzq
          obtain ⟨c0, c1, c2, c3, c4⟩ := S.out.b3.five
          go_wp2_with fail
          refine (HLq.out _ (HE.out.grown S.out.grown (fun q hq => by injection hq; omega))).mono ?_
          rintro en w7 ⟨rfl, b2⟩
          have S' := Lib.hid (S.out.below b2)
          clear b2 S
          have S := S'
          clear S'
          clear c0 c1 c2 c3 c4
          go_wp2_with fail
          refine (pick_any 3 g a bs cap _ B _ S.out.rdr (by omega) (by omega) (by omega)).mono ?_
          rintro en w8 ⟨zs, rfl, zsl, zsm, hgr, -, hr⟩
          have zsh := zsm (by omega)
          have S' := Lib.hid (S.out.pick hgr hr)
          clear zsm hgr hr S
          have S := S'
          clear S'
          go_wp2_with fail
          refine (pick_any 10 g a bs cap _ B _ S.out.rdr (by omega) (by omega) (by omega)).mono ?_
          rintro en w9 ⟨za, rfl, zal, zam, hgr, -, hr⟩
          have zah := zam (by omega)
          have S' := Lib.hid (S.out.pick hgr hr)
          clear zam hgr hr S
          have S := S'
          clear S'
          go_wp2_with fail
          refine (pick_any 4 g a bs cap _ B _ S.out.rdr (by omega) (by omega) (by omega)).mono ?_
          rintro en wa ⟨zb, rfl, zbl, zbm, hgr, -, hr⟩
          have zbh := zbm (by omega)
          have S' := Lib.hid (S.out.pick hgr hr)
          clear zbm hgr hr S
          have S := S'
          clear S'
          have wb : IntKind.i64.wrap (zb + 2) = zb + 2 := IntWalk.i64_in _ (by omega)
          have hm : 0 ≤ za * (zb + 2) ∧ za * (zb + 2) ≤ 50 := by
            have hz : zb = 0 ∨ zb = 1 ∨ zb = 2 ∨ zb = 3 := by omega
            rcases hz with rfl | rfl | rfl | rfl <;> constructor <;> omega
          have wm : IntKind.i64.wrap (za * (zb + 2)) = za * (zb + 2) := IntWalk.i64_in _ (by omega)
          have hm0 := hm.1
          have hm1 := hm.2
          clear hm
          obtain ⟨y0, y1, y2, y3, y4, y5⟩ := sixE S.out.b4
          have u0 := S.out.b4.frozen 0
          have u1 := S.out.b4.frozen 1
          have u2 := S.out.b4.frozen 2
          have u3 := S.out.b4.frozen 3
          have u4 := S.out.b4.frozen 4
          have u5 := S.out.b4.frozen 5
          go_wp2
          refine bodyPost_ret (v := evV ⟨1, qq, q, zs, za * (zb + 2) / 4 % 10, []⟩ none 0) (by simp [results, Try.results49, go_sem, y0, y1, y2, y3, y4, y5]) rfl (S.out.finish ⟨1, qq, q, zs, za * (zb + 2) / 4 % 10, []⟩ none 0 (fun h => absurd h (by simp)) (by simp) (by omega))
        · have bzq : decide ((0 : Int) < zq) = false := by simpa using hzq
          go_wp2_with fail
          refine (pick_any 3 g a bs cap _ B _ S.out.rdr (by omega) (by omega) (by omega)).mono ?_
          rintro en w8 ⟨zs, rfl, zsl, zsm, hgr, -, hr⟩
          have zsh := zsm (by omega)
          have S' := Lib.hid (S.out.pick hgr hr)
          clear zsm hgr hr S
          have S := S'
          clear S'
          go_wp2_with fail
          refine (pick_any 10 g a bs cap _ B _ S.out.rdr (by omega) (by omega) (by omega)).mono ?_
          rintro en w9 ⟨za, rfl, zal, zam, hgr, -, hr⟩
          have zah := zam (by omega)
          have S' := Lib.hid (S.out.pick hgr hr)
          clear zam hgr hr S
          have S := S'
          clear S'
          go_wp2_with fail
          refine (pick_any 4 g a bs cap _ B _ S.out.rdr (by omega) (by omega) (by omega)).mono ?_
          rintro en wa ⟨zb, rfl, zbl, zbm, hgr, -, hr⟩
          have zbh := zbm (by omega)
          have S' := Lib.hid (S.out.pick hgr hr)
          clear zbm hgr hr S
          have S := S'
          clear S'
          have wb : IntKind.i64.wrap (zb + 2) = zb + 2 := IntWalk.i64_in _ (by omega)
          have hm : 0 ≤ za * (zb + 2) ∧ za * (zb + 2) ≤ 50 := by
            have hz : zb = 0 ∨ zb = 1 ∨ zb = 2 ∨ zb = 3 := by omega
            rcases hz with rfl | rfl | rfl | rfl <;> constructor <;> omega
          have wm : IntKind.i64.wrap (za * (zb + 2)) = za * (zb + 2) := IntWalk.i64_in _ (by omega)
          have hm0 := hm.1
          have hm1 := hm.2
          clear hm
          obtain ⟨y0, y1, y2, y3, y4, y5⟩ := sixE S.out.b4
          have u0 := S.out.b4.frozen 0
          have u1 := S.out.b4.frozen 1
          have u2 := S.out.b4.frozen 2
          have u3 := S.out.b4.frozen 3
          have u4 := S.out.b4.frozen 4
          have u5 := S.out.b4.frozen 5
          go_wp2
          refine bodyPost_ret (v := evV ⟨1, 1 + z5, q, zs, za * (zb + 2) / 4 % 10, []⟩ none 0) (by simp [results, Try.results49, go_sem, y0, y1, y2, y3, y4, y5]) rfl (S.out.finish ⟨1, 1 + z5, q, zs, za * (zb + 2) / 4 % 10, []⟩ none 0 (fun h => absurd h (by simp)) (by simp) (by omega))
      · have bqq : decide ((0 : Int) < qq) = false := by simpa using hqq
        clear c0 c1 c2 c3 c4
        go_wp2_with fail
        refine (pick_any 3 g a bs cap _ B _ S.out.rdr (by omega) (by omega) (by omega)).mono ?_
        rintro en w8 ⟨zs, rfl, zsl, zsm, hgr, -, hr⟩
        have zsh := zsm (by omega)
        have S' := Lib.hid (S.out.pick hgr hr)
        clear zsm hgr hr S
        have S := S'
        clear S'
        go_wp2_with fail
        refine (pick_any 10 g a bs cap _ B _ S.out.rdr (by omega) (by omega) (by omega)).mono ?_
        rintro en w9 ⟨za, rfl, zal, zam, hgr, -, hr⟩
        have zah := zam (by omega)
        have S' := Lib.hid (S.out.pick hgr hr)
        clear zam hgr hr S
        have S := S'
        clear S'
        go_wp2_with fail
        refine (pick_any 4 g a bs cap _ B _ S.out.rdr (by omega) (by omega) (by omega)).mono ?_
        rintro en wa ⟨zb, rfl, zbl, zbm, hgr, -, hr⟩
        have zbh := zbm (by omega)
        have S' := Lib.hid (S.out.pick hgr hr)
        clear zbm hgr hr S
        have S := S'
        clear S'
        have wb : IntKind.i64.wrap (zb + 2) = zb + 2 := IntWalk.i64_in _ (by omega)
        have hm : 0 ≤ za * (zb + 2) ∧ za * (zb + 2) ≤ 50 := by
          have hz : zb = 0 ∨ zb = 1 ∨ zb = 2 ∨ zb = 3 := by omega
          rcases hz with rfl | rfl | rfl | rfl <;> constructor <;> omega
        have wm : IntKind.i64.wrap (za * (zb + 2)) = za * (zb + 2) := IntWalk.i64_in _ (by omega)
        have hm0 := hm.1
        have hm1 := hm.2
        clear hm
        obtain ⟨y0, y1, y2, y3, y4, y5⟩ := sixE S.out.b4
        have u0 := S.out.b4.frozen 0
        have u1 := S.out.b4.frozen 1
        have u2 := S.out.b4.frozen 2
        have u3 := S.out.b4.frozen 3
        have u4 := S.out.b4.frozen 4
        have u5 := S.out.b4.frozen 5
        go_wp2
        refine bodyPost_ret (v := evV ⟨1, 1 + z5, q, zs, za * (zb + 2) / 4 % 10, []⟩ none 0) (by simp [results, Try.results49, go_sem, y0, y1, y2, y3, y4, y5]) rfl (S.out.finish ⟨1, 1 + z5, q, zs, za * (zb + 2) / 4 % 10, []⟩ none 0 (fun h => absurd h (by simp)) (by simp) (by omega))
end Go.Proofs.Ytejbmjdipfcblaa.Base
