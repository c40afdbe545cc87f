/-
  Contracts of the program's nextOk and closes. Conditions: the slice leads to records; the record's Next is a number from 0 to 150.
-/
import Derived.Test.YtejbmjdipfcblaaMathsK
import Derived.Test.YtejbmjdipfcblaaRecOkIK
import Derived.Deep.RegionHeld3
import Derived.Test.YtejbmjdipfcblaaLogSK
import Derived.Deep.DeepCutAuto
namespace Go.Proofs.Ytejbmjdipfcblaa.Base
open Go.RowKit

/-- the Next of a record, behind the first k -/
def nextB (rs : List R) (k : Nat) (r : R) : Bool := (r.x == 0) || (decide (r.x ≤ (k : Int)) && ((recAt rs (r.x - 1).toNat).t == r.t))

set_option maxHeartbeats 1000000 in
theorem nextOk_any (rs : List R) (k : Nat) (r : R) (a : Option Addr) (cap B : Nat) (w : World) (hk : k ≤ rs.length) (hz : Recs w B a rs) (hB : B ≤ w.heap.size) (x0 : 0 ≤ r.x) (x1 : r.x ≤ 150) :
    Calls Try.prog 41 #[.slice a k cap, recV r] w (Keeps (.bool (nextB rs k r)) w) := by
  have Hz := Lib.hid hz
  clear hz
  by_cases h0 : r.x = 0
  · have b0 : (r.x == 0) = true := by simp [h0]
    have Hq : Hid (nextB rs k r = true) := by show nextB rs k r = true; simp [nextB, h0]
    clear h0
    go_enter Try.func41, Try.ntmps41
    go_wp2
    go_quiet (fail)
    go_wp2
    go_ret
    exact ⟨ret_bool Hq.out.symm, below_draws (below_one _ _) _⟩
  · have b0 : (r.x == 0) = false := by simp [h0]
    by_cases hx : r.x ≤ (k : Int)
    · obtain ⟨kk, t, p, s, o', n, v, x⟩ := r
      simp only at x0 x1 h0 b0 hx
      obtain ⟨m, rfl⟩ : ∃ m : Nat, x = (m : Int) + 1 := ⟨(x - 1).toNat, by omega⟩
      obtain ⟨g, o, rfl, hgB, hr⟩ := Hz.out (by omega)
      have hgs : g < w.heap.size := by omega
      have e1 := (hr m (by omega)).t
      have bx : decide ((m : Int) + 1 ≤ (k : Int)) = true := by rw [decide_eq_true_eq]; exact hx
      have bx' : (m : Int) + 1 ≤ (k : Int) := hx
      have hwr : IntKind.i64.wrap (m : Int) = (m : Int) := IntWalk.i64_in _ (by omega)
      have hm0 : (0 : Int) ≤ (m : Int) := by omega
      have hm1 : (m : Int) < (k : Int) := by omega
      have hm2 : m < k := by omega
      have hmm : ((m : Int) + 1 - 1).toNat = m := by omega
      have Hq : Hid (nextB rs k ⟨kk, t, p, s, o', n, v, (m : Int) + 1⟩ = ((recAt rs m).t == t)) := by
        show nextB rs k ⟨kk, t, p, s, o', n, v, (m : Int) + 1⟩ = ((recAt rs m).t == t)
        unfold nextB
        simp only [b0, bx, hmm]
        simp
      clear hr h0 hx x0 x1 hmm
      generalize (recAt rs m).t = z at e1 Hq
      cases bt : (z == t)
      all_goals
        go_enter Try.func41, Try.ntmps41
        go_wp2
        go_quiet (fail)
        go_wp2
        go_ret
        exact ⟨ret_bool (by rw [Hq.out, bt]), below_draws (below_one _ _) _⟩
    · have bx : decide (r.x ≤ (k : Int)) = false := by simp; omega
      have Hq : Hid (nextB rs k r = false) := by show nextB rs k r = false; simp [nextB, h0, hx]
      clear h0
      go_enter Try.func41, Try.ntmps41
      go_wp2
      go_quiet (fail)
      go_wp2
      go_ret
      exact ⟨ret_bool Hq.out.symm, below_draws (below_one _ _) _⟩

set_option maxHeartbeats 1000000 in
theorem closes_any (r : R) (w : World) : Calls Try.prog 53 #[recV r] w (Keeps (.bool (endR r)) w) := by
  have Hd : Hid (endR r = ((r.k == 4) || (r.k == 5))) := rfl
  cases b4 : (r.k == 4) <;> cases b5 : (r.k == 5)
  all_goals
    go_enter Try.func53, Try.ntmps53
    go_wp2
    go_ret
    exact ⟨ret_bool (by rw [Hd.out, b4, b5]; rfl), below_one _ _⟩
end Go.Proofs.Ytejbmjdipfcblaa.Base

/-
  Contract of the program's table of last numbers behind one record more (method after). Condition: the record's transaction is one of 1 to 3.
-/
namespace Go.Proofs.Ytejbmjdipfcblaa.Base
open Go.RowKit

/-- a table of four numbers -/
def TabF (w : World) (h : Nat) (f : Nat → Int) : Prop := ∀ t, t < 4 → w.cell? ⟨h, t, none⟩ = some (.int .i64 (f t))
theorem TabF.keep {w w' : World} {h : Nat} {f : Nat → Int} (a : TabF w h f) (e : w'.heap[h]? = w.heap[h]?) : TabF w' h f :=
  fun t ht => (World.cell?_of_block (a := ⟨h, t, none⟩) e).trans (a t ht)
/-- the table with another number at t -/
def upd (f : Nat → Int) (t : Nat) (u : Int) : Nat → Int := fun j => if j = t then u else f j
theorem TabF.set {w : World} {h : Nat} {f : Nat → Int} (a : TabF w h f) (t : Nat) (ht : t < 4) (u : Int) : TabF (w.setCell ⟨h, t, none⟩ (.int .i64 u)) h (upd f t u) := fun j hj => by
  have := cell_set w h 0 j t (.int .i64 u) (.int .i64 (f t)) (by rw [Nat.zero_add]; exact a t ht)
  simp only [Nat.zero_add] at this
  rw [this]
  unfold upd
  by_cases e : j = t
  · rw [if_pos e, if_pos e]
  · rw [if_neg e, if_neg e, a j hj]
/-- the table stored whole -/
theorem TabF.four {w : World} {h : Nat} {f : Nat → Int} (a : TabF w h f) (g : Nat → Int) :
    TabF ((((w.setCell ⟨h, 0, none⟩ (.int .i64 (g 0))).setCell ⟨h, 1, none⟩ (.int .i64 (g 1))).setCell ⟨h, 2, none⟩ (.int .i64 (g 2))).setCell ⟨h, 3, none⟩ (.int .i64 (g 3))) h g := fun j hj => by
  rw [((((a.set 0 (by omega) (g 0)).set 1 (by omega) (g 1)).set 2 (by omega) (g 2)).set 3 (by omega) (g 3)) j hj]
  match j, hj with
  | 0, _ => rfl
  | 1, _ => rfl
  | 2, _ => rfl
  | 3, _ => rfl
/-- the table as a value -/
abbrev tabV (f : Nat → Int) : Value := .agg #[.int .i64 (f 0), .int .i64 (f 1), .int .i64 (f 2), .int .i64 (f 3)]
/-- the table behind a record of t with a number -/
def aftF (f : Nat → Int) (t : Nat) (r : R) (k : Int) : Nat → Int := upd f t (if endR r = true then 0 else k)
theorem four {w : World} {g : Nat} {t : TypeId} {a b c d : Value} (h : Has w g t #[a, b, c, d]) :
    w.cell? ⟨g, 0, none⟩ = some a ∧ w.cell? ⟨g, 1, none⟩ = some b ∧ w.cell? ⟨g, 2, none⟩ = some c ∧ w.cell? ⟨g, 3, none⟩ = some d :=
  ⟨h.cell 0, h.cell 1, h.cell 2, h.cell 3⟩

set_option maxHeartbeats 1000000 in
theorem after_1 (t0 t1 t2 t3 k u zk zp zs zo zn zv zx : Int) (hu : u = if endR ⟨zk, 1, zp, zs, zo, zn, zv, zx⟩ = true then (0 : Int) else k) (w : World) :
    Calls Try.prog 42 #[.agg #[.int .i64 t0, .int .i64 t1, .int .i64 t2, .int .i64 t3], recV ⟨zk, 1, zp, zs, zo, zn, zv, zx⟩, .int .i64 k] w (fun e w' => e = .returned (.agg #[.int .i64 t0, .int .i64 u, .int .i64 t2, .int .i64 t3]) ∧ Below w.heap.size w w') := by
  have Hu := Lib.hid hu
  clear hu
  have S1 : Hid (Below w.heap.size w (((w.alloc (.cells #[.int .i64 t0, .int .i64 k, .int .i64 t2, .int .i64 t3] 44)).alloc (.cells #[.int .i64 zk, .int .i64 1, .int .i64 zp, .int .i64 zs, .int .i64 zo, .int .i64 zn, .int .i64 zv, .int .i64 zx] 27)).alloc (.cells #[.int .i64 0, .int .i64 0, .int .i64 0, .int .i64 0] 44)) ∧ Has (((w.alloc (.cells #[.int .i64 t0, .int .i64 k, .int .i64 t2, .int .i64 t3] 44)).alloc (.cells #[.int .i64 zk, .int .i64 1, .int .i64 zp, .int .i64 zs, .int .i64 zo, .int .i64 zn, .int .i64 zv, .int .i64 zx] 27)).alloc (.cells #[.int .i64 0, .int .i64 0, .int .i64 0, .int .i64 0] 44)) w.heap.size 44 #[.int .i64 t0, .int .i64 k, .int .i64 t2, .int .i64 t3] ∧ Has (((w.alloc (.cells #[.int .i64 t0, .int .i64 k, .int .i64 t2, .int .i64 t3] 44)).alloc (.cells #[.int .i64 zk, .int .i64 1, .int .i64 zp, .int .i64 zs, .int .i64 zo, .int .i64 zn, .int .i64 zv, .int .i64 zx] 27)).alloc (.cells #[.int .i64 0, .int .i64 0, .int .i64 0, .int .i64 0] 44)) (w.heap.size + 1) 27 #[.int .i64 zk, .int .i64 1, .int .i64 zp, .int .i64 zs, .int .i64 zo, .int .i64 zn, .int .i64 zv, .int .i64 zx] ∧ Has (((w.alloc (.cells #[.int .i64 t0, .int .i64 k, .int .i64 t2, .int .i64 t3] 44)).alloc (.cells #[.int .i64 zk, .int .i64 1, .int .i64 zp, .int .i64 zs, .int .i64 zo, .int .i64 zn, .int .i64 zv, .int .i64 zx] 27)).alloc (.cells #[.int .i64 0, .int .i64 0, .int .i64 0, .int .i64 0] 44)) (w.heap.size + 2) 44 #[.int .i64 0, .int .i64 0, .int .i64 0, .int .i64 0]) := by
    have q1 := Has.new w 44 #[.int .i64 t0, .int .i64 k, .int .i64 t2, .int .i64 t3]
    have q2 := Has.new (w.alloc (.cells #[.int .i64 t0, .int .i64 k, .int .i64 t2, .int .i64 t3] 44)) 27 #[.int .i64 zk, .int .i64 1, .int .i64 zp, .int .i64 zs, .int .i64 zo, .int .i64 zn, .int .i64 zv, .int .i64 zx]
    have q3 := Has.new ((w.alloc (.cells #[.int .i64 t0, .int .i64 k, .int .i64 t2, .int .i64 t3] 44)).alloc (.cells #[.int .i64 zk, .int .i64 1, .int .i64 zp, .int .i64 zs, .int .i64 zo, .int .i64 zn, .int .i64 zv, .int .i64 zx] 27)) 44 #[.int .i64 0, .int .i64 0, .int .i64 0, .int .i64 0]
    rw [World.size_alloc] at q2
    rw [World.size_alloc, World.size_alloc] at q3
    exact ⟨(below_two _ _ _).alloc (by simp; omega) _, (q1.alloc _).alloc _, q2.alloc _, q3⟩
  go_enter Try.func42, Try.ntmps42
  go_upto_region 2 with (fail)
  generalize (((w.alloc (.cells #[.int .i64 t0, .int .i64 k, .int .i64 t2, .int .i64 t3] 44)).alloc (.cells #[.int .i64 zk, .int .i64 1, .int .i64 zp, .int .i64 zs, .int .i64 zo, .int .i64 zn, .int .i64 zv, .int .i64 zx] 27)).alloc (.cells #[.int .i64 0, .int .i64 0, .int .i64 0, .int .i64 0] 44)) = w1 at *
  obtain ⟨b1, k1, k2, k3⟩ := S1
  have B1 := Lib.hid b1
  have K1 := Lib.hid k1
  have K2 := Lib.hid k2
  have K3 := Lib.hid k3
  clear b1 k1 k2 k3
  obtain ⟨c0, c1, c2, c3, c4, c5, c6, c7⟩ := eight K2.out
  have hs := K3.out.lt
  cases he : endR ⟨zk, 1, zp, zs, zo, zn, zv, zx⟩
  all_goals
    have He := Lib.hid he
    clear he
    go_wp2_with fail
    refine (closes_any ⟨zk, 1, zp, zs, zo, zn, zv, zx⟩ _).mono ?_
    rintro e w2 ⟨rfl, b2⟩
    rw [He.out]
    have B2 := Lib.hid (B1.out.trans (b2.mono (by omega)))
    have J1 := Lib.hid (K1.out.below b2 (by omega))
    have J2 := Lib.hid (K2.out.below b2 (by omega))
    have J3 := Lib.hid (K3.out.below b2 (by omega))
    clear b2 c0 c1 c2 c3 c4 c5 c6 c7 hs
    obtain ⟨c0, c1, c2, c3, c4, c5, c6, c7⟩ := eight J2.out
    obtain ⟨d0, d1, d2, d3⟩ := four J1.out
    obtain ⟨r0, r1, r2, r3⟩ := four J3.out
    have f0 := J3.out.frozen 0
    have f1 := J3.out.frozen 1
    have f2 := J3.out.frozen 2
    have f3 := J3.out.frozen 3
    have ft := J1.out.frozen 1
  · go_wp2
    refine bodyPost_ret (v := .agg #[.int .i64 t0, .int .i64 k, .int .i64 t2, .int .i64 t3]) (by simp [results, Try.results42, go_sem, r0, r1, r2, r3]) rfl ⟨by rw [Hu.out, He.out]; rfl, ?_⟩
    exact (((B2.out.setCell (by show w.heap.size ≤ w.heap.size + 1 + 1; omega) _).setCell (by show w.heap.size ≤ w.heap.size + 1 + 1; omega) _).setCell (by show w.heap.size ≤ w.heap.size + 1 + 1; omega) _).setCell (by show w.heap.size ≤ w.heap.size + 1 + 1; omega) _
  · go_wp2
    refine bodyPost_ret (v := .agg #[.int .i64 t0, .int .i64 0, .int .i64 t2, .int .i64 t3]) (by simp [results, Try.results42, go_sem, r0, r1, r2, r3]) rfl ⟨by rw [Hu.out, He.out]; rfl, ?_⟩
    exact ((((B2.out.setCell (Nat.le_refl _) _).setCell (by show w.heap.size ≤ w.heap.size + 1 + 1; omega) _).setCell (by show w.heap.size ≤ w.heap.size + 1 + 1; omega) _).setCell (by show w.heap.size ≤ w.heap.size + 1 + 1; omega) _).setCell (by show w.heap.size ≤ w.heap.size + 1 + 1; omega) _

set_option maxHeartbeats 1000000 in
theorem after_2 (t0 t1 t2 t3 k u zk zp zs zo zn zv zx : Int) (hu : u = if endR ⟨zk, 2, zp, zs, zo, zn, zv, zx⟩ = true then (0 : Int) else k) (w : World) :
    Calls Try.prog 42 #[.agg #[.int .i64 t0, .int .i64 t1, .int .i64 t2, .int .i64 t3], recV ⟨zk, 2, zp, zs, zo, zn, zv, zx⟩, .int .i64 k] w (fun e w' => e = .returned (.agg #[.int .i64 t0, .int .i64 t1, .int .i64 u, .int .i64 t3]) ∧ Below w.heap.size w w') := by
  have Hu := Lib.hid hu
  clear hu
  have S1 : Hid (Below w.heap.size w (((w.alloc (.cells #[.int .i64 t0, .int .i64 t1, .int .i64 k, .int .i64 t3] 44)).alloc (.cells #[.int .i64 zk, .int .i64 2, .int .i64 zp, .int .i64 zs, .int .i64 zo, .int .i64 zn, .int .i64 zv, .int .i64 zx] 27)).alloc (.cells #[.int .i64 0, .int .i64 0, .int .i64 0, .int .i64 0] 44)) ∧ Has (((w.alloc (.cells #[.int .i64 t0, .int .i64 t1, .int .i64 k, .int .i64 t3] 44)).alloc (.cells #[.int .i64 zk, .int .i64 2, .int .i64 zp, .int .i64 zs, .int .i64 zo, .int .i64 zn, .int .i64 zv, .int .i64 zx] 27)).alloc (.cells #[.int .i64 0, .int .i64 0, .int .i64 0, .int .i64 0] 44)) w.heap.size 44 #[.int .i64 t0, .int .i64 t1, .int .i64 k, .int .i64 t3] ∧ Has (((w.alloc (.cells #[.int .i64 t0, .int .i64 t1, .int .i64 k, .int .i64 t3] 44)).alloc (.cells #[.int .i64 zk, .int .i64 2, .int .i64 zp, .int .i64 zs, .int .i64 zo, .int .i64 zn, .int .i64 zv, .int .i64 zx] 27)).alloc (.cells #[.int .i64 0, .int .i64 0, .int .i64 0, .int .i64 0] 44)) (w.heap.size + 1) 27 #[.int .i64 zk, .int .i64 2, .int .i64 zp, .int .i64 zs, .int .i64 zo, .int .i64 zn, .int .i64 zv, .int .i64 zx] ∧ Has (((w.alloc (.cells #[.int .i64 t0, .int .i64 t1, .int .i64 k, .int .i64 t3] 44)).alloc (.cells #[.int .i64 zk, .int .i64 2, .int .i64 zp, .int .i64 zs, .int .i64 zo, .int .i64 zn, .int .i64 zv, .int .i64 zx] 27)).alloc (.cells #[.int .i64 0, .int .i64 0, .int .i64 0, .int .i64 0] 44)) (w.heap.size + 2) 44 #[.int .i64 0, .int .i64 0, .int .i64 0, .int .i64 0]) := by
    have q1 := Has.new w 44 #[.int .i64 t0, .int .i64 t1, .int .i64 k, .int .i64 t3]
    have q2 := Has.new (w.alloc (.cells #[.int .i64 t0, .int .i64 t1, .int .i64 k, .int .i64 t3] 44)) 27 #[.int .i64 zk, .int .i64 2, .int .i64 zp, .int .i64 zs, .int .i64 zo, .int .i64 zn, .int .i64 zv, .int .i64 zx]
    have q3 := Has.new ((w.alloc (.cells #[.int .i64 t0, .int .i64 t1, .int .i64 k, .int .i64 t3] 44)).alloc (.cells #[.int .i64 zk, .int .i64 2, .int .i64 zp, .int .i64 zs, .int .i64 zo, .int .i64 zn, .int .i64 zv, .int .i64 zx] 27)) 44 #[.int .i64 0, .int .i64 0, .int .i64 0, .int .i64 0]
    rw [World.size_alloc] at q2
    rw [World.size_alloc, World.size_alloc] at q3
    exact ⟨(below_two _ _ _).alloc (by simp; omega) _, (q1.alloc _).alloc _, q2.alloc _, q3⟩
  go_enter Try.func42, Try.ntmps42
  go_upto_region 2 with (fail)
  generalize (((w.alloc (.cells #[.int .i64 t0, .int .i64 t1, .int .i64 k, .int .i64 t3] 44)).alloc (.cells #[.int .i64 zk, .int .i64 2, .int .i64 zp, .int .i64 zs, .int .i64 zo, .int .i64 zn, .int .i64 zv, .int .i64 zx] 27)).alloc (.cells #[.int .i64 0, .int .i64 0, .int .i64 0, .int .i64 0] 44)) = w1 at *
  obtain ⟨b1, k1, k2, k3⟩ := S1
  have B1 := Lib.hid b1
  have K1 := Lib.hid k1
  have K2 := Lib.hid k2
  have K3 := Lib.hid k3
  clear b1 k1 k2 k3
  obtain ⟨c0, c1, c2, c3, c4, c5, c6, c7⟩ := eight K2.out
  have hs := K3.out.lt
  cases he : endR ⟨zk, 2, zp, zs, zo, zn, zv, zx⟩
  all_goals
    have He := Lib.hid he
    clear he
    go_wp2_with fail
    refine (closes_any ⟨zk, 2, zp, zs, zo, zn, zv, zx⟩ _).mono ?_
    rintro e w2 ⟨rfl, b2⟩
    rw [He.out]
    have B2 := Lib.hid (B1.out.trans (b2.mono (by omega)))
    have J1 := Lib.hid (K1.out.below b2 (by omega))
    have J2 := Lib.hid (K2.out.below b2 (by omega))
    have J3 := Lib.hid (K3.out.below b2 (by omega))
    clear b2 c0 c1 c2 c3 c4 c5 c6 c7 hs
    obtain ⟨c0, c1, c2, c3, c4, c5, c6, c7⟩ := eight J2.out
    obtain ⟨d0, d1, d2, d3⟩ := four J1.out
    obtain ⟨r0, r1, r2, r3⟩ := four J3.out
    have f0 := J3.out.frozen 0
    have f1 := J3.out.frozen 1
    have f2 := J3.out.frozen 2
    have f3 := J3.out.frozen 3
    have ft := J1.out.frozen 2
  · go_wp2
    refine bodyPost_ret (v := .agg #[.int .i64 t0, .int .i64 t1, .int .i64 k, .int .i64 t3]) (by simp [results, Try.results42, go_sem, r0, r1, r2, r3]) rfl ⟨by rw [Hu.out, He.out]; rfl, ?_⟩
    exact (((B2.out.setCell (by show w.heap.size ≤ w.heap.size + 1 + 1; omega) _).setCell (by show w.heap.size ≤ w.heap.size + 1 + 1; omega) _).setCell (by show w.heap.size ≤ w.heap.size + 1 + 1; omega) _).setCell (by show w.heap.size ≤ w.heap.size + 1 + 1; omega) _
  · go_wp2
    refine bodyPost_ret (v := .agg #[.int .i64 t0, .int .i64 t1, .int .i64 0, .int .i64 t3]) (by simp [results, Try.results42, go_sem, r0, r1, r2, r3]) rfl ⟨by rw [Hu.out, He.out]; rfl, ?_⟩
    exact ((((B2.out.setCell (Nat.le_refl _) _).setCell (by show w.heap.size ≤ w.heap.size + 1 + 1; omega) _).setCell (by show w.heap.size ≤ w.heap.size + 1 + 1; omega) _).setCell (by show w.heap.size ≤ w.heap.size + 1 + 1; omega) _).setCell (by show w.heap.size ≤ w.heap.size + 1 + 1; omega) _

set_option maxHeartbeats 1000000 in
theorem after_3 (t0 t1 t2 t3 k u zk zp zs zo zn zv zx : Int) (hu : u = if endR ⟨zk, 3, zp, zs, zo, zn, zv, zx⟩ = true then (0 : Int) else k) (w : World) :
    Calls Try.prog 42 #[.agg #[.int .i64 t0, .int .i64 t1, .int .i64 t2, .int .i64 t3], recV ⟨zk, 3, zp, zs, zo, zn, zv, zx⟩, .int .i64 k] w (fun e w' => e = .returned (.agg #[.int .i64 t0, .int .i64 t1, .int .i64 t2, .int .i64 u]) ∧ Below w.heap.size w w') := by
  have Hu := Lib.hid hu
  clear hu
  have S1 : Hid (Below w.heap.size w (((w.alloc (.cells #[.int .i64 t0, .int .i64 t1, .int .i64 t2, .int .i64 k] 44)).alloc (.cells #[.int .i64 zk, .int .i64 3, .int .i64 zp, .int .i64 zs, .int .i64 zo, .int .i64 zn, .int .i64 zv, .int .i64 zx] 27)).alloc (.cells #[.int .i64 0, .int .i64 0, .int .i64 0, .int .i64 0] 44)) ∧ Has (((w.alloc (.cells #[.int .i64 t0, .int .i64 t1, .int .i64 t2, .int .i64 k] 44)).alloc (.cells #[.int .i64 zk, .int .i64 3, .int .i64 zp, .int .i64 zs, .int .i64 zo, .int .i64 zn, .int .i64 zv, .int .i64 zx] 27)).alloc (.cells #[.int .i64 0, .int .i64 0, .int .i64 0, .int .i64 0] 44)) w.heap.size 44 #[.int .i64 t0, .int .i64 t1, .int .i64 t2, .int .i64 k] ∧ Has (((w.alloc (.cells #[.int .i64 t0, .int .i64 t1, .int .i64 t2, .int .i64 k] 44)).alloc (.cells #[.int .i64 zk, .int .i64 3, .int .i64 zp, .int .i64 zs, .int .i64 zo, .int .i64 zn, .int .i64 zv, .int .i64 zx] 27)).alloc (.cells #[.int .i64 0, .int .i64 0, .int .i64 0, .int .i64 0] 44)) (w.heap.size + 1) 27 #[.int .i64 zk, .int .i64 3, .int .i64 zp, .int .i64 zs, .int .i64 zo, .int .i64 zn, .int .i64 zv, .int .i64 zx] ∧ Has (((w.alloc (.cells #[.int .i64 t0, .int .i64 t1, .int .i64 t2, .int .i64 k] 44)).alloc (.cells #[.int .i64 zk, .int .i64 3, .int .i64 zp, .int .i64 zs, .int .i64 zo, .int .i64 zn, .int .i64 zv, .int .i64 zx] 27)).alloc (.cells #[.int .i64 0, .int .i64 0, .int .i64 0, .int .i64 0] 44)) (w.heap.size + 2) 44 #[.int .i64 0, .int .i64 0, .int .i64 0, .int .i64 0]) := by
    have q1 := Has.new w 44 #[.int .i64 t0, .int .i64 t1, .int .i64 t2, .int .i64 k]
    have q2 := Has.new (w.alloc (.cells #[.int .i64 t0, .int .i64 t1, .int .i64 t2, .int .i64 k] 44)) 27 #[.int .i64 zk, .int .i64 3, .int .i64 zp, .int .i64 zs, .int .i64 zo, .int .i64 zn, .int .i64 zv, .int .i64 zx]
    have q3 := Has.new ((w.alloc (.cells #[.int .i64 t0, .int .i64 t1, .int .i64 t2, .int .i64 k] 44)).alloc (.cells #[.int .i64 zk, .int .i64 3, .int .i64 zp, .int .i64 zs, .int .i64 zo, .int .i64 zn, .int .i64 zv, .int .i64 zx] 27)) 44 #[.int .i64 0, .int .i64 0, .int .i64 0, .int .i64 0]
    rw [World.size_alloc] at q2
    rw [World.size_alloc, World.size_alloc] at q3
    exact ⟨(below_two _ _ _).alloc (by simp; omega) _, (q1.alloc _).alloc _, q2.alloc _, q3⟩
  go_enter Try.func42, Try.ntmps42
  go_upto_region 2 with (fail)
  generalize (((w.alloc (.cells #[.int .i64 t0, .int .i64 t1, .int .i64 t2, .int .i64 k] 44)).alloc (.cells #[.int .i64 zk, .int .i64 3, .int .i64 zp, .int .i64 zs, .int .i64 zo, .int .i64 zn, .int .i64 zv, .int .i64 zx] 27)).alloc (.cells #[.int .i64 0, .int .i64 0, .int .i64 0, .int .i64 0] 44)) = w1 at *
  obtain ⟨b1, k1, k2, k3⟩ := S1
  have B1 := Lib.hid b1
  have K1 := Lib.hid k1
  have K2 := Lib.hid k2
  have K3 := Lib.hid k3
  clear b1 k1 k2 k3
  obtain ⟨c0, c1, c2, c3, c4, c5, c6, c7⟩ := eight K2.out
  have hs := K3.out.lt
  cases he : endR ⟨zk, 3, zp, zs, zo, zn, zv, zx⟩
  all_goals
    have He := Lib.hid he
    clear he
    go_wp2_with fail
    refine (closes_any ⟨zk, 3, zp, zs, zo, zn, zv, zx⟩ _).mono ?_
    rintro e w2 ⟨rfl, b2⟩
    rw [He.out]
    have B2 := Lib.hid (B1.out.trans (b2.mono (by omega)))
    have J1 := Lib.hid (K1.out.below b2 (by omega))
    have J2 := Lib.hid (K2.out.below b2 (by omega))
    have J3 := Lib.hid (K3.out.below b2 (by omega))
    clear b2 c0 c1 c2 c3 c4 c5 c6 c7 hs
    obtain ⟨c0, c1, c2, c3, c4, c5, c6, c7⟩ := eight J2.out
    obtain ⟨d0, d1, d2, d3⟩ := four J1.out
    obtain ⟨r0, r1, r2, r3⟩ := four J3.out
    have f0 := J3.out.frozen 0
    have f1 := J3.out.frozen 1
    have f2 := J3.out.frozen 2
    have f3 := J3.out.frozen 3
    have ft := J1.out.frozen 3
  · go_wp2
    refine bodyPost_ret (v := .agg #[.int .i64 t0, .int .i64 t1, .int .i64 t2, .int .i64 k]) (by simp [results, Try.results42, go_sem, r0, r1, r2, r3]) rfl ⟨by rw [Hu.out, He.out]; rfl, ?_⟩
    exact (((B2.out.setCell (by show w.heap.size ≤ w.heap.size + 1 + 1; omega) _).setCell (by show w.heap.size ≤ w.heap.size + 1 + 1; omega) _).setCell (by show w.heap.size ≤ w.heap.size + 1 + 1; omega) _).setCell (by show w.heap.size ≤ w.heap.size + 1 + 1; omega) _
  · go_wp2
    refine bodyPost_ret (v := .agg #[.int .i64 t0, .int .i64 t1, .int .i64 t2, .int .i64 0]) (by simp [results, Try.results42, go_sem, r0, r1, r2, r3]) rfl ⟨by rw [Hu.out, He.out]; rfl, ?_⟩
    exact ((((B2.out.setCell (Nat.le_refl _) _).setCell (by show w.heap.size ≤ w.heap.size + 1 + 1; omega) _).setCell (by show w.heap.size ≤ w.heap.size + 1 + 1; omega) _).setCell (by show w.heap.size ≤ w.heap.size + 1 + 1; omega) _).setCell (by show w.heap.size ≤ w.heap.size + 1 + 1; omega) _

theorem after_any (f : Nat → Int) (r : R) (k : Int) (t : Nat) (ht : r.t = (t : Int)) (h1 : 1 ≤ t) (h3 : t ≤ 3) (w : World) :
    Calls Try.prog 42 #[tabV f, recV r, .int .i64 k] w (fun e w' => e = .returned (tabV (aftF f t r k)) ∧ Below w.heap.size w w') := by
  obtain ⟨zk, zt, zp, zs, zo, zn, zv, zx⟩ := r
  simp only at ht
  subst ht
  have h : t = 1 ∨ t = 2 ∨ t = 3 := by omega
  rcases h with rfl | rfl | rfl
  · exact after_1 _ _ _ _ k _ zk zp zs zo zn zv zx rfl w
  · exact after_2 _ _ _ _ k _ zk zp zs zo zn zv zx rfl w
  · exact after_3 _ _ _ _ k _ zk zp zs zo zn zv zx rfl w
end Go.Proofs.Ytejbmjdipfcblaa.Base
