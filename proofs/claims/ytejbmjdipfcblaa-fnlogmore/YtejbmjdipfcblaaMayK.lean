/-
  Contracts of the model's l12May and l12Took. Conditions: the engine lies in memory and keeps what holds throughout a play; the slice leads to a log.
-/
import Derived.Test.YtejbmjdipfcblaaCopiesK
namespace Go.Proofs.Ytejbmjdipfcblaa.Base
open Go.RowKit

set_option maxHeartbeats 2000000 in
theorem l12May_any (base : Nat) (x : Ad) (e : EE) (t p : Int) (w : World) (he : Eng w base x e) (hi : Inv e) :
    Calls Try.prog 84 #[engV x e, .int .i64 t, .int .i64 p] w (Keeps (.bool (mayE e t p)) w) := by
  have HM : Hid (mayE e t p = (!e.down && (inB t 1 3 && (inB p 0 4 && ((lockE e.log p == 0) || (lockE e.log p == t)))))) := rfl
  have hr := lockE_range e.log p
  have HL : Hid (∀ W V, V = engV x e → Below w.heap.size w W → Calls Try.prog 66 #[V, .int .i64 p] W (Keeps (.int .i64 (lockE e.log p)) W)) := fun W V hV hW => hV ▸ l11Lock_any base x e p W (he.below hW) hi
  clear he hi
  go_enter Try.func84, Try.ntmps84
  go_upto_region 1 with (fail)
  have X1 := Lib.hid (Has.new w 60 (engC x e))
  have B1 := Lib.hid (below_one w (.cells (engC x e) 60))
  generalize (w.alloc (.cells (engC x e) 60)) = w1 at *
  obtain ⟨c0, c1, c2, c3, c4⟩ := X1.out.five
  cases hd : e.down
  case true =>
    have H0 : Hid (mayE e t p = false) := by show mayE e t p = false; rw [HM.out, hd]; rfl
    go_wp2_with (go_at_call 43; refine (l6In_any _ _ _ _).mono ?_; rintro en w2 ⟨rfl, rfl⟩)
    go_ret
    exact ⟨ret_bool (by rw [H0.out]), B1.out⟩
  cases ht : inB t 1 3
  case false =>
    have H0 : Hid (mayE e t p = false) := by show mayE e t p = false; rw [HM.out, ht]; simp
    have HT := Lib.hid ht
    clear ht
    go_wp2_with (go_at_call 43; refine (l6In_any _ _ _ _).mono ?_; rintro en w2 ⟨rfl, rfl⟩; rw [HT.out])
    go_ret
    exact ⟨ret_bool (by rw [H0.out]), B1.out⟩
  cases hp : inB p 0 4
  case false =>
    have H0 : Hid (mayE e t p = false) := by show mayE e t p = false; rw [HM.out, hp]; simp
    have HT := Lib.hid ht
    have HP := Lib.hid hp
    clear ht hp
    go_wp2_with (go_at_call 43; refine (l6In_any _ _ _ _).mono ?_; rintro en w2 ⟨rfl, rfl⟩; first | rw [HT.out] | rw [HP.out])
    go_ret
    exact ⟨ret_bool (by rw [H0.out]), B1.out⟩
  have HT := Lib.hid ht
  have HP := Lib.hid hp
  have HD := Lib.hid hd
  have HN : Hid (mayE e t p = ((lockE e.log p == 0) || (lockE e.log p == t))) := by show mayE e t p = _; rw [HM.out, hd, ht, hp]; simp
  clear ht hp
  go_wp2_with (first
    | (go_at_call 43; refine (l6In_any _ _ _ _).mono ?_; rintro en w2 ⟨rfl, rfl⟩; first | rw [HT.out] | rw [HP.out])
    | (go_at_call 66; fail))
  refine (HL.out _ _ (engV_of HD.out) B1.out).mono ?_
  rintro en w2 ⟨rfl, b2⟩
  have B2 : Hid (Below w.heap.size w w2) := B1.out.trans (b2.mono B1.out.size)
  clear b2
  generalize lockE e.log p = q at *
  cases b1 : (q == 0)
  · cases b3 : (q == t)
    · have H0 : Hid (mayE e t p = false) := by show mayE e t p = false; rw [HN.out, b1, b3]; rfl
      go_wp2
      go_ret
      exact ⟨ret_bool (by rw [H0.out]), B2.out⟩
    · have H0 : Hid (mayE e t p = true) := by show mayE e t p = true; rw [HN.out, b1, b3]; rfl
      go_wp2
      go_ret
      exact ⟨ret_bool (by rw [H0.out]), B2.out⟩
  · have H0 : Hid (mayE e t p = true) := by show mayE e t p = true; rw [HN.out, b1]; rfl
    go_wp2
    go_ret
    exact ⟨ret_bool (by rw [H0.out]), B2.out⟩

set_option maxHeartbeats 2000000 in
theorem l12Took_any (rs : List R) (t p : Int) (a : Option Addr) (cap B : Nat) (w : World) (hB : B ≤ w.heap.size) (hl : logB rs = true) (hz : Recs w B a rs) (mx : rs.length ≤ 1000000000) :
    Calls Try.prog 87 #[.slice a rs.length cap, .int .i64 t, .int .i64 p] w (Keeps (.bool (tookB rs t p)) w) := by
  have Hz := Lib.hid hz
  have Hl : Hid ((lastN rs t rs.length : Int) = (at0 rs t : Int)) := by
    show (lastN rs t rs.length : Int) = (at0 rs t : Int)
    rw [← at0_lastB, lastB_yes rs t hl]
  have Hst := Lib.hid (at0_steps rs t)
  have hat := at0_le rs t
  clear hz hl
  go_enter Try.func87, Try.ntmps87
  go_wp2_with fail
  refine (l3Last_any rs rs.length t a cap B _ (Nat.le_refl _) Hz.out mx).mono ?_
  rintro e w2 ⟨rfl, rfl⟩
  rw [Hl.out]
  go_wp2_with fail
  go_loopw [7] (fun i wx => ∃ (k : Nat), i = .int .i64 (k : Int) ∧ k ≤ at0 rs t ∧ tookB rs t p = tookIn rs (chainC rs k) p ∧ Below w.heap.size w wx) (fun i _ => (intOf i).toNat)
  case atStart => exact ⟨_, rfl, Nat.le_refl _, rfl, Below.refl _ _⟩
  case round =>
    obtain ⟨k, rfl, hk, heq, hb⟩ := hrel
    have Heq := Lib.hid heq
    have Hb := Lib.hid hb
    have hs := hb.size
    clear heq hb
    cases k with
    | zero =>
      go_wp2
      go_ret
      exact ⟨ret_bool (by rw [Heq.out]; rfl), Hb.out⟩
    | succ k =>
      have hk' : k < at0 rs t := by omega
      have Hs : Hid (tookIn rs (chainC rs (k + 1)) p = (tookR p (recAt rs k) || tookIn rs (chainC rs (recAt rs k).v.toNat) p)) := by
        show tookIn rs (chainC rs (k + 1)) p = (tookR p (recAt rs k) || tookIn rs (chainC rs (recAt rs k).v.toNat) p)
        rw [chainC_step rs k _ Hst.out hk']
        rfl
      have hpv := step_prev rs k (Hst.out k hk')
      obtain ⟨pv, hpv'⟩ : ∃ pv : Nat, (recAt rs k).v = (pv : Int) := ⟨(recAt rs k).v.toNat, by omega⟩
      have Hpv : Hid ((recAt rs k).v.toNat = pv) := by show (recAt rs k).v.toNat = pv; omega
      have Hpw := Lib.hid hpv'
      have hpk : pv ≤ k := by omega
      obtain ⟨g, o, rfl, hg, hr⟩ := Hz.out (by omega)
      have hkl : k < rs.length := by omega
      have hA := (hr.below (Hb.out.mono hB) hg) k hkl
      have Hq : Hid (tookR p (recAt rs k) = ((recAt rs k).k == 2 && ((recAt rs k).p == p && decide (0 < (recAt rs k).n)))) := rfl
      have klt : (k : Int) < rs.length := by omega
      have k0 : (0 : Int) ≤ (k : Int) := by omega
      clear hr hpv hpv'
      generalize recAt rs k = r at *
      have HA : Hid (At (wr.alloc (.cells #[.int .i64 r.k, .int .i64 r.t, .int .i64 r.p, .int .i64 r.s, .int .i64 r.o, .int .i64 r.n, .int .i64 r.v, .int .i64 r.x] 27)) g (o + k * 8) r) := hA.keep (Below.heap_alloc _ _ _ (by omega))
      have X2 := Lib.hid (Has.new wr 27 #[.int .i64 r.k, .int .i64 r.t, .int .i64 r.p, .int .i64 r.s, .int .i64 r.o, .int .i64 r.n, .int .i64 r.v, .int .i64 r.x])
      have B2 : Hid (Below w.heap.size w (wr.alloc (.cells #[.int .i64 r.k, .int .i64 r.t, .int .i64 r.p, .int .i64 r.s, .int .i64 r.o, .int .i64 r.n, .int .i64 r.v, .int .i64 r.x] 27))) := Hb.out.alloc hs _
      obtain ⟨c0, c1, c2, c3, c4, c5, c6, c7⟩ := hA
      go_upto_region 5 with (fail)
      generalize (wr.alloc (.cells #[.int .i64 r.k, .int .i64 r.t, .int .i64 r.p, .int .i64 r.s, .int .i64 r.o, .int .i64 r.n, .int .i64 r.v, .int .i64 r.x] 27)) = w5 at *
      clear c0 c1 c2 c3 c4 c5 c6 c7
      obtain ⟨d0, d1, d2, d3, d4, d5, d6, d7⟩ := eight X2.out
      obtain ⟨c0, c1, c2, c3, c4, c5, c6, c7⟩ := HA.out
      rw [Hpw.out] at c6
      cases b2 : (r.k == 2)
      · go_wp2
        exact ⟨⟨pv, rfl, by omega, by rw [Heq.out, Hs.out, Hq.out, b2, Hpv.out]; rfl, B2.out⟩, by simp [intOf]; omega⟩
      cases bp : (r.p == p)
      · go_wp2
        exact ⟨⟨pv, rfl, by omega, by rw [Heq.out, Hs.out, Hq.out, b2, bp, Hpv.out]; rfl, B2.out⟩, by simp [intOf]; omega⟩
      cases bn : decide (0 < r.n)
      · go_wp2
        exact ⟨⟨pv, rfl, by omega, by rw [Heq.out, Hs.out, Hq.out, b2, bp, bn, Hpv.out]; rfl, B2.out⟩, by simp [intOf]; omega⟩
      · go_wp2
        go_ret
        exact ⟨ret_bool (by rw [Heq.out, Hs.out, Hq.out, b2, bp, bn]; rfl), B2.out⟩
end Go.Proofs.Ytejbmjdipfcblaa.Base
