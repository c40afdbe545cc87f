/-
  Contract of the model's l13Done. Conditions: the engine lies in memory and keeps what holds throughout a play.
-/
import Derived.Test.YtejbmjdipfcblaaWrK
import Derived.Test.YtejbmjdipfcblaaChainsK
import Derived.StillTailTactics
import Derived.Deep.QuietTactic
namespace Go.Proofs.Ytejbmjdipfcblaa.Base
open Go.RowKit

set_option maxRecDepth 100000 in
set_option maxHeartbeats 4000000 in
theorem l13Done_any (base : Nat) (x : Ad) (e : EE) (t : Int) (w : World) (hbw : base ≤ w.heap.size) (he : Eng w base x e) (hi : Inv e) :
    Calls Try.prog 70 #[engV x e, .int .i64 t] w (RetEB base x (doneE e t) w) := by
  have HE := Lib.hid he
  have HI := Lib.hid hi
  have hl150 := log_len hi.log
  have HZ : Hid (at0 e.log t = lastN e.log t e.log.length) := at0_last hi t
  have HL : Hid (∀ W, Below w.heap.size w W → Calls Try.prog 33 #[.slice (some ⟨x.lb, 0, none⟩) e.log.length x.lc, .int .i64 t] W fun en w' => en = .returned (.int .i64 (lastN e.log t e.log.length)) ∧ W = w') := fun W h => l3Last_any e.log e.log.length t _ x.lc w.heap.size W (Nat.le_refl _) (he.recs.below h) (by omega)
  have h2 : Has ((w.alloc (.cells (engC x e) 60)).alloc (.cells zeroEC 60)) w.heap.size 60 (engC x e) := (Has.new w _ _).alloc _
  have h4 : Has ((w.alloc (.cells (engC x e) 60)).alloc (.cells zeroEC 60)) (w.heap.size + 1) 60 zeroEC := by
    have := Has.new (w.alloc (.cells (engC x e) 60)) 60 zeroEC
    rwa [World.size_alloc] at this
  have B1 : Hid (Below w.heap.size w ((w.alloc (.cells (engC x e) 60)).alloc (.cells zeroEC 60))) := below_two _ _ _
  have X2 := Lib.hid h2
  have X4 := Lib.hid h4
  clear he hi h2 h4
  have hle := lastN_le e.log t e.log.length
  generalize hla : lastN e.log t e.log.length = la at *
  have HLA := Lib.hid hla
  clear hla
  go_enter Try.func70, Try.ntmps70
  go_upto_region 1 with (fail)
  generalize ((w.alloc (.cells (engC x e) 60)).alloc (.cells zeroEC 60)) = w1 at *
  have l2 := X2.out.lt
  have l4 := X4.out.lt
  cases hd : e.down
  case true =>
    have HR : Hid (doneE e t = (e, false)) := by show doneE e t = _; unfold doneE; rw [hd]; rfl
    obtain ⟨c0, c1, c2, c3, c4⟩ := X2.out.five
    obtain ⟨y0, y1, y2, y3, y4⟩ := X4.out.five
    have t0 := X4.out.frozen 0
    have t1 := X4.out.frozen 1
    have t2 := X4.out.frozen 2
    have t3 := X4.out.frozen 3
    have t4 := X4.out.frozen 4
    go_upto_region 2 with (fail)
    clear hd
    go_wp2
    refine bodyPost_ret (v := .tuple #[engV x e, .bool false]) (by simp [results, Try.results70, go_sem, y0, y1, y2, y3, y4]) rfl ⟨x, by rw [HR.out], ?_, Frm.of_below (put5E_below B1.out (by omega) x e) rfl rfl⟩
    rw [HR.out]
    exact (HE.out.below B1.out).box X4.out (by simp) (fun i _ hn => put5E_far hn)
  cases ht : inB t 1 3
  case false =>
    have HT := Lib.hid ht
    have HR : Hid (doneE e t = (e, false)) := by show doneE e t = _; unfold doneE; rw [hd, ht]; rfl
    clear ht
    obtain ⟨c0, c1, c2, c3, c4⟩ := X2.out.five
    obtain ⟨y0, y1, y2, y3, y4⟩ := X4.out.five
    have t0 := X4.out.frozen 0
    have t1 := X4.out.frozen 1
    have t2 := X4.out.frozen 2
    have t3 := X4.out.frozen 3
    have t4 := X4.out.frozen 4
    go_upto_region 2 with (go_at_call 43; refine (l6In_any _ _ _ _).mono ?_; rintro en w9 ⟨rfl, rfl⟩; rw [HT.out])
    clear hd
    go_wp2
    refine bodyPost_ret (v := .tuple #[engV x e, .bool false]) (by simp [results, Try.results70, go_sem, y0, y1, y2, y3, y4]) rfl ⟨x, by rw [HR.out], ?_, Frm.of_below (put5E_below B1.out (by omega) x e) rfl rfl⟩
    rw [HR.out]
    exact (HE.out.below B1.out).box X4.out (by simp) (fun i _ hn => put5E_far hn)
  have HT := Lib.hid ht
  have ht13 : 1 ≤ t ∧ t ≤ 3 := by simpa [inB] using ht
  cases hz : (la == 0)
  case true =>
    have HR : Hid (doneE e t = (e, false)) := by show doneE e t = _; unfold doneE; rw [hd, ht, HZ.out, hz]; rfl
    have hz' : ((la : Int) == 0) = true := by simpa using hz
    clear ht hz
    obtain ⟨c0, c1, c2, c3, c4⟩ := X2.out.five
    obtain ⟨y0, y1, y2, y3, y4⟩ := X4.out.five
    have t0 := X4.out.frozen 0
    have t1 := X4.out.frozen 1
    have t2 := X4.out.frozen 2
    have t3 := X4.out.frozen 3
    have t4 := X4.out.frozen 4
    go_upto_region 2 with (first | (go_at_call 43; refine (l6In_any _ _ _ _).mono ?_; rintro en w9 ⟨rfl, rfl⟩; rw [HT.out]) | (go_at_call 33; refine (HL.out _ B1.out).mono ?_; rintro en w9 ⟨rfl, rfl⟩))
    clear hd
    go_wp2
    refine bodyPost_ret (v := .tuple #[engV x e, .bool false]) (by simp [results, Try.results70, go_sem, y0, y1, y2, y3, y4]) rfl ⟨x, by rw [HR.out], ?_, Frm.of_below (put5E_below B1.out (by omega) x e) rfl rfl⟩
    rw [HR.out]
    exact (HE.out.below B1.out).box X4.out (by simp) (fun i _ hn => put5E_far hn)
  have HR : Hid (doneE e t = (safeE (addE (doneW e.log e (chainC e.log la)) ⟨4, t, 0, 0, 0, 0, 0, 0⟩).1, true)) := by show doneE e t = _; unfold doneE; rw [hd, ht, HZ.out, hz]; rfl
  have hz' : ((la : Int) == 0) = false := by simpa using hz
  have hst : ∀ j, j < la → stepB e.log j = true := by rw [← HZ.out]; exact at0_steps e.log t
  have Hst := Lib.hid hst
  have HLG := Lib.hid HI.out.log
  clear ht hz hst
  obtain ⟨c0, c1, c2, c3, c4⟩ := X2.out.five
  go_upto_region 3 with (first | (go_at_call 43; refine (l6In_any _ _ _ _).mono ?_; rintro en w9 ⟨rfl, rfl⟩; rw [HT.out]) | (go_at_call 33; refine (HL.out _ B1.out).mono ?_; rintro en w9 ⟨rfl, rfl⟩))
  clear hd hz'
  have ht1 := ht13.1
  have ht3 := ht13.2
  go_wp2_with (go_at_call 33; refine (HL.out _ B1.out).mono ?_; rintro en w9 ⟨rfl, rfl⟩)
  clear c0 c1 c2 c3 c4
  go_loopw [6] (fun i wx => ∃ (k : Nat) (y : Ad) (e' : EE), i = .int .i64 (k : Int) ∧ k ≤ la ∧ Has wx w.heap.size 60 (engC y e') ∧ Has wx (w.heap.size + 1) 60 zeroEC ∧ Eng wx base y e' ∧ Inv e' ∧ Frm x w y wx ∧ e'.log = e.log ∧ doneW e.log e (chainC e.log la) = doneW e.log e' (chainC e.log k)) (fun i _ => (intOf i).toNat)
  case atStart => exact ⟨la, x, e, rfl, Nat.le_refl _, X2.out, X4.out, HE.out.below B1.out, HI.out, .of_below B1.out rfl rfl, rfl, rfl⟩
  case round =>
    obtain ⟨k, y, e', rfl, hk, k2, k4, kE, kI, kF, kl, ku⟩ := hrel
    clear X2 X4 B1 l2 l4 HL
    have X2 := Lib.hid k2
    have X4 := Lib.hid k4
    have HE' := Lib.hid kE
    have HI' := Lib.hid kI
    have HF := Lib.hid kF
    have Hl := Lib.hid kl
    have Hu := Lib.hid ku
    have l2 := k2.lt
    have l4 := k4.lt
    have hb2 : base ≤ wr.heap.size := Nat.le_trans hbw kF.size
    have hlen : e'.log.length = e.log.length := by rw [kl]
    obtain ⟨c0, c1, c2, c3, c4⟩ := k2.five
    have f0 := k2.frozen 0
    have f1 := k2.frozen 1
    have f2 := k2.frozen 2
    have f3 := k2.frozen 3
    have f4 := k2.frozen 4
    have HRd : Hid (RdR wr y.lb 0 e.log) := by show RdR wr y.lb 0 e.log; rw [← kl]; exact kE.l.rd.2.1
    clear k2 k4 kE kI kF kl ku
    cases k with
    | zero =>
      have HU : Hid (doneW e.log e (chainC e.log la) = e') := Hu.out
      have HNX := Lib.hid (next_done HI'.out ht1 ht3)
      obtain ⟨res, hres⟩ : ∃ r, addE e' ⟨4, t, 0, 0, 0, 0, 0, 0⟩ = r := ⟨_, rfl⟩
      obtain ⟨e3, b3⟩ := res
      have HA : Hid (Calls Try.prog 85 #[engV y e', recV ⟨4, t, 0, 0, 0, 0, 0, 0⟩] wr (RetEB base y (e3, b3) wr)) := by
        have h := l12Add_any base y e' ⟨4, t, 0, 0, 0, 0, 0, 0⟩ wr hb2 HE'.out HI'.out HNX.out
        rw [hres] at h
        exact h
      have HQ : Hid (doneE e t = (⟨e3.disk, e3.mem, e3.log, (e3.log.length : Int), e3.down⟩, true)) := by show doneE e t = _; rw [HR.out, HU.out, hres]; rfl
      clear hres HNX hlen
      go_wp2_with fail
      refine HA.out.mono ?_
      rintro en w3 ⟨y3, rfl, E3, F3⟩
      have n2 := HE'.out.ne_eng X2.out
      have n4 := HE'.out.ne_eng X4.out
      have Z4 := F3.has X4.out n4.1 n4.2
      have ZF := HF.out.trans F3
      have U4 := Lib.hid (Z4.alloc (.cells (engC y3 e3) 60))
      have U7 := Lib.hid (Has.new w3 60 (engC y3 e3))
      have UF := Lib.hid (ZF.grow (below_one w3 (.cells (engC y3 e3) 60)))
      have UE := Lib.hid (E3.below (below_one w3 (.cells (engC y3 e3) 60)))
      have l3 := Z4.lt
      clear E3 F3 n2 n4 Z4 ZF c0 c1 c2 c3 c4 f0 f1 f2 f3 f4 HA
      go_upto_region 9 with (fail)
      generalize (w3.alloc (.cells (engC y3 e3) 60)) = w4 at *
      obtain ⟨c0, c1, c2, c3, c4⟩ := U7.out.five
      have f3 := U7.out.frozen 3
      have V7 : Hid (Has (w4.setCell ⟨w3.heap.size, 3, none⟩ (.int .i64 (e3.log.length : Int))) w3.heap.size 60 (engC y3 ⟨e3.disk, e3.mem, e3.log, (e3.log.length : Int), e3.down⟩)) := U7.out.set 3 _
      have V4 : Hid (Has (w4.setCell ⟨w3.heap.size, 3, none⟩ (.int .i64 (e3.log.length : Int))) (w.heap.size + 1) 60 zeroEC) := U4.out.far (by simp; omega) _
      have hsz := HF.out.size
      have VF : Hid (Frm x w y3 (w4.setCell ⟨w3.heap.size, 3, none⟩ (.int .i64 (e3.log.length : Int)))) := UF.out.setCell (.inl (by omega)) _ _
      have VE : Hid (Eng (w4.setCell ⟨w3.heap.size, 3, none⟩ (.int .i64 (e3.log.length : Int))) base y3 ⟨e3.disk, e3.mem, e3.log, (e3.log.length : Int), e3.down⟩) := ((UE.out.of (e' := ⟨e3.disk, e3.mem, e3.log, (e3.log.length : Int), e3.down⟩) rfl rfl rfl).box U7.out (by simp) (fun i _ hn => Below.heap_setCell _ _ _ _ (by simpa using hn)))
      go_upto_region 10 with (fail)
      generalize (w4.setCell ⟨w3.heap.size, 3, none⟩ (.int .i64 (e3.log.length : Int))) = w5 at *
      clear c0 c1 c2 c3 c4 f3 U4 U7 UF UE
      obtain ⟨c0, c1, c2, c3, c4⟩ := V7.out.five
      obtain ⟨y0, y1, y2, y3', y4⟩ := V4.out.five
      have t0 := V4.out.frozen 0
      have t1 := V4.out.frozen 1
      have t2 := V4.out.frozen 2
      have t3 := V4.out.frozen 3
      have t4 := V4.out.frozen 4
      go_wp2
      refine bodyPost_ret (v := .tuple #[engV y3 ⟨e3.disk, e3.mem, e3.log, (e3.log.length : Int), e3.down⟩, .bool true]) (by simp [results, Try.results70, go_sem, y0, y1, y2, y3', y4]) rfl ⟨y3, by rw [HQ.out], ?_, VF.out.put5E (by omega) y3 ⟨e3.disk, e3.mem, e3.log, (e3.log.length : Int), e3.down⟩⟩
      rw [HQ.out]
      exact VE.out.box V4.out (by simp) (fun i _ hn => put5E_far (x := y3) (e := ⟨e3.disk, e3.mem, e3.log, (e3.log.length : Int), e3.down⟩) hn)
    | succ k =>
      have hkl : k < e.log.length := by omega
      have hk' : k < la := by omega
      have Hs : Hid (doneW e.log e' (chainC e.log (k + 1)) = doneW e.log (if (recAt e.log k).k = 3 then writeE e' (recAt e.log k).p else e') (chainC e.log (recAt e.log k).v.toNat)) := by
        show doneW e.log e' (chainC e.log (k + 1)) = _
        rw [chainC_step e.log k _ Hst.out hk']
        rfl
      have hpv := step_prev e.log k (Hst.out k hk')
      have hpp := okR_page _ (log_step HLG.out hkl).1
      obtain ⟨pv, hpv'⟩ : ∃ pv : Nat, (recAt e.log k).v = (pv : Int) := ⟨(recAt e.log k).v.toNat, by omega⟩
      obtain ⟨pp, hpp'⟩ : ∃ pp : Nat, (recAt e.log k).p = (pp : Int) := ⟨(recAt e.log k).p.toNat, by omega⟩
      have hp5 : pp < 5 := by omega
      have hpk : pv ≤ k := by omega
      have hA := HRd.out k hkl
      rw [Nat.zero_add] at hA
      have HAtG : Hid (∀ (W : World) (b : Nat), RdR W b 0 e.log → W.cell? ⟨b, k * 8 + 6, none⟩ = some (.int .i64 (pv : Int))) := fun W b hW => by
        have h := (hW k hkl).v
        rw [Nat.zero_add, hpv'] at h
        exact h
      have d0 := hA.k
      have d2 := hA.p
      have d6 := hA.v
      rw [hpv'] at d6
      rw [hpp'] at d2
      rw [hpv', hpp'] at Hs
      have kL : (k : Int) < (e'.log.length : Int) := by omega
      have k0 : (0 : Int) ≤ (k : Int) := by omega
      have wk : IntKind.i64.wrap (k : Int) = (k : Int) := IntWalk.i64_in _ (by omega)
      have hlb := HE'.out.l.lt'.2
      obtain ⟨cs, hcl⟩ := HE'.out.l.has
      have Hcl : Hid (Has wr y.lb 27 cs) := hcl
      clear hA hpv hpv' hpp hpp' hcl hlen
      generalize (recAt e.log k).k = z at *
      cases b3 : (z == 3)
      · have HS : Hid (doneW e.log e' (chainC e.log (k + 1)) = doneW e.log e' (chainC e.log pv)) := by
          show doneW e.log e' (chainC e.log (k + 1)) = _
          have h3 : ¬ z = 3 := by simpa using b3
          rw [Hs.out, if_neg h3, Int.toNat_natCast]
        go_wp2
        exact ⟨⟨pv, y, e', rfl, by omega, X2.out, X4.out, HE'.out, HI'.out, HF.out, Hl.out, Hu.out.trans HS.out⟩, by simp [intOf]; omega⟩
      · have HS : Hid (doneW e.log e' (chainC e.log (k + 1)) = doneW e.log (writeE e' pp) (chainC e.log pv)) := by
          show doneW e.log e' (chainC e.log (k + 1)) = _
          have h3 : z = 3 := by simpa using b3
          rw [Hs.out, if_pos h3, Int.toNat_natCast]
        obtain ⟨e2, he2⟩ : ∃ e2, writeE e' pp = e2 := ⟨_, rfl⟩
        have HW : Hid (∀ W, base ≤ W.heap.size → Eng W base y e' → Calls Try.prog 72 #[engV y e', .int .i64 (pp : Int)] W (RetE base y e2 W)) := fun W hW hE => by
          have h := l11Write_any base y e' pp W hp5 hW hE HI'.out
          rw [he2] at h
          exact h
        have HI2 : Hid (Inv e2) := by show Inv e2; rw [← he2]; exact write_inv HI'.out (by omega) (by omega)
        have Hl2 : Hid (e2.log = e.log) := by show e2.log = e.log; rw [← he2]; exact Hl.out
        rw [he2] at HS
        have Y2 : Hid (Has wr.drew w.heap.size 60 (engC y e')) := X2.out.drew
        have Y4 : Hid (Has wr.drew (w.heap.size + 1) 60 zeroEC) := X4.out.drew
        have YE : Hid (Eng wr.drew base y e') := HE'.out.drewN 1
        have YF : Hid (Frm x w y wr.drew) := HF.out.grow (wy_drew wr)
        have hb3 : base ≤ wr.drew.heap.size := hb2
        clear he2 Hs
        go_upto_region 7 with (fail)
        go_still_tail 8, (by kernel_rfl)
        change wpList _ _ _ _ _ wr.drew
        generalize wr.drew = w5 at *
        go_wp2_with fail
        with_reducible refine (HW.out _ hb3 YE.out).mono ?_
        rintro en w3 ⟨y3, rfl, E3, F3⟩
        have n2 := YE.out.ne_eng Y2.out
        have n4 := YE.out.ne_eng Y4.out
        have Z2 := Lib.hid (F3.has Y2.out n2.1 n2.2)
        have Z4 := Lib.hid (F3.has Y4.out n4.1 n4.2)
        have ZF := Lib.hid (YF.out.trans F3)
        have ZE := Lib.hid E3
        have HRd3 : Hid (RdR w3 y3.lb 0 e.log) := by show RdR w3 y3.lb 0 e.log; rw [← Hl2.out]; exact E3.l.rd.2.1
        clear E3 F3 c0 c1 c2 c3 c4 f0 f1 f2 f3 f4 d0 d2 d6 n2 n4
        obtain ⟨c0, c1, c2, c3, c4⟩ := Z2.out.five
        have f0 := Z2.out.frozen 0
        have f1 := Z2.out.frozen 1
        have f2 := Z2.out.frozen 2
        have f3 := Z2.out.frozen 3
        have f4 := Z2.out.frozen 4
        have V2 : Hid (Has (((((w3.setCell ⟨w.heap.size, 0, none⟩ (.slice (some ⟨y3.db, 0, none⟩) 5 y3.dc)).setCell ⟨w.heap.size, 1, none⟩ (.slice (some ⟨y3.mb, 0, none⟩) 5 y3.mc)).setCell ⟨w.heap.size, 2, none⟩ (.slice (some ⟨y3.lb, 0, none⟩) e2.log.length y3.lc)).setCell ⟨w.heap.size, 3, none⟩ (.int .i64 e2.safe)).setCell ⟨w.heap.size, 4, none⟩ (.bool e2.down)) w.heap.size 60 (engC y3 e2)) := put5E_has Z2.out _ _
        have V4 : Hid (Has (((((w3.setCell ⟨w.heap.size, 0, none⟩ (.slice (some ⟨y3.db, 0, none⟩) 5 y3.dc)).setCell ⟨w.heap.size, 1, none⟩ (.slice (some ⟨y3.mb, 0, none⟩) 5 y3.mc)).setCell ⟨w.heap.size, 2, none⟩ (.slice (some ⟨y3.lb, 0, none⟩) e2.log.length y3.lc)).setCell ⟨w.heap.size, 3, none⟩ (.int .i64 e2.safe)).setCell ⟨w.heap.size, 4, none⟩ (.bool e2.down)) (w.heap.size + 1) 60 zeroEC) := Z4.out.keep (put5E_far (by omega))
        have VE : Hid (Eng (((((w3.setCell ⟨w.heap.size, 0, none⟩ (.slice (some ⟨y3.db, 0, none⟩) 5 y3.dc)).setCell ⟨w.heap.size, 1, none⟩ (.slice (some ⟨y3.mb, 0, none⟩) 5 y3.mc)).setCell ⟨w.heap.size, 2, none⟩ (.slice (some ⟨y3.lb, 0, none⟩) e2.log.length y3.lc)).setCell ⟨w.heap.size, 3, none⟩ (.int .i64 e2.safe)).setCell ⟨w.heap.size, 4, none⟩ (.bool e2.down)) base y3 e2) := ZE.out.box Z2.out (by simp) (fun i _ hn => put5E_far hn)
        have VF : Hid (Frm x w y3 (((((w3.setCell ⟨w.heap.size, 0, none⟩ (.slice (some ⟨y3.db, 0, none⟩) 5 y3.dc)).setCell ⟨w.heap.size, 1, none⟩ (.slice (some ⟨y3.mb, 0, none⟩) 5 y3.mc)).setCell ⟨w.heap.size, 2, none⟩ (.slice (some ⟨y3.lb, 0, none⟩) e2.log.length y3.lc)).setCell ⟨w.heap.size, 3, none⟩ (.int .i64 e2.safe)).setCell ⟨w.heap.size, 4, none⟩ (.bool e2.down))) := ZF.out.put5E (Nat.le_refl _) _ _
        have VR : Hid (RdR (((((w3.setCell ⟨w.heap.size, 0, none⟩ (.slice (some ⟨y3.db, 0, none⟩) 5 y3.dc)).setCell ⟨w.heap.size, 1, none⟩ (.slice (some ⟨y3.mb, 0, none⟩) 5 y3.mc)).setCell ⟨w.heap.size, 2, none⟩ (.slice (some ⟨y3.lb, 0, none⟩) e2.log.length y3.lc)).setCell ⟨w.heap.size, 3, none⟩ (.int .i64 e2.safe)).setCell ⟨w.heap.size, 4, none⟩ (.bool e2.down)) y3.lb 0 e.log) := by
          obtain ⟨cs3, hc3⟩ := ZE.out.l.has
          exact HRd3.out.keep (put5E_far (Has.ne_kind hc3 Z2.out (by decide)))
        have HAt2 : Hid (∀ W, RdR W y3.lb 0 e.log → W.cell? ⟨y3.lb, k * 8 + 6, none⟩ = some (.int .i64 (pv : Int))) := fun W hW => HAtG.out W y3.lb hW
        have hlen2 : e2.log.length = e.log.length := by rw [Hl2.out]
        have kL2 : (k : Int) < (e2.log.length : Int) := by omega
        have g6 := HAt2.out _ VR.out
        clear hlen2 kL
        go_upto_region 5 with (fail)
        have VU := Lib.hid g6
        generalize (((((w3.setCell ⟨w.heap.size, 0, none⟩ (.slice (some ⟨y3.db, 0, none⟩) 5 y3.dc)).setCell ⟨w.heap.size, 1, none⟩ (.slice (some ⟨y3.mb, 0, none⟩) 5 y3.mc)).setCell ⟨w.heap.size, 2, none⟩ (.slice (some ⟨y3.lb, 0, none⟩) e2.log.length y3.lc)).setCell ⟨w.heap.size, 3, none⟩ (.int .i64 e2.safe)).setCell ⟨w.heap.size, 4, none⟩ (.bool e2.down)) = w6 at *
        clear c0 c1 c2 c3 c4 f0 f1 f2 f3 f4 Z2 Z4 ZF ZE
        obtain ⟨c0, c1, c2, c3, c4⟩ := V2.out.five
        go_wp2
        exact ⟨⟨pv, y3, e2, rfl, by omega, V2.out, V4.out, VE.out, HI2.out, VF.out, Hl2.out, Hu.out.trans HS.out⟩, by simp [intOf]; omega⟩
end Go.Proofs.Ytejbmjdipfcblaa.Base
