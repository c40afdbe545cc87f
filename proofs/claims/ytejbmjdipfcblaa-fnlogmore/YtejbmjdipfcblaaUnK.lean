/-
  Contract of the model's l13Undo. Conditions: the engine lies in memory and keeps what holds throughout a play.
-/
import Derived.Test.YtejbmjdipfcblaaStpK
import Derived.Deep.LoopGhost
namespace Go.Proofs.Ytejbmjdipfcblaa.Base
open Go.RowKit

set_option maxRecDepth 100000 in
set_option maxHeartbeats 4000000 in
theorem l13Undo_any (base : Nat) (x : Ad) (e : EE) (t : Int) (w : World) (hbw : base ≤ w.heap.size) (he : Eng w base x e) (hi : Inv e) :
    Calls Try.prog 71 #[engV x e, .int .i64 t] w (RetEB base x (undoE e t) w) := by
  have HE := Lib.hid he
  have HI := Lib.hid hi
  have hl150 := log_len hi.log
  have HZ : Hid (at0 e.log t = lastN e.log t e.log.length) := at0_last hi t
  have HL : Hid (∀ W, Below w.heap.size w W → Calls Try.prog 33 #[.slice (some ⟨x.lb, 0, none⟩) e.log.length x.lc, .int .i64 t] W fun en w' => en = .returned (.int .i64 (lastN e.log t e.log.length)) ∧ W = w') := fun W h => l3Last_any e.log e.log.length t _ x.lc w.heap.size W (Nat.le_refl _) (he.recs.below h) (by omega)
  have h2 : Has ((w.alloc (.cells (engC x e) 60)).alloc (.cells zeroEC 60)) w.heap.size 60 (engC x e) := (Has.new w _ _).alloc _
  have h4 : Has ((w.alloc (.cells (engC x e) 60)).alloc (.cells zeroEC 60)) (w.heap.size + 1) 60 zeroEC := by
    have := Has.new (w.alloc (.cells (engC x e) 60)) 60 zeroEC
    rwa [World.size_alloc] at this
  have B1 : Hid (Below w.heap.size w ((w.alloc (.cells (engC x e) 60)).alloc (.cells zeroEC 60))) := below_two _ _ _
  have X2 := Lib.hid h2
  have X4 := Lib.hid h4
  clear he hi h2 h4
  have hle := lastN_le e.log t e.log.length
  generalize hla : lastN e.log t e.log.length = la at *
  have HLA := Lib.hid hla
  clear hla
  go_enter Try.func71, Try.ntmps71
  go_upto_region 1 with (fail)
  generalize ((w.alloc (.cells (engC x e) 60)).alloc (.cells zeroEC 60)) = w1 at *
  have l2 := X2.out.lt
  have l4 := X4.out.lt
  cases hd : e.down
  case true =>
    have HR : Hid (undoE e t = (e, false)) := by show undoE e t = _; unfold undoE; rw [hd]; rfl
    obtain ⟨c0, c1, c2, c3, c4⟩ := X2.out.five
    obtain ⟨y0, y1, y2, y3, y4⟩ := X4.out.five
    have t0 := X4.out.frozen 0
    have t1 := X4.out.frozen 1
    have t2 := X4.out.frozen 2
    have t3 := X4.out.frozen 3
    have t4 := X4.out.frozen 4
    go_upto_region 2 with (fail)
    clear hd
    go_wp2
    refine bodyPost_ret (v := .tuple #[engV x e, .bool false]) (by simp [results, Try.results71, go_sem, y0, y1, y2, y3, y4]) rfl ⟨x, by rw [HR.out], ?_, Frm.of_below (put5E_below B1.out (by omega) x e) rfl rfl⟩
    rw [HR.out]
    exact (HE.out.below B1.out).box X4.out (by simp) (fun i _ hn => put5E_far hn)
  cases ht : inB t 1 3
  case false =>
    have HT := Lib.hid ht
    have HR : Hid (undoE e t = (e, false)) := by show undoE e t = _; unfold undoE; rw [hd, ht]; rfl
    clear ht
    obtain ⟨c0, c1, c2, c3, c4⟩ := X2.out.five
    obtain ⟨y0, y1, y2, y3, y4⟩ := X4.out.five
    have t0 := X4.out.frozen 0
    have t1 := X4.out.frozen 1
    have t2 := X4.out.frozen 2
    have t3 := X4.out.frozen 3
    have t4 := X4.out.frozen 4
    go_upto_region 2 with (go_at_call 43; refine (l6In_any _ _ _ _).mono ?_; rintro en w9 ⟨rfl, rfl⟩; rw [HT.out])
    clear hd
    go_wp2
    refine bodyPost_ret (v := .tuple #[engV x e, .bool false]) (by simp [results, Try.results71, go_sem, y0, y1, y2, y3, y4]) rfl ⟨x, by rw [HR.out], ?_, Frm.of_below (put5E_below B1.out (by omega) x e) rfl rfl⟩
    rw [HR.out]
    exact (HE.out.below B1.out).box X4.out (by simp) (fun i _ hn => put5E_far hn)
  have HT := Lib.hid ht
  have ht13 : 1 ≤ t ∧ t ≤ 3 := by simpa [inB] using ht
  cases hz : (la == 0)
  case true =>
    have HR : Hid (undoE e t = (e, false)) := by show undoE e t = _; unfold undoE; rw [hd, ht, HZ.out, hz]; rfl
    have hz' : ((la : Int) == 0) = true := by simpa using hz
    clear ht hz
    obtain ⟨c0, c1, c2, c3, c4⟩ := X2.out.five
    obtain ⟨y0, y1, y2, y3, y4⟩ := X4.out.five
    have t0 := X4.out.frozen 0
    have t1 := X4.out.frozen 1
    have t2 := X4.out.frozen 2
    have t3 := X4.out.frozen 3
    have t4 := X4.out.frozen 4
    go_upto_region 2 with (first | (go_at_call 43; refine (l6In_any _ _ _ _).mono ?_; rintro en w9 ⟨rfl, rfl⟩; rw [HT.out]) | (go_at_call 33; refine (HL.out _ B1.out).mono ?_; rintro en w9 ⟨rfl, rfl⟩))
    clear hd
    go_wp2
    refine bodyPost_ret (v := .tuple #[engV x e, .bool false]) (by simp [results, Try.results71, go_sem, y0, y1, y2, y3, y4]) rfl ⟨x, by rw [HR.out], ?_, Frm.of_below (put5E_below B1.out (by omega) x e) rfl rfl⟩
    rw [HR.out]
    exact (HE.out.below B1.out).box X4.out (by simp) (fun i _ hn => put5E_far hn)
  have HR : Hid (undoE e t = (undoN (needN e.log e.log.length) e t, true)) := by show undoE e t = _; unfold undoE; rw [hd, ht, HZ.out, hz]; rfl
  have hz' : ((la : Int) == 0) = false := by simpa using hz
  have HD := Lib.hid hd
  clear ht hz
  obtain ⟨c0, c1, c2, c3, c4⟩ := X2.out.five
  go_upto_region 3 with (first | (go_at_call 43; refine (l6In_any _ _ _ _).mono ?_; rintro en w9 ⟨rfl, rfl⟩; rw [HT.out]) | (go_at_call 33; refine (HL.out _ B1.out).mono ?_; rintro en w9 ⟨rfl, rfl⟩))
  clear hd c0 c1 c2 c3 c4 hz'
  have ht1 := ht13.1
  have ht3 := ht13.2
  obtain ⟨n0, hn0⟩ : ∃ n, needN e.log e.log.length = n := ⟨_, rfl⟩
  rw [hn0] at HR
  have Hn0 := Lib.hid hn0
  clear hn0
  go_loopg [] n0 (fun k wr => ∃ y e', Has wr w.heap.size 60 (engC y e') ∧ Has wr (w.heap.size + 1) 60 zeroEC ∧ Eng wr base y e' ∧ Inv e' ∧ Frm x w y wr ∧ needN e'.log e'.log.length = k ∧ undoN n0 e t = undoN k e' t)
  case atStart => exact ⟨x, e, X2.out, X4.out, HE.out.below B1.out, HI.out, .of_below B1.out rfl rfl, Hn0.out, rfl⟩
  case round =>
    obtain ⟨y, e', k2, k4, kE, kI, kF, kn, ku⟩ := hrel
    clear X2 X4 B1 l2 l4 HL
    have X2 := Lib.hid k2
    have X4 := Lib.hid k4
    have HE' := Lib.hid kE
    have HI' := Lib.hid kI
    have HF := Lib.hid kF
    have Hn := Lib.hid kn
    have Hu := Lib.hid ku
    have ll150 := log_len kI.log
    have l2 := k2.lt
    have l4 := k4.lt
    have HL' : Hid (Calls Try.prog 33 #[.slice (some ⟨y.lb, 0, none⟩) e'.log.length y.lc, .int .i64 t] wr fun en w' => en = .returned (.int .i64 (lastN e'.log t e'.log.length)) ∧ wr = w') := l3Last_any e'.log e'.log.length t _ y.lc wr.heap.size wr (Nat.le_refl _) kE.recs (by omega)
    have hb2 : base ≤ wr.heap.size := Nat.le_trans hbw kF.size
    obtain ⟨c0, c1, c2, c3, c4⟩ := k2.five
    have f0 := k2.frozen 0
    have f1 := k2.frozen 1
    have f2 := k2.frozen 2
    have f3 := k2.frozen 3
    have f4 := k2.frozen 4
    clear k2 k4 kE kI kF kn ku
    generalize hlb : lastN e'.log t e'.log.length = lb at *
    cases lb with
    | zero =>
      have HU : Hid (undoN gk e' t = e') := by
        show undoN gk e' t = e'
        cases gk with
        | zero => rfl
        | succ n => unfold undoN; rw [if_pos hlb]
      clear hlb
      obtain ⟨y0, y1, y2, y3, y4⟩ := X4.out.five
      have t0 := X4.out.frozen 0
      have t1 := X4.out.frozen 1
      have t2 := X4.out.frozen 2
      have t3 := X4.out.frozen 3
      have t4 := X4.out.frozen 4
      go_wp2_with (go_at_call 33; refine HL'.out.mono ?_; rintro en w9 ⟨rfl, rfl⟩)
      refine bodyPost_ret (v := .tuple #[engV y e', .bool true]) (by simp [results, Try.results71, go_sem, y0, y1, y2, y3, y4]) rfl ⟨y, by rw [HR.out, Hu.out, HU.out], ?_, HF.out.put5E (by omega) y e'⟩
      rw [HR.out, Hu.out, HU.out]
      exact HE'.out.box X4.out (by simp) (fun i _ hn => put5E_far hn)
    | succ m =>
      have hne : lastN e'.log t e'.log.length ≠ 0 := by omega
      have HS : Hid (Calls Try.prog 88 #[engV y e', .int .i64 t] wr (RetE base y (stepE e' t) wr)) := l13Step_any base y e' t wr hb2 HE'.out HI'.out ht1 ht3 hne
      have HX := Lib.hid (stepE_next HI'.out ht1 ht3 hne).2.2.1
      have HSI := Lib.hid (step_inv HI'.out ht1 ht3 hne)
      have HU : Hid (∀ n, n + 1 = gk → undoN gk e' t = undoN n (stepE e' t) t) := fun n hn => by
        subst hn
        show (if lastN e'.log t e'.log.length = 0 then e' else undoN n (stepE e' t) t) = _
        rw [if_neg hne]
      obtain ⟨e2, he2⟩ : ∃ e2, stepE e' t = e2 := ⟨_, rfl⟩
      rw [he2] at HS HX HSI HU
      clear hlb hne he2
      go_wp2_with (first
        | (go_at_call 33; refine HL'.out.mono ?_; rintro en w9 ⟨rfl, rfl⟩)
        | (go_at_call 88; fail))
      refine HS.out.mono ?_
      rintro en w3 ⟨y3, rfl, E3, F3⟩
      have n2 := HE'.out.ne_eng X2.out
      have n4 := HE'.out.ne_eng X4.out
      have Z2 := Lib.hid (F3.has X2.out n2.1 n2.2)
      have Z4 := Lib.hid (F3.has X4.out n4.1 n4.2)
      have ZF := Lib.hid (HF.out.trans F3)
      have ZE := Lib.hid E3
      clear E3 F3 c0 c1 c2 c3 c4 f0 f1 f2 f3 f4 HS HL' X2 X4
      obtain ⟨c0, c1, c2, c3, c4⟩ := Z2.out.five
      have f0 := Z2.out.frozen 0
      have f1 := Z2.out.frozen 1
      have f2 := Z2.out.frozen 2
      have f3 := Z2.out.frozen 3
      have f4 := Z2.out.frozen 4
      have V2 : Hid (Has (((((w3.setCell ⟨w.heap.size, 0, none⟩ (.slice (some ⟨y3.db, 0, none⟩) 5 y3.dc)).setCell ⟨w.heap.size, 1, none⟩ (.slice (some ⟨y3.mb, 0, none⟩) 5 y3.mc)).setCell ⟨w.heap.size, 2, none⟩ (.slice (some ⟨y3.lb, 0, none⟩) e2.log.length y3.lc)).setCell ⟨w.heap.size, 3, none⟩ (.int .i64 e2.safe)).setCell ⟨w.heap.size, 4, none⟩ (.bool e2.down)) w.heap.size 60 (engC y3 e2)) := put5E_has Z2.out _ _
      have V4 : Hid (Has (((((w3.setCell ⟨w.heap.size, 0, none⟩ (.slice (some ⟨y3.db, 0, none⟩) 5 y3.dc)).setCell ⟨w.heap.size, 1, none⟩ (.slice (some ⟨y3.mb, 0, none⟩) 5 y3.mc)).setCell ⟨w.heap.size, 2, none⟩ (.slice (some ⟨y3.lb, 0, none⟩) e2.log.length y3.lc)).setCell ⟨w.heap.size, 3, none⟩ (.int .i64 e2.safe)).setCell ⟨w.heap.size, 4, none⟩ (.bool e2.down)) (w.heap.size + 1) 60 zeroEC) := Z4.out.keep (put5E_far (by omega))
      have VE : Hid (Eng (((((w3.setCell ⟨w.heap.size, 0, none⟩ (.slice (some ⟨y3.db, 0, none⟩) 5 y3.dc)).setCell ⟨w.heap.size, 1, none⟩ (.slice (some ⟨y3.mb, 0, none⟩) 5 y3.mc)).setCell ⟨w.heap.size, 2, none⟩ (.slice (some ⟨y3.lb, 0, none⟩) e2.log.length y3.lc)).setCell ⟨w.heap.size, 3, none⟩ (.int .i64 e2.safe)).setCell ⟨w.heap.size, 4, none⟩ (.bool e2.down)) base y3 e2) := ZE.out.box Z2.out (by simp) (fun i _ hn => put5E_far hn)
      have VF : Hid (Frm x w y3 (((((w3.setCell ⟨w.heap.size, 0, none⟩ (.slice (some ⟨y3.db, 0, none⟩) 5 y3.dc)).setCell ⟨w.heap.size, 1, none⟩ (.slice (some ⟨y3.mb, 0, none⟩) 5 y3.mc)).setCell ⟨w.heap.size, 2, none⟩ (.slice (some ⟨y3.lb, 0, none⟩) e2.log.length y3.lc)).setCell ⟨w.heap.size, 3, none⟩ (.int .i64 e2.safe)).setCell ⟨w.heap.size, 4, none⟩ (.bool e2.down))) := ZF.out.put5E (Nat.le_refl _) _ _
      go_wp2
      have hk := HX.out
      rw [Hn.out] at hk
      obtain ⟨n, rfl⟩ : ∃ n, gk = n + 1 := ⟨needN e2.log e2.log.length, hk.symm⟩
      go_roundg n
      case measure => omega
      case rel => exact ⟨y3, e2, V2.out, V4.out, VE.out, HSI.out, VF.out, by omega, by rw [Hu.out, HU.out n rfl]⟩
end Go.Proofs.Ytejbmjdipfcblaa.Base
