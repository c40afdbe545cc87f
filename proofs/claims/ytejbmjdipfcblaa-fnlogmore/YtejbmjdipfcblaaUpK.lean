/-
  Contract of the model's l21Up. Conditions: the engine lies in memory and keeps what holds throughout a play; no steps are fewer than none.
-/
import Derived.Test.YtejbmjdipfcblaaStpK
import Derived.Test.YtejbmjdipfcblaaRdoK
import Derived.Deep.LoopGhost
import Derived.Deep.QuietTactic
namespace Go.Proofs.Ytejbmjdipfcblaa.Base
open Go.RowKit

set_option maxRecDepth 100000 in
set_option maxHeartbeats 2000000 in
theorem l21Up_any (base : Nat) (x : Ad) (e : EE) (st : Int) (w : World) (hst : 0 ≤ st) (hbw : base ≤ w.heap.size) (he : Eng w base x e) (hi : Inv e) :
    Calls Try.prog 74 #[engV x e, .int .i64 st] w (RetEB base x (upE e st) w) := by
  have HE := Lib.hid he
  have HI := Lib.hid hi
  have hl150 := log_len hi.log
  obtain ⟨ns, rfl⟩ := Int.eq_ofNat_of_zero_le hst
  have h2 : Has ((w.alloc (.cells (engC x e) 60)).alloc (.cells zeroEC 60)) w.heap.size 60 (engC x e) := (Has.new w _ _).alloc _
  have h4 : Has ((w.alloc (.cells (engC x e) 60)).alloc (.cells zeroEC 60)) (w.heap.size + 1) 60 zeroEC := by
    have := Has.new (w.alloc (.cells (engC x e) 60)) 60 zeroEC
    rwa [World.size_alloc] at this
  have B1 : Hid (Below w.heap.size w ((w.alloc (.cells (engC x e) 60)).alloc (.cells zeroEC 60))) := below_two _ _ _
  have X2 := Lib.hid h2
  have X4 := Lib.hid h4
  have HU : Hid (upE e (ns : Int) = if firstE (upN ns (riseE e)).log = 0 then (liveE (upN ns (riseE e)), true) else (backE (upN ns (riseE e)), false)) := by
    show upE e (ns : Int) = _
    unfold upE
    rw [Int.toNat_natCast]
  clear he hi h2 h4 hst
  go_enter Try.func74, Try.ntmps74
  go_upto_region 1 with (fail)
  generalize ((w.alloc (.cells (engC x e) 60)).alloc (.cells zeroEC 60)) = w1 at *
  have HE1 := Lib.hid (HE.out.below B1.out)
  obtain ⟨c0, c1, c2, c3, c4⟩ := X2.out.five
  go_wp2_with fail
  refine (l11Redo_any base x.db x.dc e.disk e.log x.lb x.lc _ HE1.out.d (disk_ok HI.out) HI.out.log HE1.out.l.rd.2.1 HE1.out.l.lt'.2).mono ?_
  rintro en w3 ⟨bm, cm, rfl, b3, p3⟩
  have hs1 := B1.out.size
  have V2 := Lib.hid (X2.out.below b3 X2.out.lt)
  have V4 := Lib.hid (X4.out.below b3 X4.out.lt)
  have VB : Hid (Below w.heap.size w w3) := B1.out.trans (b3.mono hs1)
  have VP := Lib.hid p3
  have VE := Lib.hid (HE1.out.below b3)
  clear b3 p3 X2 X4 B1 HE1 c0 c1 c2 c3 c4
  obtain ⟨c0, c1, c2, c3, c4⟩ := V2.out.five
  have f1 := V2.out.frozen 1
  have hdb := (HE.out.d.lt).2
  have hbm := VP.out.lt.1
  have HR : Hid (riseE e = ⟨e.disk, redoN e.log e.disk e.log.length, e.log, e.safe, e.down⟩) := rfl
  have HRI := Lib.hid (rise_inv HI.out)
  have U2 : Hid (Has (w3.setCell ⟨w.heap.size, 1, none⟩ (.slice (some ⟨bm, 0, none⟩) 5 cm)) w.heap.size 60 (engC ⟨x.db, x.dc, bm, cm, x.lb, x.lc⟩ (riseE e))) := V2.out.set 1 _
  have U4 : Hid (Has (w3.setCell ⟨w.heap.size, 1, none⟩ (.slice (some ⟨bm, 0, none⟩) 5 cm)) (w.heap.size + 1) 60 zeroEC) := V4.out.far (by simp) _
  have UE : Hid (Eng (w3.setCell ⟨w.heap.size, 1, none⟩ (.slice (some ⟨bm, 0, none⟩) 5 cm)) base ⟨x.db, x.dc, bm, cm, x.lb, x.lc⟩ (riseE e)) := by
    have E1 : Eng w3 base ⟨x.db, x.dc, bm, cm, x.lb, x.lc⟩ (riseE e) := ⟨VE.out.d, VP.out.down (by omega), VE.out.l, by show x.db ≠ bm; omega⟩
    exact E1.box V2.out (by simp) (fun i _ hn => Below.heap_setCell _ _ _ _ (by simpa using hn))
  have UF : Hid (Frm x w ⟨x.db, x.dc, bm, cm, x.lb, x.lc⟩ (w3.setCell ⟨w.heap.size, 1, none⟩ (.slice (some ⟨bm, 0, none⟩) 5 cm))) := by
    have k := (VB.out.setCell (p := ⟨w.heap.size, 1, none⟩) (Nat.le_refl _) (.slice (some ⟨bm, 0, none⟩) 5 cm))
    exact ⟨k.os, k.tape, k.output, k.size, fun i hi _ _ => k.block i hi, .inl rfl, .inr (by show w.heap.size ≤ bm; omega)⟩
  go_upto_region 2 with (fail)
  generalize (w3.setCell ⟨w.heap.size, 1, none⟩ (.slice (some ⟨bm, 0, none⟩) 5 cm)) = w4 at *
  clear c0 c1 c2 c3 c4 f1 V2 V4 VB VP VE HR
  obtain ⟨e1, he1⟩ : ∃ e1, riseE e = e1 := ⟨_, rfl⟩
  obtain ⟨x1, hx1⟩ : ∃ x1 : Ad, (⟨x.db, x.dc, bm, cm, x.lb, x.lc⟩ : Ad) = x1 := ⟨_, rfl⟩
  rw [he1] at HU HRI UE U2
  rw [hx1] at UE U2 UF
  clear he1 hx1 hdb hbm
  have Hn0 : Hid (∃ n0, needN e1.log e1.log.length = n0 ∧ n0 ≤ 150) := ⟨_, rfl, by have := HRI.out.room e1.log.length (Nat.le_refl _); omega⟩
  obtain ⟨n0, hn0, hn150⟩ := Hn0.out
  have Hn := Lib.hid hn0
  clear hn0 Hn0
  go_wp2_with fail
  go_loopg [6] n0 (fun k i wr => ∃ (j : Nat) (y : Ad) (e' : EE), i = .int .i64 (j : Int) ∧ j ≤ ns ∧ j + k = n0 ∧ Has wr w.heap.size 60 (engC y e') ∧ Has wr (w.heap.size + 1) 60 zeroEC ∧ Eng wr base y e' ∧ Inv e' ∧ Frm x w y wr ∧ needN e'.log e'.log.length = k ∧ upN ns e1 = upN (ns - j) e')
  case atStart => exact ⟨0, x1, e1, rfl, by omega, by omega, U2.out, U4.out, UE.out, HRI.out, UF.out, Hn.out, rfl⟩
  case round =>
    obtain ⟨j, y, e', rfl, hjs, hjk, k2, k4, kE, kI, kF, kn, ku⟩ := hrel
    clear U2 U4 UE UF HRI
    have X2 := Lib.hid k2
    have X4 := Lib.hid k4
    have HE' := Lib.hid kE
    have HI' := Lib.hid kI
    have HF := Lib.hid kF
    have Hn' := Lib.hid kn
    have Hu := Lib.hid ku
    have ll150 := log_len kI.log
    have l2 := k2.lt
    have l4 := k4.lt
    have hb2 : base ≤ wr.heap.size := Nat.le_trans hbw kF.size
    have HFi : Hid (∀ W, RdR W y.lb 0 e'.log → y.lb < W.heap.size → Calls Try.prog 91 #[.slice (some ⟨y.lb, 0, none⟩) e'.log.length y.lc] W fun en w' => en = .returned (.int .i64 (firstE e'.log)) ∧ W = w') := fun W h hl => l21First_any e'.log _ y.lc W.heap.size W (h.recs hl) (by omega)
    have HRd := Lib.hid kE.l.rd.2.1
    have hyl := kE.l.lt'.2
    obtain ⟨c0, c1, c2, c3, c4⟩ := k2.five
    have f0 := k2.frozen 0
    have f1 := k2.frozen 1
    have f2 := k2.frozen 2
    have f3 := k2.frozen 3
    have f4 := k2.frozen 4
    clear k2 k4 kE kI kF kn ku
    have hfl := firstE_le e'.log
    have HFin : Hid (firstE e'.log ≠ 0 → (1 ≤ firstE e'.log ∧ firstE e'.log ≤ 3) ∧ lastN e'.log (firstE e'.log) e'.log.length ≠ 0) := fun h => firstE_in h
    obtain ⟨fi, hfi⟩ : ∃ fi, firstE e'.log = fi := ⟨_, rfl⟩
    rw [hfi] at HFi hfl HFin
    have Hfi := Lib.hid hfi
    clear hfi
    have ARMF : True := trivial
    by_cases hgo : j < ns ∧ 0 < fi
    case pos =>
      obtain ⟨hjn, hf0⟩ := hgo
      have hjn' : (j : Int) < (ns : Int) := by omega
      have hfin := HFin.out (by omega)
      have HS : Hid (∀ W, base ≤ W.heap.size → Eng W base y e' → Calls Try.prog 88 #[engV y e', .int .i64 fi] W (RetE base y (stepE e' fi) W)) := fun W hW hE => l13Step_any base y e' fi W hW hE HI'.out hfin.1.1 hfin.1.2 hfin.2
      have HX := Lib.hid (stepE_next HI'.out hfin.1.1 hfin.1.2 hfin.2).2.2.1
      have HSI := Lib.hid (step_inv HI'.out hfin.1.1 hfin.1.2 hfin.2)
      have HUU : Hid (upN (ns - j) e' = upN (ns - (j + 1)) (stepE e' fi)) := by
        show upN (ns - j) e' = _
        obtain ⟨m, hm⟩ : ∃ m, ns - j = m + 1 := ⟨ns - j - 1, by omega⟩
        rw [hm, show ns - (j + 1) = m by omega]
        show (if firstE e'.log = 0 then e' else upN m (stepE e' (firstE e'.log))) = _
        rw [Hfi.out, if_neg (by omega)]
      obtain ⟨e2, he2⟩ : ∃ e2, stepE e' fi = e2 := ⟨_, rfl⟩
      rw [he2] at HS HX HSI HUU
      have hkk := HX.out
      rw [Hn'.out] at hkk
      obtain ⟨m, rfl⟩ : ∃ m, gk = m + 1 := ⟨needN e2.log e2.log.length, hkk.symm⟩
      clear he2 hkk hfin
      go_wp2_with (go_at_call 91; refine (HFi.out _ HRd.out hyl).mono ?_; rintro en w9 ⟨rfl, rfl⟩)
      go_upto_region 5 with (fail)
      have l9 := X4.out.lt
      refine wp_region_held_drew (S := (fun _ => True)) (by kernel_rfl) ?_ (fun hHeld0 => ?_)
      · (exact trivial)
      refine wpAnyH_take (i := 1) (oi := { dst := some 25, op := Go.Op.fieldAddr 60 (Go.Operand.tmp 2) 2, type := 0, pos := "l21_rise.go:35", after := #[], guard := none }) (v := ?_) rfl (by kernel_rfl) (by kernel_rfl) (by kernel_rfl) (fun _ _ _ h => h) (Or.inl ⟨by rfl, ?_⟩) hHeld0 ?_
      rotate_left
      · (intro w hSw; (try dsimp only at hSw); go_simp; (first | done | (with_reducible rfl) | (rw [if_neg (by omega)]) | (rw [if_neg (by simp only [ByteArray.size_append]; omega)])))
      (try simp only [Act.put, List.setIfInBounds_toArray, List.set_cons_zero, List.set_cons_succ])
      refine wpAnyH_ready (rs := [0, 2]) (by kernel_rfl) (by simp) ?_
      refine AllReadyH.cons (o := { dst := some 24, op := Go.Op.load 60 (Go.Operand.tmp 2), type := 60, pos := "l21_rise.go:35", after := #[], guard := none }) rfl (fun K hK => ?_) (AllReadyH.cons (o := { dst := some 26, op := Go.Op.load 23 (Go.Operand.tmp 25), type := 23, pos := "l21_rise.go:35", after := #[{ on := 1, ground := Go.Ground.data }], guard := none }) rfl (fun K hK => ?_) AllReadyH.nil)
      · go_simp
        skip
        (try go_wp2_with fail)
        refine hK.out _ _ ?_ (fun hHeld1 => ?_)
        · (exact trivial)
        clear hK K hHeld0
        (try simp only [Act.put, List.setIfInBounds_toArray, List.set_cons_zero, List.set_cons_succ])
        refine wpAnyH_ready (rs := [2]) (by kernel_rfl) (by simp) ?_
        refine AllReadyH.cons (o := { dst := some 26, op := Go.Op.load 23 (Go.Operand.tmp 25), type := 23, pos := "l21_rise.go:35", after := #[{ on := 1, ground := Go.Ground.data }], guard := none }) rfl (fun K hK => ?_) AllReadyH.nil
        go_simp
        skip
        (try go_wp2_with fail)
        refine hK.out _ _ ?_ (fun hHeld2 => ?_)
        · (exact trivial)
        clear hK K hHeld1
        (try simp only [Act.put, List.setIfInBounds_toArray, List.set_cons_zero, List.set_cons_succ])
        refine wpAnyH_ready (rs := [3]) (by kernel_rfl) (by simp) ?_
        refine AllReadyH.cons (o := { dst := some 27, op := Go.Op.call { callee := Go.Callee.value (Go.Operand.func 91), args := #[Go.Operand.tmp 26], argTypes := #[23] }, type := 3, pos := "l21_rise.go:35", after := #[{ on := 2, ground := Go.Ground.data }], guard := none }) rfl (fun K hK => ?_) AllReadyH.nil
        go_simp
        refine (HFi.out wr.drew (HRd.out.below (wy_drew wr) hyl) hyl).mono ?_
        rintro en w9 ⟨rfl, rfl⟩
        (try go_wp2_with fail)
        refine hK.out _ _ ?_ (fun hHeld3 => ?_)
        · (exact trivial)
        clear hK K hHeld2
        (try simp only [Act.put, List.setIfInBounds_toArray, List.set_cons_zero, List.set_cons_succ])
        refine wpAnyH_ready (rs := [4]) (by kernel_rfl) (by simp) ?_
        refine AllReadyH.cons (o := { dst := some 28, op := Go.Op.call { callee := Go.Callee.value (Go.Operand.func 88), args := #[Go.Operand.tmp 24, Go.Operand.tmp 27], argTypes := #[60, 3] }, type := 60, pos := "l21_rise.go:35", after := #[{ on := 0, ground := Go.Ground.data }, { on := 3, ground := Go.Ground.data }, { on := 3, ground := Go.Ground.chain }], guard := none }) rfl (fun K hK => ?_) AllReadyH.nil
        go_simp
        refine (HS.out wr.drew hb2 (HE'.out.below (wy_drew wr))).mono ?_
        rintro en w3 ⟨y3, rfl, E3, F3⟩
        have n2 := (HE'.out.below (wy_drew wr)).ne_eng X2.out.drew
        have n4 := (HE'.out.below (wy_drew wr)).ne_eng X4.out.drew
        have Z2 := Lib.hid (F3.has X2.out.drew n2.1 n2.2)
        have Z4 := Lib.hid (F3.has X4.out.drew n4.1 n4.2)
        have ZF := Lib.hid ((HF.out.grow (wy_drew wr)).trans F3)
        have ZE := Lib.hid E3
        clear E3 F3 c0 c1 c2 c3 c4 f0 f1 f2 f3 f4 n2 n4
        obtain ⟨c0, c1, c2, c3, c4⟩ := Z2.out.five
        have f0 := Z2.out.frozen 0
        have f1 := Z2.out.frozen 1
        have f2 := Z2.out.frozen 2
        have f3 := Z2.out.frozen 3
        have f4 := Z2.out.frozen 4
        (try go_wp2_with fail)
        refine hK.out _ _ ?_ (fun hHeld4 => ?_)
        · (exact trivial)
        clear hK K hHeld3
        (try simp only [Act.put, List.setIfInBounds_toArray, List.set_cons_zero, List.set_cons_succ])
        refine wpAnyH_ready (rs := [5]) (by kernel_rfl) (by simp) ?_
        refine AllReadyH.cons (o := { dst := none, op := Go.Op.store 60 (Go.Operand.tmp 2) (Go.Operand.tmp 28), type := 0, pos := "l21_rise.go:35", after := #[{ on := 4, ground := Go.Ground.data }, { on := 4, ground := Go.Ground.chain }, { on := 0, ground := Go.Ground.phase }, { on := 1, ground := Go.Ground.phase }, { on := 2, ground := Go.Ground.phase }, { on := 3, ground := Go.Ground.phase }, { on := 4, ground := Go.Ground.phase }], guard := none }) rfl (fun K hK => ?_) AllReadyH.nil
        go_simp
        skip
        (try go_wp2_with fail)
        refine hK.out _ _ ?_ (fun hHeld5 => ?_)
        · (exact trivial)
        clear hK K hHeld4
        (try simp only [Act.put, List.setIfInBounds_toArray, List.set_cons_zero, List.set_cons_succ])
        refine wpAnyH_done (by kernel_rfl) ?_ _
        clear hHeld5
        have V2 : Hid (Has (((((w3.setCell ⟨w.heap.size, 0, none⟩ (.slice (some ⟨y3.db, 0, none⟩) 5 y3.dc)).setCell ⟨w.heap.size, 1, none⟩ (.slice (some ⟨y3.mb, 0, none⟩) 5 y3.mc)).setCell ⟨w.heap.size, 2, none⟩ (.slice (some ⟨y3.lb, 0, none⟩) e2.log.length y3.lc)).setCell ⟨w.heap.size, 3, none⟩ (.int .i64 e2.safe)).setCell ⟨w.heap.size, 4, none⟩ (.bool e2.down)) w.heap.size 60 (engC y3 e2)) := put5E_has Z2.out y3 e2
        have V4 : Hid (Has (((((w3.setCell ⟨w.heap.size, 0, none⟩ (.slice (some ⟨y3.db, 0, none⟩) 5 y3.dc)).setCell ⟨w.heap.size, 1, none⟩ (.slice (some ⟨y3.mb, 0, none⟩) 5 y3.mc)).setCell ⟨w.heap.size, 2, none⟩ (.slice (some ⟨y3.lb, 0, none⟩) e2.log.length y3.lc)).setCell ⟨w.heap.size, 3, none⟩ (.int .i64 e2.safe)).setCell ⟨w.heap.size, 4, none⟩ (.bool e2.down)) (w.heap.size + 1) 60 zeroEC) := Z4.out.keep (put5E_far (x := y3) (e := e2) (by omega))
        have VE : Hid (Eng (((((w3.setCell ⟨w.heap.size, 0, none⟩ (.slice (some ⟨y3.db, 0, none⟩) 5 y3.dc)).setCell ⟨w.heap.size, 1, none⟩ (.slice (some ⟨y3.mb, 0, none⟩) 5 y3.mc)).setCell ⟨w.heap.size, 2, none⟩ (.slice (some ⟨y3.lb, 0, none⟩) e2.log.length y3.lc)).setCell ⟨w.heap.size, 3, none⟩ (.int .i64 e2.safe)).setCell ⟨w.heap.size, 4, none⟩ (.bool e2.down)) base y3 e2) := ZE.out.box Z2.out (by simp) (fun i _ hn => put5E_far (x := y3) (e := e2) hn)
        have VF : Hid (Frm x w y3 (((((w3.setCell ⟨w.heap.size, 0, none⟩ (.slice (some ⟨y3.db, 0, none⟩) 5 y3.dc)).setCell ⟨w.heap.size, 1, none⟩ (.slice (some ⟨y3.mb, 0, none⟩) 5 y3.mc)).setCell ⟨w.heap.size, 2, none⟩ (.slice (some ⟨y3.lb, 0, none⟩) e2.log.length y3.lc)).setCell ⟨w.heap.size, 3, none⟩ (.int .i64 e2.safe)).setCell ⟨w.heap.size, 4, none⟩ (.bool e2.down))) := ZF.out.put5E (Nat.le_refl _) y3 e2
        clear Z2 Z4 ZF ZE c0 c1 c2 c3 c4 f0 f1 f2 f3 f4 X2 X4 HE' HF HRd HFi HS
        generalize (((((w3.setCell ⟨w.heap.size, 0, none⟩ (.slice (some ⟨y3.db, 0, none⟩) 5 y3.dc)).setCell ⟨w.heap.size, 1, none⟩ (.slice (some ⟨y3.mb, 0, none⟩) 5 y3.mc)).setCell ⟨w.heap.size, 2, none⟩ (.slice (some ⟨y3.lb, 0, none⟩) e2.log.length y3.lc)).setCell ⟨w.heap.size, 3, none⟩ (.int .i64 e2.safe)).setCell ⟨w.heap.size, 4, none⟩ (.bool e2.down)) = w6 at *
        go_wp2
        go_roundg m
        case measure => omega
        case rel => exact ⟨j + 1, y3, e2, by go_num, by omega, by omega, V2.out, V4.out, VE.out, HSI.out, VF.out, by have h1 := HX.out; have h2 := Hn'.out; omega, by rw [Hu.out, HUU.out]⟩
      · go_simp
        skip
        (try go_wp2_with fail)
        refine hK.out _ _ ?_ (fun hHeld1 => ?_)
        · (exact trivial)
        clear hK K hHeld0
        (try simp only [Act.put, List.setIfInBounds_toArray, List.set_cons_zero, List.set_cons_succ])
        refine wpAnyH_ready (rs := [0, 3]) (by kernel_rfl) (by simp) ?_
        refine AllReadyH.cons (o := { dst := some 24, op := Go.Op.load 60 (Go.Operand.tmp 2), type := 60, pos := "l21_rise.go:35", after := #[], guard := none }) rfl (fun K hK => ?_) (AllReadyH.cons (o := { dst := some 27, op := Go.Op.call { callee := Go.Callee.value (Go.Operand.func 91), args := #[Go.Operand.tmp 26], argTypes := #[23] }, type := 3, pos := "l21_rise.go:35", after := #[{ on := 2, ground := Go.Ground.data }], guard := none }) rfl (fun K hK => ?_) AllReadyH.nil)
        · go_simp
          skip
          (try go_wp2_with fail)
          refine hK.out _ _ ?_ (fun hHeld2 => ?_)
          · (exact trivial)
          clear hK K hHeld1
          (try simp only [Act.put, List.setIfInBounds_toArray, List.set_cons_zero, List.set_cons_succ])
          refine wpAnyH_ready (rs := [3]) (by kernel_rfl) (by simp) ?_
          refine AllReadyH.cons (o := { dst := some 27, op := Go.Op.call { callee := Go.Callee.value (Go.Operand.func 91), args := #[Go.Operand.tmp 26], argTypes := #[23] }, type := 3, pos := "l21_rise.go:35", after := #[{ on := 2, ground := Go.Ground.data }], guard := none }) rfl (fun K hK => ?_) AllReadyH.nil
          go_simp
          refine (HFi.out wr.drew (HRd.out.below (wy_drew wr) hyl) hyl).mono ?_
          rintro en w9 ⟨rfl, rfl⟩
          (try go_wp2_with fail)
          refine hK.out _ _ ?_ (fun hHeld3 => ?_)
          · (exact trivial)
          clear hK K hHeld2
          (try simp only [Act.put, List.setIfInBounds_toArray, List.set_cons_zero, List.set_cons_succ])
          refine wpAnyH_ready (rs := [4]) (by kernel_rfl) (by simp) ?_
          refine AllReadyH.cons (o := { dst := some 28, op := Go.Op.call { callee := Go.Callee.value (Go.Operand.func 88), args := #[Go.Operand.tmp 24, Go.Operand.tmp 27], argTypes := #[60, 3] }, type := 60, pos := "l21_rise.go:35", after := #[{ on := 0, ground := Go.Ground.data }, { on := 3, ground := Go.Ground.data }, { on := 3, ground := Go.Ground.chain }], guard := none }) rfl (fun K hK => ?_) AllReadyH.nil
          go_simp
          refine (HS.out wr.drew hb2 (HE'.out.below (wy_drew wr))).mono ?_
          rintro en w3 ⟨y3, rfl, E3, F3⟩
          have n2 := (HE'.out.below (wy_drew wr)).ne_eng X2.out.drew
          have n4 := (HE'.out.below (wy_drew wr)).ne_eng X4.out.drew
          have Z2 := Lib.hid (F3.has X2.out.drew n2.1 n2.2)
          have Z4 := Lib.hid (F3.has X4.out.drew n4.1 n4.2)
          have ZF := Lib.hid ((HF.out.grow (wy_drew wr)).trans F3)
          have ZE := Lib.hid E3
          clear E3 F3 c0 c1 c2 c3 c4 f0 f1 f2 f3 f4 n2 n4
          obtain ⟨c0, c1, c2, c3, c4⟩ := Z2.out.five
          have f0 := Z2.out.frozen 0
          have f1 := Z2.out.frozen 1
          have f2 := Z2.out.frozen 2
          have f3 := Z2.out.frozen 3
          have f4 := Z2.out.frozen 4
          (try go_wp2_with fail)
          refine hK.out _ _ ?_ (fun hHeld4 => ?_)
          · (exact trivial)
          clear hK K hHeld3
          (try simp only [Act.put, List.setIfInBounds_toArray, List.set_cons_zero, List.set_cons_succ])
          refine wpAnyH_ready (rs := [5]) (by kernel_rfl) (by simp) ?_
          refine AllReadyH.cons (o := { dst := none, op := Go.Op.store 60 (Go.Operand.tmp 2) (Go.Operand.tmp 28), type := 0, pos := "l21_rise.go:35", after := #[{ on := 4, ground := Go.Ground.data }, { on := 4, ground := Go.Ground.chain }, { on := 0, ground := Go.Ground.phase }, { on := 1, ground := Go.Ground.phase }, { on := 2, ground := Go.Ground.phase }, { on := 3, ground := Go.Ground.phase }, { on := 4, ground := Go.Ground.phase }], guard := none }) rfl (fun K hK => ?_) AllReadyH.nil
          go_simp
          skip
          (try go_wp2_with fail)
          refine hK.out _ _ ?_ (fun hHeld5 => ?_)
          · (exact trivial)
          clear hK K hHeld4
          (try simp only [Act.put, List.setIfInBounds_toArray, List.set_cons_zero, List.set_cons_succ])
          refine wpAnyH_done (by kernel_rfl) ?_ _
          clear hHeld5
          have V2 : Hid (Has (((((w3.setCell ⟨w.heap.size, 0, none⟩ (.slice (some ⟨y3.db, 0, none⟩) 5 y3.dc)).setCell ⟨w.heap.size, 1, none⟩ (.slice (some ⟨y3.mb, 0, none⟩) 5 y3.mc)).setCell ⟨w.heap.size, 2, none⟩ (.slice (some ⟨y3.lb, 0, none⟩) e2.log.length y3.lc)).setCell ⟨w.heap.size, 3, none⟩ (.int .i64 e2.safe)).setCell ⟨w.heap.size, 4, none⟩ (.bool e2.down)) w.heap.size 60 (engC y3 e2)) := put5E_has Z2.out y3 e2
          have V4 : Hid (Has (((((w3.setCell ⟨w.heap.size, 0, none⟩ (.slice (some ⟨y3.db, 0, none⟩) 5 y3.dc)).setCell ⟨w.heap.size, 1, none⟩ (.slice (some ⟨y3.mb, 0, none⟩) 5 y3.mc)).setCell ⟨w.heap.size, 2, none⟩ (.slice (some ⟨y3.lb, 0, none⟩) e2.log.length y3.lc)).setCell ⟨w.heap.size, 3, none⟩ (.int .i64 e2.safe)).setCell ⟨w.heap.size, 4, none⟩ (.bool e2.down)) (w.heap.size + 1) 60 zeroEC) := Z4.out.keep (put5E_far (x := y3) (e := e2) (by omega))
          have VE : Hid (Eng (((((w3.setCell ⟨w.heap.size, 0, none⟩ (.slice (some ⟨y3.db, 0, none⟩) 5 y3.dc)).setCell ⟨w.heap.size, 1, none⟩ (.slice (some ⟨y3.mb, 0, none⟩) 5 y3.mc)).setCell ⟨w.heap.size, 2, none⟩ (.slice (some ⟨y3.lb, 0, none⟩) e2.log.length y3.lc)).setCell ⟨w.heap.size, 3, none⟩ (.int .i64 e2.safe)).setCell ⟨w.heap.size, 4, none⟩ (.bool e2.down)) base y3 e2) := ZE.out.box Z2.out (by simp) (fun i _ hn => put5E_far (x := y3) (e := e2) hn)
          have VF : Hid (Frm x w y3 (((((w3.setCell ⟨w.heap.size, 0, none⟩ (.slice (some ⟨y3.db, 0, none⟩) 5 y3.dc)).setCell ⟨w.heap.size, 1, none⟩ (.slice (some ⟨y3.mb, 0, none⟩) 5 y3.mc)).setCell ⟨w.heap.size, 2, none⟩ (.slice (some ⟨y3.lb, 0, none⟩) e2.log.length y3.lc)).setCell ⟨w.heap.size, 3, none⟩ (.int .i64 e2.safe)).setCell ⟨w.heap.size, 4, none⟩ (.bool e2.down))) := ZF.out.put5E (Nat.le_refl _) y3 e2
          clear Z2 Z4 ZF ZE c0 c1 c2 c3 c4 f0 f1 f2 f3 f4 X2 X4 HE' HF HRd HFi HS
          generalize (((((w3.setCell ⟨w.heap.size, 0, none⟩ (.slice (some ⟨y3.db, 0, none⟩) 5 y3.dc)).setCell ⟨w.heap.size, 1, none⟩ (.slice (some ⟨y3.mb, 0, none⟩) 5 y3.mc)).setCell ⟨w.heap.size, 2, none⟩ (.slice (some ⟨y3.lb, 0, none⟩) e2.log.length y3.lc)).setCell ⟨w.heap.size, 3, none⟩ (.int .i64 e2.safe)).setCell ⟨w.heap.size, 4, none⟩ (.bool e2.down)) = w6 at *
          go_wp2
          go_roundg m
          case measure => omega
          case rel => exact ⟨j + 1, y3, e2, by go_num, by omega, by omega, V2.out, V4.out, VE.out, HSI.out, VF.out, by have h1 := HX.out; have h2 := Hn'.out; omega, by rw [Hu.out, HUU.out]⟩
        · go_simp
          refine (HFi.out wr.drew (HRd.out.below (wy_drew wr) hyl) hyl).mono ?_
          rintro en w9 ⟨rfl, rfl⟩
          (try go_wp2_with fail)
          refine hK.out _ _ ?_ (fun hHeld2 => ?_)
          · (exact trivial)
          clear hK K hHeld1
          (try simp only [Act.put, List.setIfInBounds_toArray, List.set_cons_zero, List.set_cons_succ])
          refine wpAnyH_ready (rs := [0]) (by kernel_rfl) (by simp) ?_
          refine AllReadyH.cons (o := { dst := some 24, op := Go.Op.load 60 (Go.Operand.tmp 2), type := 60, pos := "l21_rise.go:35", after := #[], guard := none }) rfl (fun K hK => ?_) AllReadyH.nil
          go_simp
          skip
          (try go_wp2_with fail)
          refine hK.out _ _ ?_ (fun hHeld3 => ?_)
          · (exact trivial)
          clear hK K hHeld2
          (try simp only [Act.put, List.setIfInBounds_toArray, List.set_cons_zero, List.set_cons_succ])
          refine wpAnyH_ready (rs := [4]) (by kernel_rfl) (by simp) ?_
          refine AllReadyH.cons (o := { dst := some 28, op := Go.Op.call { callee := Go.Callee.value (Go.Operand.func 88), args := #[Go.Operand.tmp 24, Go.Operand.tmp 27], argTypes := #[60, 3] }, type := 60, pos := "l21_rise.go:35", after := #[{ on := 0, ground := Go.Ground.data }, { on := 3, ground := Go.Ground.data }, { on := 3, ground := Go.Ground.chain }], guard := none }) rfl (fun K hK => ?_) AllReadyH.nil
          go_simp
          refine (HS.out wr.drew hb2 (HE'.out.below (wy_drew wr))).mono ?_
          rintro en w3 ⟨y3, rfl, E3, F3⟩
          have n2 := (HE'.out.below (wy_drew wr)).ne_eng X2.out.drew
          have n4 := (HE'.out.below (wy_drew wr)).ne_eng X4.out.drew
          have Z2 := Lib.hid (F3.has X2.out.drew n2.1 n2.2)
          have Z4 := Lib.hid (F3.has X4.out.drew n4.1 n4.2)
          have ZF := Lib.hid ((HF.out.grow (wy_drew wr)).trans F3)
          have ZE := Lib.hid E3
          clear E3 F3 c0 c1 c2 c3 c4 f0 f1 f2 f3 f4 n2 n4
          obtain ⟨c0, c1, c2, c3, c4⟩ := Z2.out.five
          have f0 := Z2.out.frozen 0
          have f1 := Z2.out.frozen 1
          have f2 := Z2.out.frozen 2
          have f3 := Z2.out.frozen 3
          have f4 := Z2.out.frozen 4
          (try go_wp2_with fail)
          refine hK.out _ _ ?_ (fun hHeld4 => ?_)
          · (exact trivial)
          clear hK K hHeld3
          (try simp only [Act.put, List.setIfInBounds_toArray, List.set_cons_zero, List.set_cons_succ])
          refine wpAnyH_ready (rs := [5]) (by kernel_rfl) (by simp) ?_
          refine AllReadyH.cons (o := { dst := none, op := Go.Op.store 60 (Go.Operand.tmp 2) (Go.Operand.tmp 28), type := 0, pos := "l21_rise.go:35", after := #[{ on := 4, ground := Go.Ground.data }, { on := 4, ground := Go.Ground.chain }, { on := 0, ground := Go.Ground.phase }, { on := 1, ground := Go.Ground.phase }, { on := 2, ground := Go.Ground.phase }, { on := 3, ground := Go.Ground.phase }, { on := 4, ground := Go.Ground.phase }], guard := none }) rfl (fun K hK => ?_) AllReadyH.nil
          go_simp
          skip
          (try go_wp2_with fail)
          refine hK.out _ _ ?_ (fun hHeld5 => ?_)
          · (exact trivial)
          clear hK K hHeld4
          (try simp only [Act.put, List.setIfInBounds_toArray, List.set_cons_zero, List.set_cons_succ])
          refine wpAnyH_done (by kernel_rfl) ?_ _
          clear hHeld5
          have V2 : Hid (Has (((((w3.setCell ⟨w.heap.size, 0, none⟩ (.slice (some ⟨y3.db, 0, none⟩) 5 y3.dc)).setCell ⟨w.heap.size, 1, none⟩ (.slice (some ⟨y3.mb, 0, none⟩) 5 y3.mc)).setCell ⟨w.heap.size, 2, none⟩ (.slice (some ⟨y3.lb, 0, none⟩) e2.log.length y3.lc)).setCell ⟨w.heap.size, 3, none⟩ (.int .i64 e2.safe)).setCell ⟨w.heap.size, 4, none⟩ (.bool e2.down)) w.heap.size 60 (engC y3 e2)) := put5E_has Z2.out y3 e2
          have V4 : Hid (Has (((((w3.setCell ⟨w.heap.size, 0, none⟩ (.slice (some ⟨y3.db, 0, none⟩) 5 y3.dc)).setCell ⟨w.heap.size, 1, none⟩ (.slice (some ⟨y3.mb, 0, none⟩) 5 y3.mc)).setCell ⟨w.heap.size, 2, none⟩ (.slice (some ⟨y3.lb, 0, none⟩) e2.log.length y3.lc)).setCell ⟨w.heap.size, 3, none⟩ (.int .i64 e2.safe)).setCell ⟨w.heap.size, 4, none⟩ (.bool e2.down)) (w.heap.size + 1) 60 zeroEC) := Z4.out.keep (put5E_far (x := y3) (e := e2) (by omega))
          have VE : Hid (Eng (((((w3.setCell ⟨w.heap.size, 0, none⟩ (.slice (some ⟨y3.db, 0, none⟩) 5 y3.dc)).setCell ⟨w.heap.size, 1, none⟩ (.slice (some ⟨y3.mb, 0, none⟩) 5 y3.mc)).setCell ⟨w.heap.size, 2, none⟩ (.slice (some ⟨y3.lb, 0, none⟩) e2.log.length y3.lc)).setCell ⟨w.heap.size, 3, none⟩ (.int .i64 e2.safe)).setCell ⟨w.heap.size, 4, none⟩ (.bool e2.down)) base y3 e2) := ZE.out.box Z2.out (by simp) (fun i _ hn => put5E_far (x := y3) (e := e2) hn)
          have VF : Hid (Frm x w y3 (((((w3.setCell ⟨w.heap.size, 0, none⟩ (.slice (some ⟨y3.db, 0, none⟩) 5 y3.dc)).setCell ⟨w.heap.size, 1, none⟩ (.slice (some ⟨y3.mb, 0, none⟩) 5 y3.mc)).setCell ⟨w.heap.size, 2, none⟩ (.slice (some ⟨y3.lb, 0, none⟩) e2.log.length y3.lc)).setCell ⟨w.heap.size, 3, none⟩ (.int .i64 e2.safe)).setCell ⟨w.heap.size, 4, none⟩ (.bool e2.down))) := ZF.out.put5E (Nat.le_refl _) y3 e2
          clear Z2 Z4 ZF ZE c0 c1 c2 c3 c4 f0 f1 f2 f3 f4 X2 X4 HE' HF HRd HFi HS
          generalize (((((w3.setCell ⟨w.heap.size, 0, none⟩ (.slice (some ⟨y3.db, 0, none⟩) 5 y3.dc)).setCell ⟨w.heap.size, 1, none⟩ (.slice (some ⟨y3.mb, 0, none⟩) 5 y3.mc)).setCell ⟨w.heap.size, 2, none⟩ (.slice (some ⟨y3.lb, 0, none⟩) e2.log.length y3.lc)).setCell ⟨w.heap.size, 3, none⟩ (.int .i64 e2.safe)).setCell ⟨w.heap.size, 4, none⟩ (.bool e2.down)) = w6 at *
          go_wp2
          go_roundg m
          case measure => omega
          case rel => exact ⟨j + 1, y3, e2, by go_num, by omega, by omega, V2.out, V4.out, VE.out, HSI.out, VF.out, by have h1 := HX.out; have h2 := Hn'.out; omega, by rw [Hu.out, HUU.out]⟩
    case neg =>
      by_cases hfi0 : fi = 0
      · subst hfi0
        have HUU : Hid (upN (ns - j) e' = e') := by
          show upN (ns - j) e' = _
          cases hm : ns - j with
          | zero => rfl
          | succ m =>
            show (if firstE e'.log = 0 then e' else upN m (stepE e' (firstE e'.log))) = _
            rw [Hfi.out, if_pos rfl]
        by_cases hj : (j : Int) < (ns : Int)
        · go_upto_region 9 with (go_at_call 91; refine (HFi.out _ HRd.out hyl).mono ?_; rintro en w9 ⟨rfl, rfl⟩)
          have HL : Hid (liveE e' = ⟨e'.disk, e'.mem, e'.log, e'.safe, false⟩) := rfl
          have HF1 : Hid (upE e (ns : Int) = (⟨e'.disk, e'.mem, e'.log, e'.safe, false⟩, true)) := by
            show upE e (ns : Int) = _
            rw [HU.out, Hu.out, HUU.out, Hfi.out, if_pos rfl]
            rfl
          have T2 : Hid (Has (wr.setCell ⟨w.heap.size, 4, none⟩ (.bool false)) w.heap.size 60 (engC y ⟨e'.disk, e'.mem, e'.log, e'.safe, false⟩)) := X2.out.set 4 _
          have T4 : Hid (Has (wr.setCell ⟨w.heap.size, 4, none⟩ (.bool false)) (w.heap.size + 1) 60 zeroEC) := X4.out.far (by simp) _
          have TE : Hid (Eng (wr.setCell ⟨w.heap.size, 4, none⟩ (.bool false)) base y ⟨e'.disk, e'.mem, e'.log, e'.safe, false⟩) := (HE'.out.of (e' := ⟨e'.disk, e'.mem, e'.log, e'.safe, false⟩) rfl rfl rfl).box X2.out (by simp) (fun i _ hn => Below.heap_setCell _ _ _ _ (by simpa using hn))
          have TF : Hid (Frm x w y (wr.setCell ⟨w.heap.size, 4, none⟩ (.bool false))) := HF.out.setCell (.inl (Nat.le_refl _)) _ _
          go_upto_region 10 with (fail)
          generalize (wr.setCell ⟨w.heap.size, 4, none⟩ (.bool false)) = w5 at *
          clear c0 c1 c2 c3 c4 f0 f1 f2 f3 f4 X2 X4 HE' HF
          obtain ⟨c0, c1, c2, c3, c4⟩ := T2.out.five
          obtain ⟨y0, y1, y2, y3, y4⟩ := T4.out.five
          have t0 := T4.out.frozen 0
          have t1 := T4.out.frozen 1
          have t2 := T4.out.frozen 2
          have t3 := T4.out.frozen 3
          have t4 := T4.out.frozen 4
          go_wp2
          refine bodyPost_ret (v := .tuple #[engV y ⟨e'.disk, e'.mem, e'.log, e'.safe, false⟩, .bool true]) (by simp [results, Try.results74, go_sem, y0, y1, y2, y3, y4]) rfl ⟨y, by rw [HF1.out], ?_, TF.out.put5E (by omega) y ⟨e'.disk, e'.mem, e'.log, e'.safe, false⟩⟩
          rw [HF1.out]
          exact TE.out.box T4.out (by simp) (fun i _ hn => put5E_far (x := y) (e := ⟨e'.disk, e'.mem, e'.log, e'.safe, false⟩) hn)
        · go_upto_region 9 with (go_at_call 91; refine (HFi.out _ HRd.out hyl).mono ?_; rintro en w9 ⟨rfl, rfl⟩)
          have HL : Hid (liveE e' = ⟨e'.disk, e'.mem, e'.log, e'.safe, false⟩) := rfl
          have HF1 : Hid (upE e (ns : Int) = (⟨e'.disk, e'.mem, e'.log, e'.safe, false⟩, true)) := by
            show upE e (ns : Int) = _
            rw [HU.out, Hu.out, HUU.out, Hfi.out, if_pos rfl]
            rfl
          have T2 : Hid (Has (wr.setCell ⟨w.heap.size, 4, none⟩ (.bool false)) w.heap.size 60 (engC y ⟨e'.disk, e'.mem, e'.log, e'.safe, false⟩)) := X2.out.set 4 _
          have T4 : Hid (Has (wr.setCell ⟨w.heap.size, 4, none⟩ (.bool false)) (w.heap.size + 1) 60 zeroEC) := X4.out.far (by simp) _
          have TE : Hid (Eng (wr.setCell ⟨w.heap.size, 4, none⟩ (.bool false)) base y ⟨e'.disk, e'.mem, e'.log, e'.safe, false⟩) := (HE'.out.of (e' := ⟨e'.disk, e'.mem, e'.log, e'.safe, false⟩) rfl rfl rfl).box X2.out (by simp) (fun i _ hn => Below.heap_setCell _ _ _ _ (by simpa using hn))
          have TF : Hid (Frm x w y (wr.setCell ⟨w.heap.size, 4, none⟩ (.bool false))) := HF.out.setCell (.inl (Nat.le_refl _)) _ _
          go_upto_region 10 with (fail)
          generalize (wr.setCell ⟨w.heap.size, 4, none⟩ (.bool false)) = w5 at *
          clear c0 c1 c2 c3 c4 f0 f1 f2 f3 f4 X2 X4 HE' HF
          obtain ⟨c0, c1, c2, c3, c4⟩ := T2.out.five
          obtain ⟨y0, y1, y2, y3, y4⟩ := T4.out.five
          have t0 := T4.out.frozen 0
          have t1 := T4.out.frozen 1
          have t2 := T4.out.frozen 2
          have t3 := T4.out.frozen 3
          have t4 := T4.out.frozen 4
          go_wp2
          refine bodyPost_ret (v := .tuple #[engV y ⟨e'.disk, e'.mem, e'.log, e'.safe, false⟩, .bool true]) (by simp [results, Try.results74, go_sem, y0, y1, y2, y3, y4]) rfl ⟨y, by rw [HF1.out], ?_, TF.out.put5E (by omega) y ⟨e'.disk, e'.mem, e'.log, e'.safe, false⟩⟩
          rw [HF1.out]
          exact TE.out.box T4.out (by simp) (fun i _ hn => put5E_far (x := y) (e := ⟨e'.disk, e'.mem, e'.log, e'.safe, false⟩) hn)
      · have hjn : j = ns := by omega
        subst hjn
        have HUU : Hid (upN (j - j) e' = e') := by
          show upN (j - j) e' = _
          rw [Nat.sub_self]
          rfl
        have hfi1 : 0 < fi := by omega
        go_upto_region 7 with (go_at_call 91; refine (HFi.out _ HRd.out hyl).mono ?_; rintro en w9 ⟨rfl, rfl⟩)
        have HF1 : Hid (upE e (j : Int) = (⟨e'.disk, e'.disk, e'.log, e'.safe, e'.down⟩, false)) := by
          show upE e (j : Int) = _
          rw [HU.out, Hu.out, HUU.out, Hfi.out, if_neg hfi0]
          rfl
        go_wp2_with fail
        refine (copyPages5 base y.db y.dc e'.disk _ HE'.out.d HI'.out.d5 (three_all HI'.out).1).mono ?_
        rintro en w3 ⟨bm, cm, rfl, b3, p3⟩
        have V2 := Lib.hid (X2.out.below b3 X2.out.lt)
        have V4 := Lib.hid (X4.out.below b3 X4.out.lt)
        have VF := Lib.hid (HF.out.grow b3)
        have VP := Lib.hid p3
        have VE := Lib.hid (HE'.out.below b3)
        have hdb := (HE'.out.d.lt).2
        have hbm := p3.lt.1
        have hwr := HF.out.size
        clear b3 p3 c0 c1 c2 c3 c4 f0 f1 f2 f3 f4
        obtain ⟨c0, c1, c2, c3, c4⟩ := V2.out.five
        have f1 := V2.out.frozen 1
        have T2 : Hid (Has (w3.setCell ⟨w.heap.size, 1, none⟩ (.slice (some ⟨bm, 0, none⟩) 5 cm)) w.heap.size 60 (engC ⟨y.db, y.dc, bm, cm, y.lb, y.lc⟩ ⟨e'.disk, e'.disk, e'.log, e'.safe, e'.down⟩)) := V2.out.set 1 _
        have T4 : Hid (Has (w3.setCell ⟨w.heap.size, 1, none⟩ (.slice (some ⟨bm, 0, none⟩) 5 cm)) (w.heap.size + 1) 60 zeroEC) := V4.out.far (by simp) _
        have TE : Hid (Eng (w3.setCell ⟨w.heap.size, 1, none⟩ (.slice (some ⟨bm, 0, none⟩) 5 cm)) base ⟨y.db, y.dc, bm, cm, y.lb, y.lc⟩ ⟨e'.disk, e'.disk, e'.log, e'.safe, e'.down⟩) := by
          have E1 : Eng w3 base ⟨y.db, y.dc, bm, cm, y.lb, y.lc⟩ ⟨e'.disk, e'.disk, e'.log, e'.safe, e'.down⟩ := ⟨VE.out.d, VP.out.down (by omega), VE.out.l, by show y.db ≠ bm; omega⟩
          exact E1.box V2.out (by simp) (fun i _ hn => Below.heap_setCell _ _ _ _ (by simpa using hn))
        have TF : Hid (Frm x w ⟨y.db, y.dc, bm, cm, y.lb, y.lc⟩ (w3.setCell ⟨w.heap.size, 1, none⟩ (.slice (some ⟨bm, 0, none⟩) 5 cm))) := by
          have k := VF.out.setCell (b := w.heap.size) (.inl (Nat.le_refl _)) 1 (.slice (some ⟨bm, 0, none⟩) 5 cm)
          exact ⟨k.os, k.tape, k.output, k.size, k.block, k.db, .inr (by show w.heap.size ≤ bm; omega)⟩
        go_upto_region 8 with (fail)
        generalize (w3.setCell ⟨w.heap.size, 1, none⟩ (.slice (some ⟨bm, 0, none⟩) 5 cm)) = w5 at *
        clear c0 c1 c2 c3 c4 f1 X2 X4 HE' HF V2 V4 VF VP VE
        obtain ⟨c0, c1, c2, c3, c4⟩ := T2.out.five
        obtain ⟨y0, y1, y2, y3, y4⟩ := T4.out.five
        have t0 := T4.out.frozen 0
        have t1 := T4.out.frozen 1
        have t2 := T4.out.frozen 2
        have t3 := T4.out.frozen 3
        have t4 := T4.out.frozen 4
        go_wp2
        refine bodyPost_ret (v := .tuple #[engV ⟨y.db, y.dc, bm, cm, y.lb, y.lc⟩ ⟨e'.disk, e'.disk, e'.log, e'.safe, e'.down⟩, .bool false]) (by simp [results, Try.results74, go_sem, y0, y1, y2, y3, y4]) rfl ⟨⟨y.db, y.dc, bm, cm, y.lb, y.lc⟩, by rw [HF1.out], ?_, TF.out.put5E (by omega) ⟨y.db, y.dc, bm, cm, y.lb, y.lc⟩ ⟨e'.disk, e'.disk, e'.log, e'.safe, e'.down⟩⟩
        rw [HF1.out]
        exact TE.out.box T4.out (by simp) (fun i _ hn => put5E_far (x := ⟨y.db, y.dc, bm, cm, y.lb, y.lc⟩) (e := ⟨e'.disk, e'.disk, e'.log, e'.safe, e'.down⟩) hn)
end Go.Proofs.Ytejbmjdipfcblaa.Base
