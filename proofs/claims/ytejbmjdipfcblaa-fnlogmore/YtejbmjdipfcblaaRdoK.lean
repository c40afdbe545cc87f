/-
  Contract of the model's l11Redo. Conditions: the slices lead to five pages and to a log.
-/
import Derived.Test.YtejbmjdipfcblaaAddK
namespace Go.Proofs.Ytejbmjdipfcblaa.Base
open Go.RowKit

set_option maxRecDepth 100000 in
set_option maxHeartbeats 2000000 in
theorem l11Redo_any (base b c : Nat) (xs : List PP) (rs : List R) (lb cap : Nat) (w : World) (hp : Ps5 w base b c xs) (hx : PsOk xs rs.length) (hl : logB rs = true) (hr : RdR w lb 0 rs) (hlb : lb < w.heap.size) :
    Calls Try.prog 90 #[.slice (some ⟨b, 0, none⟩) 5 c, .slice (some ⟨lb, 0, none⟩) rs.length cap] w (Gives5 (redoN rs xs rs.length) w) := by
  have HP := Lib.hid hp
  have HX := Lib.hid hx
  have HL := Lib.hid hl
  have HRd := Lib.hid hr
  have hl150 := log_len hl
  clear hp hx hl hr
  go_enter Try.func90, Try.ntmps90
  go_wp2_with fail
  refine (copyPages5 base b c xs _ HP.out HX.out.1 (fun q hq => (HX.out.2 q hq).1.n)).mono ?_
  rintro en w1 ⟨bo, co, rfl, b1, p1⟩
  have B1 := Lib.hid b1
  have P1 := Lib.hid p1
  clear b1 p1
  go_wp2_with fail
  go_loopw [6] (fun i wx => ∃ k : Nat, k ≤ rs.length ∧ i = .int .i64 (k : Int) ∧ Below w.heap.size w wx ∧ Ps5 wx w.heap.size bo co (redoN rs xs k)) (fun i _ => rs.length - (intOf i).toNat)
  case atStart => exact ⟨0, Nat.zero_le _, rfl, B1.out, P1.out⟩
  case round =>
    obtain ⟨k, hk, rfl, hb, hps⟩ := hrel
    clear B1 P1
    have Hb := Lib.hid hb
    have Hp := Lib.hid hps
    have hs := hb.size
    by_cases hlt : k < rs.length
    · have hok := Lib.hid (redoN_ok HL.out HX.out k hk)
      have hst := log_step HL.out hlt
      have hA := (HRd.out.below hb hlb) k hlt
      rw [Nat.zero_add] at hA
      have H1 : Hid (redoN rs xs (k + 1) = redo1 (redoN rs xs k) (recAt rs k) k) := rfl
      have klt : (k : Int) < (rs.length : Int) := by omega
      have k0 : (0 : Int) ≤ (k : Int) := by omega
      have wk1 : IntKind.i64.wrap ((k : Int) + 1) = (k : Int) + 1 := IntWalk.i64_in _ (by omega)
      have Hst := Lib.hid hst
      clear hb hps hst
      generalize recAt rs k = r at *
      obtain ⟨c0, c1, c2, c3, c4, c5, c6, c7⟩ := hA
      have X7 := Lib.hid (Has.new wr 27 (recC r))
      have B7 := Lib.hid (Hb.out.alloc hs (.cells (recC r) 27))
      have P7 := Lib.hid (Hp.out.below (below_one wr (.cells (recC r) 27)))
      go_upto_region 6 with (fail)
      clear Hb Hp c0 c1 c2 c3 c4 c5 c6 c7
      have hb7 : w.heap.size ≤ wr.heap.size := hs
      generalize (wr.alloc (.cells (recC r) 27)) = w2 at *
      generalize hgb : wr.heap.size = g7 at *
      clear hgb
      obtain ⟨d0, d1, d2, d3, d4, d5, d6, d7⟩ := eight X7.out
      go_wp2_with fail
      refine (l2Changes_any r.k _).mono ?_
      rintro en w9 ⟨rfl, rfl⟩
      cases hc : chg r.k
      · have HS : Hid (redoN rs xs (k + 1) = redoN rs xs k) := by show redoN rs xs (k + 1) = _; rw [H1.out]; unfold redo1; rw [hc]; rfl
        go_wp2
        exact ⟨⟨k + 1, by omega, by go_num, B7.out, by rw [HS.out]; exact P7.out⟩, by simp [intOf]; omega⟩
      · obtain ⟨hfit, p0, p4⟩ := okR_fit Hst.out.1 hc
        have s01 : -1 ≤ r.s ∧ r.s ≤ 2 := by
          rcases hfit with h | h
          · omega
          · omega
        obtain ⟨j, hj⟩ := Int.eq_ofNat_of_zero_le p0
        have hj5 : j < 5 := by omega
        obtain ⟨pg, hin, hsay, hlow⟩ := P7.out.at_ hok.out.1 hj5
        have hokp : okPP (pgE (redoN rs xs k) j) := (hok.out.2 _ (mem_at hok.out.1 (Int.natCast_nonneg j) (by omega))).1
        obtain ⟨za, zb, zc, hz3⟩ := okPP_three hokp
        rw [hsay] at hz3
        obtain ⟨pl, po, pgb, pq, pc, pz⟩ := pg
        simp only [Pg.says] at hz3
        subst hz3
        have HSS : Hid (redoN rs xs (k + 1) = if decide (pl < (k : Int) + 1) then (redoN rs xs k).set j (doPP (pl, po, [za, zb, zc]) r ((k : Int) + 1)) else redoN rs xs k) := by
          show redoN rs xs (k + 1) = _
          rw [H1.out]
          unfold redo1
          rw [hc, hj, hsay]
          simp only [Pg.says, Bool.true_and, Int.toNat_natCast]
          rfl
        have In := Lib.hid hin
        have m0 := hin.c0
        have m1 := hin.c1
        have m2 := hin.c2
        simp only [List.length_cons, List.length_nil, Nat.zero_add, Nat.reduceAdd] at m0 m1 m2
        have lpg : pgb < w2.heap.size := hin.wr.1
        obtain ⟨cs, hrb⟩ := P7.out.has
        have HRb : Hid (Has w2 bo 94 cs) := hrb
        have j0 : (0 : Int) ≤ (j : Int) := by omega
        have j5 : (j : Int) < 5 := by omega
        have X7k : Hid (Has w2 g7 27 (recC ⟨r.k, r.t, (j : Int), r.s, r.o, r.n, r.v, r.x⟩)) := by
          have h := X7.out
          show Has w2 g7 27 #[.int .i64 r.k, .int .i64 r.t, .int .i64 (j : Int), .int .i64 r.s, .int .i64 r.o, .int .i64 r.n, .int .i64 r.v, .int .i64 r.x]
          rw [← hj]
          exact h
        clear d0 d1 d2 d3 d4 d5 d6 d7 hin hj hc hfit hokp hsay X7 p0 p4 hrb H1
        obtain ⟨d0, d1, d2, d3, d4, d5, d6, d7⟩ := eight X7k.out
        by_cases hlsn : pl < (k : Int) + 1
        case neg =>
          have HS : Hid (redoN rs xs (k + 1) = redoN rs xs k) := by show redoN rs xs (k + 1) = _; rw [HSS.out, if_neg (by simpa using hlsn)]
          have bl : decide (pl < (k : Int) + 1) = false := by simpa using hlsn
          clear hlsn
          go_wp2
          exact ⟨⟨k + 1, by omega, by go_num, B7.out, by rw [HS.out]; exact P7.out⟩, by simp [intOf]; omega⟩
        case pos =>
          have HS : Hid (redoN rs xs (k + 1) = (redoN rs xs k).set j (doPP (pl, po, [za, zb, zc]) r ((k : Int) + 1))) := by show redoN rs xs (k + 1) = _; rw [HSS.out, if_pos (by simpa using hlsn)]
          have bl : decide (pl < (k : Int) + 1) = true := by simpa using hlsn
          have Y7 : Hid (Has w2.drew g7 27 (recC ⟨r.k, r.t, (j : Int), r.s, r.o, r.n, r.v, r.x⟩)) := X7k.out.drew
          have YB : Hid (Below w.heap.size w w2.drew) := B7.out.drew
          have YP : Hid (Ps5 w2.drew w.heap.size bo co (redoN rs xs k)) := P7.out.below (wy_drew w2)
          have InY : Hid (PgIn w2.drew bo j ⟨pl, po, pgb, pq, pc, [za, zb, zc]⟩) := In.out.keep (Nat.le_refl _) rfl rfl
          have YR : Hid (Has w2.drew bo 94 cs) := HRb.out.drew
          have l6 : w.heap.size ≤ w2.drew.heap.size := YB.out.size
          have ne7 : g7 ≠ bo := Has.ne_kind X7k.out HRb.out (by decide)
          have lbo := P7.out.lt.1
          clear hlsn HSS
          go_upto_region 7 with (fail)
          refine wp_region_held_drew (S := (fun w' => w'.cell? ⟨g7, 0, none⟩ = some (.int .i64 r.k) ∧ w'.cell? ⟨g7, 1, none⟩ = some (.int .i64 r.t) ∧ w'.cell? ⟨g7, 2, none⟩ = some (.int .i64 (j : Int)) ∧ w'.cell? ⟨g7, 3, none⟩ = some (.int .i64 r.s) ∧ w'.cell? ⟨g7, 4, none⟩ = some (.int .i64 r.o) ∧ w'.cell? ⟨g7, 5, none⟩ = some (.int .i64 r.n) ∧ w'.cell? ⟨g7, 6, none⟩ = some (.int .i64 r.v) ∧ w'.cell? ⟨g7, 7, none⟩ = some (.int .i64 r.x))) (by kernel_rfl) ?_ (fun hHeld0 => ?_)
          · (first | (with_reducible exact eight Y7.out) | (with_reducible exact eight Z7.out) | (with_reducible exact eight T7.out) | exact eight Y7.out)
          refine wpAnyH_take (i := 0) (oi := { dst := some 34, op := Go.Op.move (Go.Operand.tmp 5), type := 58, pos := "l11_engine.go:25", after := #[], guard := none }) (v := ?_) rfl (by kernel_rfl) (by kernel_rfl) (by kernel_rfl) (fun _ _ _ h => h) (Or.inl ⟨by rfl, ?_⟩) hHeld0 ?_
          rotate_left
          · (intro w hSw; (try dsimp only at hSw); go_simp; (first | done | (with_reducible rfl) | (rw [if_neg (by omega)]) | (rw [if_neg (by simp only [ByteArray.size_append]; omega)])))
          (try simp only [Act.put, List.setIfInBounds_toArray, List.set_cons_zero, List.set_cons_succ])
          refine wpAnyH_take (i := 1) (oi := { dst := some 35, op := Go.Op.fieldAddr 27 (Go.Operand.tmp 7) 2, type := 0, pos := "l11_engine.go:25", after := #[], guard := none }) (v := ?_) rfl (by kernel_rfl) (by kernel_rfl) (by kernel_rfl) (fun _ _ _ h => h) (Or.inl ⟨by rfl, ?_⟩) hHeld0 ?_
          rotate_left
          · (intro w hSw; (try dsimp only at hSw); go_simp; (first | done | (with_reducible rfl) | (rw [if_neg (by omega)]) | (rw [if_neg (by simp only [ByteArray.size_append]; omega)])))
          (try simp only [Act.put, List.setIfInBounds_toArray, List.set_cons_zero, List.set_cons_succ])
          refine wpAnyH_take (i := 2) (oi := { dst := some 36, op := Go.Op.load 3 (Go.Operand.tmp 35), type := 3, pos := "l11_engine.go:25", after := #[{ on := 1, ground := Go.Ground.data }], guard := none }) (v := ?_) rfl (by kernel_rfl) (by kernel_rfl) (by kernel_rfl) (fun _ _ _ h => h) (Or.inl ⟨by rfl, ?_⟩) hHeld0 ?_
          rotate_left
          · (intro w hSw; (try dsimp only at hSw); go_simp; (first | done | (with_reducible rfl) | (rw [if_neg (by omega)]) | (rw [if_neg (by simp only [ByteArray.size_append]; omega)])))
          (try simp only [Act.put, List.setIfInBounds_toArray, List.set_cons_zero, List.set_cons_succ])
          refine wpAnyH_take (i := 3) (oi := { dst := some 37, op := Go.Op.move (Go.Operand.tmp 5), type := 58, pos := "l11_engine.go:25", after := #[], guard := none }) (v := ?_) rfl (by kernel_rfl) (by kernel_rfl) (by kernel_rfl) (fun _ _ _ h => h) (Or.inl ⟨by rfl, ?_⟩) hHeld0 ?_
          rotate_left
          · (intro w hSw; (try dsimp only at hSw); go_simp; (first | done | (with_reducible rfl) | (rw [if_neg (by omega)]) | (rw [if_neg (by simp only [ByteArray.size_append]; omega)])))
          (try simp only [Act.put, List.setIfInBounds_toArray, List.set_cons_zero, List.set_cons_succ])
          refine wpAnyH_take (i := 4) (oi := { dst := some 38, op := Go.Op.fieldAddr 27 (Go.Operand.tmp 7) 2, type := 0, pos := "l11_engine.go:25", after := #[], guard := none }) (v := ?_) rfl (by kernel_rfl) (by kernel_rfl) (by kernel_rfl) (fun _ _ _ h => h) (Or.inl ⟨by rfl, ?_⟩) hHeld0 ?_
          rotate_left
          · (intro w hSw; (try dsimp only at hSw); go_simp; (first | done | (with_reducible rfl) | (rw [if_neg (by omega)]) | (rw [if_neg (by simp only [ByteArray.size_append]; omega)])))
          (try simp only [Act.put, List.setIfInBounds_toArray, List.set_cons_zero, List.set_cons_succ])
          refine wpAnyH_take (i := 5) (oi := { dst := some 39, op := Go.Op.load 3 (Go.Operand.tmp 38), type := 3, pos := "l11_engine.go:25", after := #[{ on := 4, ground := Go.Ground.data }], guard := none }) (v := ?_) rfl (by kernel_rfl) (by kernel_rfl) (by kernel_rfl) (fun _ _ _ h => h) (Or.inl ⟨by rfl, ?_⟩) hHeld0 ?_
          rotate_left
          · (intro w hSw; (try dsimp only at hSw); go_simp; (first | done | (with_reducible rfl) | (rw [if_neg (by omega)]) | (rw [if_neg (by simp only [ByteArray.size_append]; omega)])))
          (try simp only [Act.put, List.setIfInBounds_toArray, List.set_cons_zero, List.set_cons_succ])
          refine wpAnyH_take (i := 6) (oi := { dst := some 40, op := Go.Op.indexAddr 58 (Go.Operand.tmp 37) (Go.Operand.tmp 39), type := 0, pos := "l11_engine.go:25", after := #[{ on := 3, ground := Go.Ground.data }, { on := 5, ground := Go.Ground.data }], guard := none }) (v := ?_) rfl (by kernel_rfl) (by kernel_rfl) (by kernel_rfl) (fun _ _ _ h => h) (Or.inl ⟨by rfl, ?_⟩) hHeld0 ?_
          rotate_left
          · (intro w hSw; (try dsimp only at hSw); go_simp; (first | done | (with_reducible rfl) | (rw [if_neg (by omega)]) | (rw [if_neg (by simp only [ByteArray.size_append]; omega)])))
          (try simp only [Act.put, List.setIfInBounds_toArray, List.set_cons_zero, List.set_cons_succ])
          refine wpAnyH_take (i := 8) (oi := { dst := some 42, op := Go.Op.load 27 (Go.Operand.tmp 7), type := 27, pos := "l11_engine.go:25", after := #[], guard := none }) (v := ?_) rfl (by kernel_rfl) (by kernel_rfl) (by kernel_rfl) (fun _ _ _ h => h) (Or.inl ⟨by rfl, ?_⟩) hHeld0 ?_
          rotate_left
          · (intro w hSw; (try dsimp only at hSw); go_simp; (first | done | (with_reducible rfl) | (rw [if_neg (by omega)]) | (rw [if_neg (by simp only [ByteArray.size_append]; omega)])))
          (try simp only [Act.put, List.setIfInBounds_toArray, List.set_cons_zero, List.set_cons_succ])
          refine wpAnyH_take (i := 9) (oi := { dst := some 43, op := Go.Op.move (Go.Operand.tmp 6), type := 3, pos := "l11_engine.go:25", after := #[], guard := none }) (v := ?_) rfl (by kernel_rfl) (by kernel_rfl) (by kernel_rfl) (fun _ _ _ h => h) (Or.inl ⟨by rfl, ?_⟩) hHeld0 ?_
          rotate_left
          · (intro w hSw; (try dsimp only at hSw); go_simp; (first | done | (with_reducible rfl) | (rw [if_neg (by omega)]) | (rw [if_neg (by simp only [ByteArray.size_append]; omega)])))
          (try simp only [Act.put, List.setIfInBounds_toArray, List.set_cons_zero, List.set_cons_succ])
          refine wpAnyH_take (i := 10) (oi := { dst := some 44, op := Go.Op.binOp Go.BinOp.add 3 (Go.Operand.tmp 43) (Go.Operand.const (Go.Value.int Go.IntKind.i64 1)) 3, type := 3, pos := "l11_engine.go:25", after := #[{ on := 9, ground := Go.Ground.data }], guard := none }) (v := ?_) rfl (by kernel_rfl) (by kernel_rfl) (by kernel_rfl) (fun _ _ _ h => h) (Or.inl ⟨by rfl, ?_⟩) hHeld0 ?_
          rotate_left
          · (intro w hSw; (try dsimp only at hSw); go_simp; (first | done | (with_reducible rfl) | (rw [if_neg (by omega)]) | (rw [if_neg (by simp only [ByteArray.size_append]; omega)])))
          (try simp only [Act.put, List.setIfInBounds_toArray, List.set_cons_zero, List.set_cons_succ])
          refine wpAnyH_ready (rs := [7]) (by kernel_rfl) (by simp) ?_
          refine AllReadyH.cons (o := { dst := some 41, op := Go.Op.load 94 (Go.Operand.tmp 40), type := 94, pos := "l11_engine.go:25", after := #[{ on := 6, ground := Go.Ground.data }], guard := none }) rfl (fun K hK => ?_) AllReadyH.nil
          go_simp
          skip
          (try go_wp2_with fail)
          refine hK.out _ _ ?_ (fun hHeld1 => ?_)
          · (first | (with_reducible exact eight Y7.out) | (with_reducible exact eight Z7.out) | (with_reducible exact eight T7.out) | exact eight Y7.out)
          clear hK K hHeld0
          (try simp only [Act.put, List.setIfInBounds_toArray, List.set_cons_zero, List.set_cons_succ])
          refine wpAnyH_ready (rs := [11]) (by kernel_rfl) (by simp) ?_
          refine AllReadyH.cons (o := { dst := some 45, op := Go.Op.call { callee := Go.Callee.value (Go.Operand.func 95), args := #[Go.Operand.tmp 41, Go.Operand.tmp 42, Go.Operand.tmp 44], argTypes := #[94, 27, 3] }, type := 94, pos := "l11_engine.go:25", after := #[{ on := 7, ground := Go.Ground.data }, { on := 8, ground := Go.Ground.data }, { on := 10, ground := Go.Ground.data }], guard := none }) rfl (fun K hK => ?_) AllReadyH.nil
          go_simp
          refine (l2Do_any pl po za zb zc (some ⟨pgb, pq, none⟩) pc w2.drew.heap.size ⟨r.k, r.t, (j : Int), r.s, r.o, r.n, r.v, r.x⟩ ((k : Int) + 1) _ (Nat.le_refl _) (InY.out.rd.ints lpg) s01.1 s01.2).mono ?_
          rintro en w5 ⟨b5, g5, q5, c5, rfl, hg5, hrd5, hwr5, hc5, hib5⟩
          have hat : PgAt w5 w.heap.size ⟨(k : Int) + 1, oW r.s r.n po, g5, q5, c5, [sW 0 r.s r.n za, sW 1 r.s r.n zb, sW 2 r.s r.n zc]⟩ := NewP.at (w := w2.drew) l6 hg5 hrd5 hwr5 hib5
          have E7 := Lib.hid ((YP.out.below b5).put hok.out.1 hj5 hat)
          have Z7 := Lib.hid (Y7.out.below b5 Y7.out.lt)
          have B6 := Lib.hid (YB.out.trans (b5.mono l6))
          have In6 := InY.out.keep b5.size (b5.block _ InY.out.lt) (b5.block _ InY.out.wr.1)
          have n0 := In6.c0
          have n1 := In6.c1
          have n2 := In6.c2
          have Rb6 := YR.out.below b5 YR.out.lt
          have g0 := Has.frozen Rb6 (j * 3)
          have g1 := Has.frozen Rb6 (j * 3 + 1)
          have g2 := Has.frozen Rb6 (j * 3 + 2)
          have T7 := Lib.hid (Z7.out.keep (put3At_far (b := bo) (q := j * 3) (x := .int .i64 ((k : Int) + 1)) (y := .int .i64 (oW r.s r.n po)) (z := .slice (some ⟨g5, q5, none⟩) 3 c5) ne7))
          have B8 := Lib.hid (put3At_below B6.out (b := bo) (q := j * 3) lbo (.int .i64 ((k : Int) + 1)) (.int .i64 (oW r.s r.n po)) (.slice (some ⟨g5, q5, none⟩) 3 c5))
          clear b5 hg5 hrd5 hwr5 hc5 hib5 hat In6 Rb6 m0 m1 m2
          (try go_wp2_with fail)
          refine hK.out _ _ ?_ (fun hHeld2 => ?_)
          · (first | (with_reducible exact eight Y7.out) | (with_reducible exact eight Z7.out) | (with_reducible exact eight T7.out) | exact eight Y7.out)
          clear hK K hHeld1
          (try simp only [Act.put, List.setIfInBounds_toArray, List.set_cons_zero, List.set_cons_succ])
          refine wpAnyH_take (i := 12) (oi := { dst := some 46, op := Go.Op.indexAddr 58 (Go.Operand.tmp 34) (Go.Operand.tmp 36), type := 0, pos := "l11_engine.go:25", after := #[{ on := 0, ground := Go.Ground.data }, { on := 2, ground := Go.Ground.data }, { on := 0, ground := Go.Ground.phase }, { on := 1, ground := Go.Ground.phase }, { on := 2, ground := Go.Ground.phase }, { on := 3, ground := Go.Ground.phase }, { on := 4, ground := Go.Ground.phase }, { on := 5, ground := Go.Ground.phase }, { on := 6, ground := Go.Ground.phase }, { on := 7, ground := Go.Ground.phase }, { on := 8, ground := Go.Ground.phase }, { on := 9, ground := Go.Ground.phase }, { on := 10, ground := Go.Ground.phase }, { on := 11, ground := Go.Ground.phase }], guard := none }) (v := ?_) rfl (by kernel_rfl) (by kernel_rfl) (by kernel_rfl) (fun _ _ _ h => h) (Or.inl ⟨by rfl, ?_⟩) hHeld2 ?_
          rotate_left
          · (intro w hSw; (try dsimp only at hSw); go_simp; (first | done | (with_reducible rfl) | (rw [if_neg (by omega)]) | (rw [if_neg (by simp only [ByteArray.size_append]; omega)])))
          (try simp only [Act.put, List.setIfInBounds_toArray, List.set_cons_zero, List.set_cons_succ])
          refine wpAnyH_ready (rs := [13]) (by kernel_rfl) (by simp) ?_
          refine AllReadyH.cons (o := { dst := none, op := Go.Op.store 94 (Go.Operand.tmp 46) (Go.Operand.tmp 45), type := 0, pos := "l11_engine.go:25", after := #[{ on := 12, ground := Go.Ground.data }, { on := 11, ground := Go.Ground.data }, { on := 11, ground := Go.Ground.chain }, { on := 0, ground := Go.Ground.phase }, { on := 1, ground := Go.Ground.phase }, { on := 2, ground := Go.Ground.phase }, { on := 3, ground := Go.Ground.phase }, { on := 4, ground := Go.Ground.phase }, { on := 5, ground := Go.Ground.phase }, { on := 6, ground := Go.Ground.phase }, { on := 7, ground := Go.Ground.phase }, { on := 8, ground := Go.Ground.phase }, { on := 9, ground := Go.Ground.phase }, { on := 10, ground := Go.Ground.phase }, { on := 11, ground := Go.Ground.phase }], guard := none }) rfl (fun K hK => ?_) AllReadyH.nil
          go_simp
          skip
          (try go_wp2_with fail)
          refine hK.out _ _ ?_ (fun hHeld3 => ?_)
          · (first | (with_reducible exact eight Y7.out) | (with_reducible exact eight Z7.out) | (with_reducible exact eight T7.out) | exact eight Y7.out)
          clear hK K hHeld2
          (try simp only [Act.put, List.setIfInBounds_toArray, List.set_cons_zero, List.set_cons_succ])
          refine wpAnyH_done (by kernel_rfl) ?_ _
          clear hHeld3
          have U1 : Hid (Ps5 (((w5.setCell ⟨bo, j * 3, none⟩ (.int .i64 ((k : Int) + 1))).setCell ⟨bo, j * 3 + 1, none⟩ (.int .i64 (oW r.s r.n po))).setCell ⟨bo, j * 3 + 2, none⟩ (.slice (some ⟨g5, q5, none⟩) 3 c5)) w.heap.size bo co ((redoN rs xs k).set j ((k : Int) + 1, oW r.s r.n po, [sW 0 r.s r.n za, sW 1 r.s r.n zb, sW 2 r.s r.n zc]))) := E7.out
          have U2 : Hid (Below w.heap.size w (((w5.setCell ⟨bo, j * 3, none⟩ (.int .i64 ((k : Int) + 1))).setCell ⟨bo, j * 3 + 1, none⟩ (.int .i64 (oW r.s r.n po))).setCell ⟨bo, j * 3 + 2, none⟩ (.slice (some ⟨g5, q5, none⟩) 3 c5))) := B8.out
          have HD : Hid (redoN rs xs (k + 1) = (redoN rs xs k).set j ((k : Int) + 1, oW r.s r.n po, [sW 0 r.s r.n za, sW 1 r.s r.n zb, sW 2 r.s r.n zc])) := HS.out
          clear E7 T7 B8 Z7 B6 n0 n1 n2 g0 g1 g2 d0 d1 d2 d3 d4 d5 d6 d7 Y7 YB YP InY YR HS X7k
          generalize (((w5.setCell ⟨bo, j * 3, none⟩ (.int .i64 ((k : Int) + 1))).setCell ⟨bo, j * 3 + 1, none⟩ (.int .i64 (oW r.s r.n po))).setCell ⟨bo, j * 3 + 2, none⟩ (.slice (some ⟨g5, q5, none⟩) 3 c5)) = w6 at *
          go_wp2
          exact ⟨⟨k + 1, by omega, by go_num, U2.out, by rw [HD.out]; exact U1.out⟩, by simp [intOf]; omega⟩
    · obtain rfl : k = rs.length := by omega
      clear hb hps
      go_wp2
      go_ret
      exact ⟨bo, co, rfl, Hb.out, Hp.out⟩
end Go.Proofs.Ytejbmjdipfcblaa.Base
