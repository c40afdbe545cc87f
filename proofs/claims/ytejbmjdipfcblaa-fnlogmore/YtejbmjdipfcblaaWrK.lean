/-
  Contract of the model's l11Write. Conditions: the engine lies in memory and keeps what holds throughout a play; there is such a page.
-/
import Derived.Test.YtejbmjdipfcblaaAddK
import Derived.Deep.DeepCutAuto
namespace Go.Proofs.Ytejbmjdipfcblaa.Base
open Go.RowKit

set_option maxRecDepth 100000 in
set_option maxHeartbeats 4000000 in
theorem l11Write_any (base : Nat) (x : Ad) (e : EE) (k : Nat) (w : World) (hk5 : k < 5) (hbw : base ≤ w.heap.size) (he : Eng w base x e) (hi : Inv e) :
    Calls Try.prog 72 #[engV x e, .int .i64 (k : Int)] w (RetE base x (writeE e k) w) := by
  have HE := Lib.hid he
  have HI := Lib.hid hi
  have h2 : Has ((w.alloc (.cells (engC x e) 60)).alloc (.cells zeroEC 60)) w.heap.size 60 (engC x e) := (Has.new w _ _).alloc _
  have h4 : Has ((w.alloc (.cells (engC x e) 60)).alloc (.cells zeroEC 60)) (w.heap.size + 1) 60 zeroEC := by
    have := Has.new (w.alloc (.cells (engC x e) 60)) 60 zeroEC
    rwa [World.size_alloc] at this
  have B1 : Hid (Below w.heap.size w ((w.alloc (.cells (engC x e) 60)).alloc (.cells zeroEC 60))) := below_two _ _ _
  have X2 := Lib.hid h2
  have X4 := Lib.hid h4
  have k0 : (0 : Int) ≤ (k : Int) := by omega
  have k5 : (k : Int) < 5 := by omega
  clear he hi h2 h4
  go_enter Try.func72, Try.ntmps72
  go_upto_region 1 with (fail)
  generalize ((w.alloc (.cells (engC x e) 60)).alloc (.cells zeroEC 60)) = w1 at *
  obtain ⟨pg, hin, hsay, hlow⟩ := (HE.out.below B1.out).mem HI.out hk5
  have hok : okPP (pgE e.mem k) := (HI.out.m _ (mem_at HI.out.m5 (Int.natCast_nonneg k) (by omega))).1
  obtain ⟨za, zb, zc, hz3⟩ := okPP_three hok
  rw [hsay] at hz3
  obtain ⟨pl, po, pgb, pq, pc, pz⟩ := pg
  simp only [Pg.says] at hz3
  subst hz3
  have HW : Hid (writeE e k = ⟨e.disk.set k (pl, po, [za, zb, zc]), e.mem, e.log, max e.safe pl, e.down⟩) := by
    show writeE e k = _
    unfold writeE
    rw [hsay]
    rfl
  have In := Lib.hid hin
  have hpe : pgb ≠ w.heap.size := by
    obtain ⟨ps, h1, h2, h3⟩ := (HE.out.below B1.out).m.len HI.out.m5
    obtain ⟨p', hp'⟩ : ∃ p', ps[k]? = some p' := ⟨_, List.getElem?_eq_getElem (by omega)⟩
    obtain ⟨b', c', e', hrow⟩ := h3.open (by omega)
    injection e' with e1 e2 e3
    injection e1 with e1
    injection e1 with e1
    subst e1
    have q2 := (hrow.at_ k p' hp').c2
    have q3 := hin.c2
    rw [q2] at q3
    injection q3 with q3
    injection q3 with q4 q5 q6
    injection q4 with q4
    injection q4 with q4
    have := (h3.all p' (List.mem_of_getElem? hp')).ne_eng X2.out
    simpa [q4] using this
  have l2 := X2.out.lt
  have l4 := X4.out.lt
  have ls := B1.out.size
  clear hin hsay hok
  have Y2 : Hid (Has w1.drew w.heap.size 60 (engC x e)) := X2.out.drew
  have InY : Hid (PgIn w1.drew x.mb k ⟨pl, po, pgb, pq, pc, [za, zb, zc]⟩) := In.out.keep (Nat.le_refl _) rfl rfl
  have ne := (HE.out.below B1.out).ne_eng X2.out
  have ne4 := (HE.out.below B1.out).ne_eng X4.out
  obtain ⟨c0, c1, c2, c3, c4⟩ := Y2.out.five
  obtain ⟨d0, d1, d2, d3, d4⟩ := X2.out.five
  have t3 := X2.out.frozen 3
  have m0 := In.out.c0
  have n0 := InY.out.c0
  simp only at m0 n0
  obtain ⟨s', hs', hcase⟩ : ∃ s', max e.safe pl = s' ∧ ((e.safe < pl ∧ s' = pl) ∨ (¬ e.safe < pl ∧ s' = e.safe)) := ⟨_, rfl, by omega⟩
  have HS := Lib.hid hs'
  clear hs'
  have Z2 : Hid (Has (w1.setCell ⟨w.heap.size, 3, none⟩ (.int .i64 s')).drew w.heap.size 60 (engC x ⟨e.disk, e.mem, e.log, s', e.down⟩)) := (X2.out.set 3 _).drew
  have Z4 : Hid (Has (w1.setCell ⟨w.heap.size, 3, none⟩ (.int .i64 s')).drew (w.heap.size + 1) 60 zeroEC) := (X4.out.far (by simp) _).drew
  have BZ : Hid (Below w.heap.size w (w1.setCell ⟨w.heap.size, 3, none⟩ (.int .i64 s')).drew) := (B1.out.setCell (by simp) _).drew
  have EZ : Hid (Eng (w1.setCell ⟨w.heap.size, 3, none⟩ (.int .i64 s')).drew base x ⟨e.disk, e.mem, e.log, s', e.down⟩) := (HE.out.below BZ.out).of rfl rfl rfl
  have ZP : Hid (PgIn (w1.setCell ⟨w.heap.size, 3, none⟩ (.int .i64 s')).drew x.mb k ⟨pl, po, pgb, pq, pc, [za, zb, zc]⟩) := InY.out.keep (by rw [show (w1.setCell ⟨w.heap.size, 3, none⟩ (.int .i64 s')).drew.heap.size = (w1.setCell ⟨w.heap.size, 3, none⟩ (.int .i64 s')).heap.size from rfl, World.size_setCell]; exact Nat.le_refl _) (Below.heap_setCell w1 _ _ x.mb (by simpa using Ne.symm ne.2)) (Below.heap_setCell w1 _ _ pgb (by simpa using hpe))
  go_cut [] (fun wx => wx = (w1.setCell ⟨w.heap.size, 3, none⟩ (.int .i64 s')).drew)
  case first =>
    rcases hcase with ⟨hlt, hse⟩ | ⟨hlt, hse⟩
    · have hse' := hse.symm
      subst hse'
      refine wp_region_held_drew (S := (fun w' => w'.cell? ⟨w.heap.size, 1, none⟩ = some (.slice (some ⟨x.mb, 0, none⟩) 5 x.mc) ∧ w'.cell? ⟨x.mb, k * 3, none⟩ = some (.int .i64 pl))) (by kernel_rfl) ?_ (fun hHeld0 => ?_)
      · (first | (with_reducible exact ⟨c1, n0⟩) | exact ⟨Z2.out.five.2.1, ZP.out.c0⟩ | exact ⟨c1, n0⟩)
      refine wpAnyH_take (i := 0) (oi := { dst := some 5, op := Go.Op.fieldAddr 60 (Go.Operand.tmp 2) 3, type := 0, pos := "l11_engine.go:187", after := #[], guard := none }) (v := ?_) rfl (by kernel_rfl) (by kernel_rfl) (by kernel_rfl) (fun _ _ _ h => h) (Or.inl ⟨by rfl, ?_⟩) hHeld0 ?_
      rotate_left
      · (intro w hSw; (try dsimp only at hSw); go_simp; (first | done | (with_reducible rfl) | (rw [if_neg (by omega)]) | (rw [if_neg (by simp only [ByteArray.size_append]; omega)])))
      (try simp only [Act.put, List.setIfInBounds_toArray, List.set_cons_zero, List.set_cons_succ])
      refine wpAnyH_take (i := 2) (oi := { dst := some 7, op := Go.Op.fieldAddr 60 (Go.Operand.tmp 2) 1, type := 0, pos := "l11_engine.go:187", after := #[], guard := none }) (v := ?_) rfl (by kernel_rfl) (by kernel_rfl) (by kernel_rfl) (fun _ _ _ h => h) (Or.inl ⟨by rfl, ?_⟩) hHeld0 ?_
      rotate_left
      · (intro w hSw; (try dsimp only at hSw); go_simp; (first | done | (with_reducible rfl) | (rw [if_neg (by omega)]) | (rw [if_neg (by simp only [ByteArray.size_append]; omega)])))
      (try simp only [Act.put, List.setIfInBounds_toArray, List.set_cons_zero, List.set_cons_succ])
      refine wpAnyH_take (i := 3) (oi := { dst := some 8, op := Go.Op.load 58 (Go.Operand.tmp 7), type := 58, pos := "l11_engine.go:187", after := #[{ on := 2, ground := Go.Ground.data }], guard := none }) (v := ?_) rfl (by kernel_rfl) (by kernel_rfl) (by kernel_rfl) (fun _ _ _ h => h) (Or.inl ⟨by rfl, ?_⟩) hHeld0 ?_
      rotate_left
      · (intro w hSw; (try dsimp only at hSw); go_simp; (first | done | (with_reducible rfl) | (rw [if_neg (by omega)]) | (rw [if_neg (by simp only [ByteArray.size_append]; omega)])))
      (try simp only [Act.put, List.setIfInBounds_toArray, List.set_cons_zero, List.set_cons_succ])
      refine wpAnyH_take (i := 4) (oi := { dst := some 9, op := Go.Op.move (Go.Operand.tmp 1), type := 3, pos := "l11_engine.go:187", after := #[], guard := none }) (v := ?_) rfl (by kernel_rfl) (by kernel_rfl) (by kernel_rfl) (fun _ _ _ h => h) (Or.inl ⟨by rfl, ?_⟩) hHeld0 ?_
      rotate_left
      · (intro w hSw; (try dsimp only at hSw); go_simp; (first | done | (with_reducible rfl) | (rw [if_neg (by omega)]) | (rw [if_neg (by simp only [ByteArray.size_append]; omega)])))
      (try simp only [Act.put, List.setIfInBounds_toArray, List.set_cons_zero, List.set_cons_succ])
      refine wpAnyH_take (i := 5) (oi := { dst := some 10, op := Go.Op.indexAddr 58 (Go.Operand.tmp 8) (Go.Operand.tmp 9), type := 0, pos := "l11_engine.go:187", after := #[{ on := 3, ground := Go.Ground.data }, { on := 4, ground := Go.Ground.data }], guard := none }) (v := ?_) rfl (by kernel_rfl) (by kernel_rfl) (by kernel_rfl) (fun _ _ _ h => h) (Or.inl ⟨by rfl, ?_⟩) hHeld0 ?_
      rotate_left
      · (intro w hSw; (try dsimp only at hSw); go_simp; (first | done | (with_reducible rfl) | (rw [if_neg (by omega)]) | (rw [if_neg (by simp only [ByteArray.size_append]; omega)])))
      (try simp only [Act.put, List.setIfInBounds_toArray, List.set_cons_zero, List.set_cons_succ])
      refine wpAnyH_take (i := 6) (oi := { dst := some 11, op := Go.Op.fieldAddr 94 (Go.Operand.tmp 10) 0, type := 0, pos := "l11_engine.go:187", after := #[{ on := 5, ground := Go.Ground.data }], guard := none }) (v := ?_) rfl (by kernel_rfl) (by kernel_rfl) (by kernel_rfl) (fun _ _ _ h => h) (Or.inl ⟨by rfl, ?_⟩) hHeld0 ?_
      rotate_left
      · (intro w hSw; (try dsimp only at hSw); go_simp; (first | done | (with_reducible rfl) | (rw [if_neg (by omega)]) | (rw [if_neg (by simp only [ByteArray.size_append]; omega)])))
      (try simp only [Act.put, List.setIfInBounds_toArray, List.set_cons_zero, List.set_cons_succ])
      refine wpAnyH_take (i := 7) (oi := { dst := some 12, op := Go.Op.load 3 (Go.Operand.tmp 11), type := 3, pos := "l11_engine.go:187", after := #[{ on := 6, ground := Go.Ground.data }], guard := none }) (v := ?_) rfl (by kernel_rfl) (by kernel_rfl) (by kernel_rfl) (fun _ _ _ h => h) (Or.inl ⟨by rfl, ?_⟩) hHeld0 ?_
      rotate_left
      · (intro w hSw; (try dsimp only at hSw); go_simp; (first | done | (with_reducible rfl) | (rw [if_neg (by omega)]) | (rw [if_neg (by simp only [ByteArray.size_append]; omega)])))
      (try simp only [Act.put, List.setIfInBounds_toArray, List.set_cons_zero, List.set_cons_succ])
      refine wpAnyH_ready (rs := [1]) (by kernel_rfl) (by simp) ?_
      refine AllReadyH.cons (o := { dst := some 6, op := Go.Op.load 3 (Go.Operand.tmp 5), type := 3, pos := "l11_engine.go:187", after := #[{ on := 0, ground := Go.Ground.data }], guard := none }) rfl (fun K hK => ?_) AllReadyH.nil
      go_simp
      skip
      (try go_wp2_with fail)
      refine hK.out _ _ ?_ (fun hHeld1 => ?_)
      · (first | (with_reducible exact ⟨c1, n0⟩) | exact ⟨Z2.out.five.2.1, ZP.out.c0⟩ | exact ⟨c1, n0⟩)
      clear hK K hHeld0
      (try simp only [Act.put, List.setIfInBounds_toArray, List.set_cons_zero, List.set_cons_succ])
      refine wpAnyH_take (i := 8) (oi := { dst := some 13, op := Go.Op.call { callee := Go.Callee.builtin Go.Builtin.max, args := #[Go.Operand.tmp 6, Go.Operand.tmp 12], argTypes := #[3, 3] }, type := 3, pos := "l11_engine.go:187", after := #[{ on := 1, ground := Go.Ground.data }, { on := 7, ground := Go.Ground.data }], guard := none }) (v := ?_) rfl (by kernel_rfl) (by kernel_rfl) (by kernel_rfl) (fun _ _ _ h => h) (Or.inl ⟨by rfl, ?_⟩) hHeld1 ?_
      rotate_left
      · (intro w hSw; (try dsimp only at hSw); go_simp; (first | done | (with_reducible rfl) | (rw [if_neg (by omega)]) | (rw [if_neg (by simp only [ByteArray.size_append]; omega)])))
      (try simp only [Act.put, List.setIfInBounds_toArray, List.set_cons_zero, List.set_cons_succ])
      refine wpAnyH_take (i := 9) (oi := { dst := some 14, op := Go.Op.fieldAddr 60 (Go.Operand.tmp 2) 3, type := 0, pos := "l11_engine.go:187", after := #[{ on := 0, ground := Go.Ground.phase }, { on := 1, ground := Go.Ground.phase }, { on := 2, ground := Go.Ground.phase }, { on := 3, ground := Go.Ground.phase }, { on := 4, ground := Go.Ground.phase }, { on := 5, ground := Go.Ground.phase }, { on := 6, ground := Go.Ground.phase }, { on := 7, ground := Go.Ground.phase }, { on := 8, ground := Go.Ground.phase }], guard := none }) (v := ?_) rfl (by kernel_rfl) (by kernel_rfl) (by kernel_rfl) (fun _ _ _ h => h) (Or.inl ⟨by rfl, ?_⟩) hHeld1 ?_
      rotate_left
      · (intro w hSw; (try dsimp only at hSw); go_simp; (first | done | (with_reducible rfl) | (rw [if_neg (by omega)]) | (rw [if_neg (by simp only [ByteArray.size_append]; omega)])))
      (try simp only [Act.put, List.setIfInBounds_toArray, List.set_cons_zero, List.set_cons_succ])
      refine wpAnyH_ready (rs := [10]) (by kernel_rfl) (by simp) ?_
      refine AllReadyH.cons (o := { dst := none, op := Go.Op.store 3 (Go.Operand.tmp 14) (Go.Operand.tmp 13), type := 0, pos := "l11_engine.go:187", after := #[{ on := 9, ground := Go.Ground.data }, { on := 8, ground := Go.Ground.data }, { on := 0, ground := Go.Ground.phase }, { on := 1, ground := Go.Ground.phase }, { on := 2, ground := Go.Ground.phase }, { on := 3, ground := Go.Ground.phase }, { on := 4, ground := Go.Ground.phase }, { on := 5, ground := Go.Ground.phase }, { on := 6, ground := Go.Ground.phase }, { on := 7, ground := Go.Ground.phase }, { on := 8, ground := Go.Ground.phase }], guard := none }) rfl (fun K hK => ?_) AllReadyH.nil
      go_simp
      skip
      (try go_wp2_with fail)
      refine hK.out _ _ ?_ (fun hHeld2 => ?_)
      · (first | (with_reducible exact ⟨c1, n0⟩) | exact ⟨Z2.out.five.2.1, ZP.out.c0⟩ | exact ⟨c1, n0⟩)
      clear hK K hHeld1
      (try simp only [Act.put, List.setIfInBounds_toArray, List.set_cons_zero, List.set_cons_succ])
      refine wpAnyH_done (by kernel_rfl) ?_ _
      clear hHeld2
      go_wp2_with fail
      go_meet
      rfl
    · subst hse
      refine wp_region_held_drew (S := (fun w' => w'.cell? ⟨w.heap.size, 1, none⟩ = some (.slice (some ⟨x.mb, 0, none⟩) 5 x.mc) ∧ w'.cell? ⟨x.mb, k * 3, none⟩ = some (.int .i64 pl))) (by kernel_rfl) ?_ (fun hHeld0 => ?_)
      · (first | (with_reducible exact ⟨c1, n0⟩) | exact ⟨Z2.out.five.2.1, ZP.out.c0⟩ | exact ⟨c1, n0⟩)
      refine wpAnyH_take (i := 0) (oi := { dst := some 5, op := Go.Op.fieldAddr 60 (Go.Operand.tmp 2) 3, type := 0, pos := "l11_engine.go:187", after := #[], guard := none }) (v := ?_) rfl (by kernel_rfl) (by kernel_rfl) (by kernel_rfl) (fun _ _ _ h => h) (Or.inl ⟨by rfl, ?_⟩) hHeld0 ?_
      rotate_left
      · (intro w hSw; (try dsimp only at hSw); go_simp; (first | done | (with_reducible rfl) | (rw [if_neg (by omega)]) | (rw [if_neg (by simp only [ByteArray.size_append]; omega)])))
      (try simp only [Act.put, List.setIfInBounds_toArray, List.set_cons_zero, List.set_cons_succ])
      refine wpAnyH_take (i := 2) (oi := { dst := some 7, op := Go.Op.fieldAddr 60 (Go.Operand.tmp 2) 1, type := 0, pos := "l11_engine.go:187", after := #[], guard := none }) (v := ?_) rfl (by kernel_rfl) (by kernel_rfl) (by kernel_rfl) (fun _ _ _ h => h) (Or.inl ⟨by rfl, ?_⟩) hHeld0 ?_
      rotate_left
      · (intro w hSw; (try dsimp only at hSw); go_simp; (first | done | (with_reducible rfl) | (rw [if_neg (by omega)]) | (rw [if_neg (by simp only [ByteArray.size_append]; omega)])))
      (try simp only [Act.put, List.setIfInBounds_toArray, List.set_cons_zero, List.set_cons_succ])
      refine wpAnyH_take (i := 3) (oi := { dst := some 8, op := Go.Op.load 58 (Go.Operand.tmp 7), type := 58, pos := "l11_engine.go:187", after := #[{ on := 2, ground := Go.Ground.data }], guard := none }) (v := ?_) rfl (by kernel_rfl) (by kernel_rfl) (by kernel_rfl) (fun _ _ _ h => h) (Or.inl ⟨by rfl, ?_⟩) hHeld0 ?_
      rotate_left
      · (intro w hSw; (try dsimp only at hSw); go_simp; (first | done | (with_reducible rfl) | (rw [if_neg (by omega)]) | (rw [if_neg (by simp only [ByteArray.size_append]; omega)])))
      (try simp only [Act.put, List.setIfInBounds_toArray, List.set_cons_zero, List.set_cons_succ])
      refine wpAnyH_take (i := 4) (oi := { dst := some 9, op := Go.Op.move (Go.Operand.tmp 1), type := 3, pos := "l11_engine.go:187", after := #[], guard := none }) (v := ?_) rfl (by kernel_rfl) (by kernel_rfl) (by kernel_rfl) (fun _ _ _ h => h) (Or.inl ⟨by rfl, ?_⟩) hHeld0 ?_
      rotate_left
      · (intro w hSw; (try dsimp only at hSw); go_simp; (first | done | (with_reducible rfl) | (rw [if_neg (by omega)]) | (rw [if_neg (by simp only [ByteArray.size_append]; omega)])))
      (try simp only [Act.put, List.setIfInBounds_toArray, List.set_cons_zero, List.set_cons_succ])
      refine wpAnyH_take (i := 5) (oi := { dst := some 10, op := Go.Op.indexAddr 58 (Go.Operand.tmp 8) (Go.Operand.tmp 9), type := 0, pos := "l11_engine.go:187", after := #[{ on := 3, ground := Go.Ground.data }, { on := 4, ground := Go.Ground.data }], guard := none }) (v := ?_) rfl (by kernel_rfl) (by kernel_rfl) (by kernel_rfl) (fun _ _ _ h => h) (Or.inl ⟨by rfl, ?_⟩) hHeld0 ?_
      rotate_left
      · (intro w hSw; (try dsimp only at hSw); go_simp; (first | done | (with_reducible rfl) | (rw [if_neg (by omega)]) | (rw [if_neg (by simp only [ByteArray.size_append]; omega)])))
      (try simp only [Act.put, List.setIfInBounds_toArray, List.set_cons_zero, List.set_cons_succ])
      refine wpAnyH_take (i := 6) (oi := { dst := some 11, op := Go.Op.fieldAddr 94 (Go.Operand.tmp 10) 0, type := 0, pos := "l11_engine.go:187", after := #[{ on := 5, ground := Go.Ground.data }], guard := none }) (v := ?_) rfl (by kernel_rfl) (by kernel_rfl) (by kernel_rfl) (fun _ _ _ h => h) (Or.inl ⟨by rfl, ?_⟩) hHeld0 ?_
      rotate_left
      · (intro w hSw; (try dsimp only at hSw); go_simp; (first | done | (with_reducible rfl) | (rw [if_neg (by omega)]) | (rw [if_neg (by simp only [ByteArray.size_append]; omega)])))
      (try simp only [Act.put, List.setIfInBounds_toArray, List.set_cons_zero, List.set_cons_succ])
      refine wpAnyH_take (i := 7) (oi := { dst := some 12, op := Go.Op.load 3 (Go.Operand.tmp 11), type := 3, pos := "l11_engine.go:187", after := #[{ on := 6, ground := Go.Ground.data }], guard := none }) (v := ?_) rfl (by kernel_rfl) (by kernel_rfl) (by kernel_rfl) (fun _ _ _ h => h) (Or.inl ⟨by rfl, ?_⟩) hHeld0 ?_
      rotate_left
      · (intro w hSw; (try dsimp only at hSw); go_simp; (first | done | (with_reducible rfl) | (rw [if_neg (by omega)]) | (rw [if_neg (by simp only [ByteArray.size_append]; omega)])))
      (try simp only [Act.put, List.setIfInBounds_toArray, List.set_cons_zero, List.set_cons_succ])
      refine wpAnyH_ready (rs := [1]) (by kernel_rfl) (by simp) ?_
      refine AllReadyH.cons (o := { dst := some 6, op := Go.Op.load 3 (Go.Operand.tmp 5), type := 3, pos := "l11_engine.go:187", after := #[{ on := 0, ground := Go.Ground.data }], guard := none }) rfl (fun K hK => ?_) AllReadyH.nil
      go_simp
      skip
      (try go_wp2_with fail)
      refine hK.out _ _ ?_ (fun hHeld1 => ?_)
      · (first | (with_reducible exact ⟨c1, n0⟩) | exact ⟨Z2.out.five.2.1, ZP.out.c0⟩ | exact ⟨c1, n0⟩)
      clear hK K hHeld0
      (try simp only [Act.put, List.setIfInBounds_toArray, List.set_cons_zero, List.set_cons_succ])
      refine wpAnyH_take (i := 8) (oi := { dst := some 13, op := Go.Op.call { callee := Go.Callee.builtin Go.Builtin.max, args := #[Go.Operand.tmp 6, Go.Operand.tmp 12], argTypes := #[3, 3] }, type := 3, pos := "l11_engine.go:187", after := #[{ on := 1, ground := Go.Ground.data }, { on := 7, ground := Go.Ground.data }], guard := none }) (v := ?_) rfl (by kernel_rfl) (by kernel_rfl) (by kernel_rfl) (fun _ _ _ h => h) (Or.inl ⟨by rfl, ?_⟩) hHeld1 ?_
      rotate_left
      · (intro w hSw; (try dsimp only at hSw); go_simp; (first | done | (with_reducible rfl) | (rw [if_neg (by omega)]) | (rw [if_neg (by simp only [ByteArray.size_append]; omega)])))
      (try simp only [Act.put, List.setIfInBounds_toArray, List.set_cons_zero, List.set_cons_succ])
      refine wpAnyH_take (i := 9) (oi := { dst := some 14, op := Go.Op.fieldAddr 60 (Go.Operand.tmp 2) 3, type := 0, pos := "l11_engine.go:187", after := #[{ on := 0, ground := Go.Ground.phase }, { on := 1, ground := Go.Ground.phase }, { on := 2, ground := Go.Ground.phase }, { on := 3, ground := Go.Ground.phase }, { on := 4, ground := Go.Ground.phase }, { on := 5, ground := Go.Ground.phase }, { on := 6, ground := Go.Ground.phase }, { on := 7, ground := Go.Ground.phase }, { on := 8, ground := Go.Ground.phase }], guard := none }) (v := ?_) rfl (by kernel_rfl) (by kernel_rfl) (by kernel_rfl) (fun _ _ _ h => h) (Or.inl ⟨by rfl, ?_⟩) hHeld1 ?_
      rotate_left
      · (intro w hSw; (try dsimp only at hSw); go_simp; (first | done | (with_reducible rfl) | (rw [if_neg (by omega)]) | (rw [if_neg (by simp only [ByteArray.size_append]; omega)])))
      (try simp only [Act.put, List.setIfInBounds_toArray, List.set_cons_zero, List.set_cons_succ])
      refine wpAnyH_ready (rs := [10]) (by kernel_rfl) (by simp) ?_
      refine AllReadyH.cons (o := { dst := none, op := Go.Op.store 3 (Go.Operand.tmp 14) (Go.Operand.tmp 13), type := 0, pos := "l11_engine.go:187", after := #[{ on := 9, ground := Go.Ground.data }, { on := 8, ground := Go.Ground.data }, { on := 0, ground := Go.Ground.phase }, { on := 1, ground := Go.Ground.phase }, { on := 2, ground := Go.Ground.phase }, { on := 3, ground := Go.Ground.phase }, { on := 4, ground := Go.Ground.phase }, { on := 5, ground := Go.Ground.phase }, { on := 6, ground := Go.Ground.phase }, { on := 7, ground := Go.Ground.phase }, { on := 8, ground := Go.Ground.phase }], guard := none }) rfl (fun K hK => ?_) AllReadyH.nil
      go_simp
      skip
      (try go_wp2_with fail)
      refine hK.out _ _ ?_ (fun hHeld2 => ?_)
      · (first | (with_reducible exact ⟨c1, n0⟩) | exact ⟨Z2.out.five.2.1, ZP.out.c0⟩ | exact ⟨c1, n0⟩)
      clear hK K hHeld1
      (try simp only [Act.put, List.setIfInBounds_toArray, List.set_cons_zero, List.set_cons_succ])
      refine wpAnyH_done (by kernel_rfl) ?_ _
      clear hHeld2
      go_wp2_with fail
      go_meet
      rfl
  case rest =>
    subst hcut
    clear X2 X4 B1 In InY Y2 c0 c1 c2 c3 c4 d0 d1 d2 d3 d4 t3 m0 n0 l2 l4 ls hcase
    generalize (w1.setCell ⟨w.heap.size, 3, none⟩ (.int .i64 s')).drew = w2 at *
    go_upto_region 2 with (fail)
    obtain ⟨c0, c1, c2, c3, c4⟩ := Z2.out.five
    have m0 := ZP.out.c0
    have m1 := ZP.out.c1
    have m2 := ZP.out.c2
    simp only [List.length_cons, List.length_nil, Nat.zero_add, Nat.reduceAdd] at m0 m1 m2
    have lpg : pgb < w2.heap.size := ZP.out.wr.1
    obtain ⟨pd, hind, -, -⟩ := EZ.out.d.at_ HI.out.d5 hk5
    have InD := Lib.hid hind
    obtain ⟨cs, hrb⟩ := EZ.out.d.has
    have HRb : Hid (Has w2 x.db 94 cs) := hrb
    have Y2 : Hid (Has w2.drew w.heap.size 60 (engC x ⟨e.disk, e.mem, e.log, s', e.down⟩)) := Z2.out.drew
    have Y4 : Hid (Has w2.drew (w.heap.size + 1) 60 zeroEC) := Z4.out.drew
    have YB : Hid (Below w.heap.size w w2.drew) := BZ.out.drew
    have YE : Hid (Eng w2.drew base x ⟨e.disk, e.mem, e.log, s', e.down⟩) := EZ.out.drewN 1
    have l6 : w.heap.size ≤ w2.drew.heap.size := YB.out.size
    have hbw4 : base ≤ w2.drew.heap.size := Nat.le_trans hbw l6
    have YD : Hid (PgIn w2.drew x.db k pd) := InD.out.keep (Nat.le_refl _) rfl rfl
    have YR : Hid (Has w2.drew x.db 94 cs) := HRb.out.drew
    have YP : Hid (Ints .i64 w2.drew w2.drew.heap.size (some ⟨pgb, pq, none⟩) [za, zb, zc]) := ZP.out.rd.ints lpg
    clear hind hrb
    refine wp_region_held_drew (S := (fun w' => w'.cell? ⟨w.heap.size, 0, none⟩ = some (.slice (some ⟨x.db, 0, none⟩) 5 x.dc) ∧ w'.cell? ⟨w.heap.size, 1, none⟩ = some (.slice (some ⟨x.mb, 0, none⟩) 5 x.mc))) (by kernel_rfl) ?_ (fun hHeld0 => ?_)
    · (first | (with_reducible exact ⟨Y2.out.five.1, Y2.out.five.2.1⟩) | (with_reducible exact ⟨V2.out.five.1, V2.out.five.2.1⟩) | (with_reducible exact ⟨T2.out.five.1, T2.out.five.2.1⟩) | exact ⟨Y2.out.five.1, Y2.out.five.2.1⟩)
    refine wpAnyH_take (i := 0) (oi := { dst := some 15, op := Go.Op.fieldAddr 60 (Go.Operand.tmp 2) 0, type := 0, pos := "l11_engine.go:188", after := #[], guard := none }) (v := ?_) rfl (by kernel_rfl) (by kernel_rfl) (by kernel_rfl) (fun _ _ _ h => h) (Or.inl ⟨by rfl, ?_⟩) hHeld0 ?_
    rotate_left
    · (intro w hSw; (try dsimp only at hSw); go_simp; (first | done | (with_reducible rfl) | (rw [if_neg (by omega)]) | (rw [if_neg (by simp only [ByteArray.size_append]; omega)])))
    (try simp only [Act.put, List.setIfInBounds_toArray, List.set_cons_zero, List.set_cons_succ])
    refine wpAnyH_take (i := 1) (oi := { dst := some 16, op := Go.Op.load 58 (Go.Operand.tmp 15), type := 58, pos := "l11_engine.go:188", after := #[{ on := 0, ground := Go.Ground.data }], guard := none }) (v := ?_) rfl (by kernel_rfl) (by kernel_rfl) (by kernel_rfl) (fun _ _ _ h => h) (Or.inl ⟨by rfl, ?_⟩) hHeld0 ?_
    rotate_left
    · (intro w hSw; (try dsimp only at hSw); go_simp; (first | done | (with_reducible rfl) | (rw [if_neg (by omega)]) | (rw [if_neg (by simp only [ByteArray.size_append]; omega)])))
    (try simp only [Act.put, List.setIfInBounds_toArray, List.set_cons_zero, List.set_cons_succ])
    refine wpAnyH_take (i := 2) (oi := { dst := some 17, op := Go.Op.move (Go.Operand.tmp 1), type := 3, pos := "l11_engine.go:188", after := #[], guard := none }) (v := ?_) rfl (by kernel_rfl) (by kernel_rfl) (by kernel_rfl) (fun _ _ _ h => h) (Or.inl ⟨by rfl, ?_⟩) hHeld0 ?_
    rotate_left
    · (intro w hSw; (try dsimp only at hSw); go_simp; (first | done | (with_reducible rfl) | (rw [if_neg (by omega)]) | (rw [if_neg (by simp only [ByteArray.size_append]; omega)])))
    (try simp only [Act.put, List.setIfInBounds_toArray, List.set_cons_zero, List.set_cons_succ])
    refine wpAnyH_take (i := 3) (oi := { dst := some 18, op := Go.Op.fieldAddr 60 (Go.Operand.tmp 2) 1, type := 0, pos := "l11_engine.go:188", after := #[], guard := none }) (v := ?_) rfl (by kernel_rfl) (by kernel_rfl) (by kernel_rfl) (fun _ _ _ h => h) (Or.inl ⟨by rfl, ?_⟩) hHeld0 ?_
    rotate_left
    · (intro w hSw; (try dsimp only at hSw); go_simp; (first | done | (with_reducible rfl) | (rw [if_neg (by omega)]) | (rw [if_neg (by simp only [ByteArray.size_append]; omega)])))
    (try simp only [Act.put, List.setIfInBounds_toArray, List.set_cons_zero, List.set_cons_succ])
    refine wpAnyH_take (i := 4) (oi := { dst := some 19, op := Go.Op.load 58 (Go.Operand.tmp 18), type := 58, pos := "l11_engine.go:188", after := #[{ on := 3, ground := Go.Ground.data }], guard := none }) (v := ?_) rfl (by kernel_rfl) (by kernel_rfl) (by kernel_rfl) (fun _ _ _ h => h) (Or.inl ⟨by rfl, ?_⟩) hHeld0 ?_
    rotate_left
    · (intro w hSw; (try dsimp only at hSw); go_simp; (first | done | (with_reducible rfl) | (rw [if_neg (by omega)]) | (rw [if_neg (by simp only [ByteArray.size_append]; omega)])))
    (try simp only [Act.put, List.setIfInBounds_toArray, List.set_cons_zero, List.set_cons_succ])
    refine wpAnyH_take (i := 5) (oi := { dst := some 20, op := Go.Op.move (Go.Operand.tmp 1), type := 3, pos := "l11_engine.go:188", after := #[], guard := none }) (v := ?_) rfl (by kernel_rfl) (by kernel_rfl) (by kernel_rfl) (fun _ _ _ h => h) (Or.inl ⟨by rfl, ?_⟩) hHeld0 ?_
    rotate_left
    · (intro w hSw; (try dsimp only at hSw); go_simp; (first | done | (with_reducible rfl) | (rw [if_neg (by omega)]) | (rw [if_neg (by simp only [ByteArray.size_append]; omega)])))
    (try simp only [Act.put, List.setIfInBounds_toArray, List.set_cons_zero, List.set_cons_succ])
    refine wpAnyH_take (i := 6) (oi := { dst := some 21, op := Go.Op.indexAddr 58 (Go.Operand.tmp 19) (Go.Operand.tmp 20), type := 0, pos := "l11_engine.go:188", after := #[{ on := 4, ground := Go.Ground.data }, { on := 5, ground := Go.Ground.data }], guard := none }) (v := ?_) rfl (by kernel_rfl) (by kernel_rfl) (by kernel_rfl) (fun _ _ _ h => h) (Or.inl ⟨by rfl, ?_⟩) hHeld0 ?_
    rotate_left
    · (intro w hSw; (try dsimp only at hSw); go_simp; (first | done | (with_reducible rfl) | (rw [if_neg (by omega)]) | (rw [if_neg (by simp only [ByteArray.size_append]; omega)])))
    (try simp only [Act.put, List.setIfInBounds_toArray, List.set_cons_zero, List.set_cons_succ])
    refine wpAnyH_ready (rs := [7]) (by kernel_rfl) (by simp) ?_
    refine AllReadyH.cons (o := { dst := some 22, op := Go.Op.load 94 (Go.Operand.tmp 21), type := 94, pos := "l11_engine.go:188", after := #[{ on := 6, ground := Go.Ground.data }], guard := none }) rfl (fun K hK => ?_) AllReadyH.nil
    go_simp
    skip
    (try go_wp2_with fail)
    refine hK.out _ _ ?_ (fun hHeld1 => ?_)
    · (first | (with_reducible exact ⟨Y2.out.five.1, Y2.out.five.2.1⟩) | (with_reducible exact ⟨V2.out.five.1, V2.out.five.2.1⟩) | (with_reducible exact ⟨T2.out.five.1, T2.out.five.2.1⟩) | exact ⟨Y2.out.five.1, Y2.out.five.2.1⟩)
    clear hK K hHeld0
    (try simp only [Act.put, List.setIfInBounds_toArray, List.set_cons_zero, List.set_cons_succ])
    refine wpAnyH_ready (rs := [8]) (by kernel_rfl) (by simp) ?_
    refine AllReadyH.cons (o := { dst := some 23, op := Go.Op.call { callee := Go.Callee.value (Go.Operand.func 89), args := #[Go.Operand.tmp 22], argTypes := #[94] }, type := 94, pos := "l11_engine.go:188", after := #[{ on := 7, ground := Go.Ground.data }], guard := none }) rfl (fun K hK => ?_) AllReadyH.nil
    go_simp
    refine (l1Copy_any pl po za zb zc (some ⟨pgb, pq, none⟩) pc w2.drew.heap.size _ (Nat.le_refl _) YP.out).mono ?_
    rintro en w5 ⟨b5, g5, q5, c5, rfl, hg5, hrd5, hwr5, hc5, hib5⟩
    have hat : PgAt w5 base ⟨pl, po, g5, q5, c5, [za, zb, zc]⟩ := NewP.at (w := w2.drew) hbw4 hg5 hrd5 hwr5 hib5
    have E7 := Lib.hid ((YE.out.below b5).putDisk HI.out.d5 hk5 hat)
    have V2 := Lib.hid (Y2.out.below b5 Y2.out.lt)
    have V4 := Lib.hid (Y4.out.below b5 Y4.out.lt)
    have B6 := Lib.hid (YB.out.trans (b5.mono l6))
    have In6 := YD.out.keep b5.size (b5.block _ YD.out.lt) (b5.block _ YD.out.wr.1)
    have n0 := In6.c0
    have n1 := In6.c1
    have n2 := In6.c2
    have Rb6 := YR.out.below b5 YR.out.lt
    have g0 := Has.frozen Rb6 (k * 3)
    have g1 := Has.frozen Rb6 (k * 3 + 1)
    have g2 := Has.frozen Rb6 (k * 3 + 2)
    have T2 := Lib.hid (V2.out.keep (put3At_far (b := x.db) (q := k * 3) (x := .int .i64 pl) (y := .int .i64 po) (z := .slice (some ⟨g5, q5, none⟩) 3 c5) ne.1))
    have T4 := Lib.hid (V4.out.keep (put3At_far (b := x.db) (q := k * 3) (x := .int .i64 pl) (y := .int .i64 po) (z := .slice (some ⟨g5, q5, none⟩) 3 c5) ne4.1))
    have B7 := Lib.hid ((((Frm.of_below (x := x) (x' := x) B6.out rfl rfl).setCell (.inr (.inr rfl)) (k * 3) (.int .i64 pl)).setCell (.inr (.inr rfl)) (k * 3 + 1) (.int .i64 po)).setCell (.inr (.inr rfl)) (k * 3 + 2) (.slice (some ⟨g5, q5, none⟩) 3 c5))
    clear b5 hg5 hrd5 hwr5 hc5 hib5 hat In6 Rb6 m0 m1 m2
    (try go_wp2_with fail)
    refine hK.out _ _ ?_ (fun hHeld2 => ?_)
    · (first | (with_reducible exact ⟨Y2.out.five.1, Y2.out.five.2.1⟩) | (with_reducible exact ⟨V2.out.five.1, V2.out.five.2.1⟩) | (with_reducible exact ⟨T2.out.five.1, T2.out.five.2.1⟩) | exact ⟨Y2.out.five.1, Y2.out.five.2.1⟩)
    clear hK K hHeld1
    (try simp only [Act.put, List.setIfInBounds_toArray, List.set_cons_zero, List.set_cons_succ])
    refine wpAnyH_take (i := 9) (oi := { dst := some 24, op := Go.Op.indexAddr 58 (Go.Operand.tmp 16) (Go.Operand.tmp 17), type := 0, pos := "l11_engine.go:188", after := #[{ on := 1, ground := Go.Ground.data }, { on := 2, ground := Go.Ground.data }, { on := 0, ground := Go.Ground.phase }, { on := 1, ground := Go.Ground.phase }, { on := 2, ground := Go.Ground.phase }, { on := 3, ground := Go.Ground.phase }, { on := 4, ground := Go.Ground.phase }, { on := 5, ground := Go.Ground.phase }, { on := 6, ground := Go.Ground.phase }, { on := 7, ground := Go.Ground.phase }, { on := 8, ground := Go.Ground.phase }], guard := none }) (v := ?_) rfl (by kernel_rfl) (by kernel_rfl) (by kernel_rfl) (fun _ _ _ h => h) (Or.inl ⟨by rfl, ?_⟩) hHeld2 ?_
    rotate_left
    · (intro w hSw; (try dsimp only at hSw); go_simp; (first | done | (with_reducible rfl) | (rw [if_neg (by omega)]) | (rw [if_neg (by simp only [ByteArray.size_append]; omega)])))
    (try simp only [Act.put, List.setIfInBounds_toArray, List.set_cons_zero, List.set_cons_succ])
    refine wpAnyH_ready (rs := [10]) (by kernel_rfl) (by simp) ?_
    refine AllReadyH.cons (o := { dst := none, op := Go.Op.store 94 (Go.Operand.tmp 24) (Go.Operand.tmp 23), type := 0, pos := "l11_engine.go:188", after := #[{ on := 9, ground := Go.Ground.data }, { on := 8, ground := Go.Ground.data }, { on := 8, ground := Go.Ground.chain }, { on := 0, ground := Go.Ground.phase }, { on := 1, ground := Go.Ground.phase }, { on := 2, ground := Go.Ground.phase }, { on := 3, ground := Go.Ground.phase }, { on := 4, ground := Go.Ground.phase }, { on := 5, ground := Go.Ground.phase }, { on := 6, ground := Go.Ground.phase }, { on := 7, ground := Go.Ground.phase }, { on := 8, ground := Go.Ground.phase }], guard := none }) rfl (fun K hK => ?_) AllReadyH.nil
    go_simp
    skip
    (try go_wp2_with fail)
    refine hK.out _ _ ?_ (fun hHeld3 => ?_)
    · (first | (with_reducible exact ⟨Y2.out.five.1, Y2.out.five.2.1⟩) | (with_reducible exact ⟨V2.out.five.1, V2.out.five.2.1⟩) | (with_reducible exact ⟨T2.out.five.1, T2.out.five.2.1⟩) | exact ⟨Y2.out.five.1, Y2.out.five.2.1⟩)
    clear hK K hHeld2
    (try simp only [Act.put, List.setIfInBounds_toArray, List.set_cons_zero, List.set_cons_succ])
    refine wpAnyH_done (by kernel_rfl) ?_ _
    clear hHeld3
    have U1 : Hid (Eng (((w5.setCell ⟨x.db, k * 3, none⟩ (.int .i64 pl)).setCell ⟨x.db, k * 3 + 1, none⟩ (.int .i64 po)).setCell ⟨x.db, k * 3 + 2, none⟩ (.slice (some ⟨g5, q5, none⟩) 3 c5)) base x ⟨e.disk.set k (pl, po, [za, zb, zc]), e.mem, e.log, s', e.down⟩) := E7.out
    have U2 : Hid (Has (((w5.setCell ⟨x.db, k * 3, none⟩ (.int .i64 pl)).setCell ⟨x.db, k * 3 + 1, none⟩ (.int .i64 po)).setCell ⟨x.db, k * 3 + 2, none⟩ (.slice (some ⟨g5, q5, none⟩) 3 c5)) w.heap.size 60 (engC x ⟨e.disk.set k (pl, po, [za, zb, zc]), e.mem, e.log, s', e.down⟩)) := T2.out
    have U4 : Hid (Has (((w5.setCell ⟨x.db, k * 3, none⟩ (.int .i64 pl)).setCell ⟨x.db, k * 3 + 1, none⟩ (.int .i64 po)).setCell ⟨x.db, k * 3 + 2, none⟩ (.slice (some ⟨g5, q5, none⟩) 3 c5)) (w.heap.size + 1) 60 zeroEC) := T4.out
    have U5 : Hid (Frm x w x (((w5.setCell ⟨x.db, k * 3, none⟩ (.int .i64 pl)).setCell ⟨x.db, k * 3 + 1, none⟩ (.int .i64 po)).setCell ⟨x.db, k * 3 + 2, none⟩ (.slice (some ⟨g5, q5, none⟩) 3 c5))) := B7.out
    clear E7 T2 T4 B7 V2 V4 B6 n0 n1 n2 g0 g1 g2 c0 c1 c2 c3 c4 Y2 Y4 YB YE YD YR YP Z2 Z4 ZP InD HRb EZ BZ
    generalize (((w5.setCell ⟨x.db, k * 3, none⟩ (.int .i64 pl)).setCell ⟨x.db, k * 3 + 1, none⟩ (.int .i64 po)).setCell ⟨x.db, k * 3 + 2, none⟩ (.slice (some ⟨g5, q5, none⟩) 3 c5)) = w6 at *
    obtain ⟨c0, c1, c2, c3, c4⟩ := U2.out.five
    obtain ⟨y0, y1, y2, y3, y4⟩ := U4.out.five
    have t0 := U4.out.frozen 0
    have t1 := U4.out.frozen 1
    have t2 := U4.out.frozen 2
    have t3 := U4.out.frozen 3
    have t4 := U4.out.frozen 4
    go_wp2
    have HF : writeE e k = ⟨e.disk.set k (pl, po, [za, zb, zc]), e.mem, e.log, s', e.down⟩ := by rw [HW.out, HS.out]
    refine bodyPost_ret (v := engV x ⟨e.disk.set k (pl, po, [za, zb, zc]), e.mem, e.log, s', e.down⟩) (by simp [results, Try.results72, go_sem, y0, y1, y2, y3, y4]) rfl ⟨x, by rw [HF], ?_, U5.out.put5E (by omega) x ⟨e.disk.set k (pl, po, [za, zb, zc]), e.mem, e.log, s', e.down⟩⟩
    rw [HF]
    exact U1.out.box U4.out (by simp) (fun i _ hn => put5E_far (x := x) (e := ⟨e.disk.set k (pl, po, [za, zb, zc]), e.mem, e.log, s', e.down⟩) hn)
end Go.Proofs.Ytejbmjdipfcblaa.Base
