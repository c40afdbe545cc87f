/-
  Contract of the model's l12Own. Conditions: the engine lies in memory and keeps what holds throughout a play.
-/
import Derived.Test.YtejbmjdipfcblaaAddK
import Derived.Test.YtejbmjdipfcblaaMayK
namespace Go.Proofs.Ytejbmjdipfcblaa.Base
open Go.RowKit

set_option maxRecDepth 100000 in
set_option maxHeartbeats 4000000 in
theorem l12Own_any (base : Nat) (x : Ad) (e : EE) (t p n : Int) (w : World) (hbw : base ≤ w.heap.size) (he : Eng w base x e) (hi : Inv e) :
    Calls Try.prog 68 #[engV x e, .int .i64 t, .int .i64 p, .int .i64 n] w (RetEB base x (ownE e t p n) w) := by
  have HE := Lib.hid he
  have HI := Lib.hid hi
  have HM : Hid (∀ W, Below w.heap.size w W → Calls Try.prog 84 #[engV x e, .int .i64 t, .int .i64 p] W (Keeps (.bool (mayE e t p)) W)) := fun W hW => l12May_any base x e t p W (he.below hW) hi
  have h5 : Has ((w.alloc (.cells (engC x e) 60)).alloc (.cells zeroEC 60)) w.heap.size 60 (engC x e) := (Has.new w _ _).alloc _
  have h10 : Has ((w.alloc (.cells (engC x e) 60)).alloc (.cells zeroEC 60)) (w.heap.size + 1) 60 zeroEC := by
    have := Has.new (w.alloc (.cells (engC x e) 60)) 60 zeroEC
    rwa [World.size_alloc] at this
  have B1 : Hid (Below w.heap.size w ((w.alloc (.cells (engC x e) 60)).alloc (.cells zeroEC 60))) := below_two _ _ _
  have Z5 := Lib.hid h5
  have Z10 := Lib.hid h10
  clear he hi h5 h10
  go_enter Try.func68, Try.ntmps68
  go_upto_region 1 with (fail)
  generalize ((w.alloc (.cells (engC x e) 60)).alloc (.cells zeroEC 60)) = w1 at *
  obtain ⟨c0, c1, c2, c3, c4⟩ := Z5.out.five
  go_wp2_with fail
  refine (HM.out _ B1.out).mono ?_
  rintro en w2 ⟨rfl, b2⟩
  have X5 := Lib.hid (Z5.out.below b2 Z5.out.lt)
  have X10 := Lib.hid (Z10.out.below b2 Z10.out.lt)
  have B2 : Hid (Below w.heap.size w w2) := B1.out.trans (b2.mono B1.out.size)
  clear b2 Z5 Z10 B1 c0 c1 c2 c3 c4 HM
  generalize hm : mayE e t p = m at *
  have Hm := Lib.hid hm
  clear hm
  cases m
  · have HR : Hid (ownE e t p n = (e, false)) := by show ownE e t p n = _; unfold ownE ownB; rw [Hm.out]; rfl
    obtain ⟨c0, c1, c2, c3, c4⟩ := X5.out.five
    obtain ⟨y0, y1, y2, y3, y4⟩ := X10.out.five
    have t0 := X10.out.frozen 0
    have t1 := X10.out.frozen 1
    have t2 := X10.out.frozen 2
    have t3 := X10.out.frozen 3
    have t4 := X10.out.frozen 4
    go_wp2
    refine bodyPost_ret (v := .tuple #[engV x e, .bool false]) (by simp [results, Try.results68, go_sem, y0, y1, y2, y3, y4]) rfl ⟨x, by rw [HR.out], ?_, Frm.of_below (put5E_below B2.out (by omega) x e) rfl rfl⟩
    rw [HR.out]
    exact (HE.out.below B2.out).box X10.out (by simp) (fun i _ hn => put5E_far hn)
  · have hr := mayE_in Hm.out
    have hp0 := hr.2.1
    have hp4 := hr.2.2
    clear hr
    obtain ⟨k, rfl⟩ := Int.eq_ofNat_of_zero_le hp0
    have hk5 : k < 5 := by omega
    have k0 : (0 : Int) ≤ (k : Int) := by omega
    have k5 : (k : Int) < 5 := by omega
    obtain ⟨pg, hin, hsay, hlow⟩ := (HE.out.below B2.out).mem HI.out hk5
    have hok : okPP (pgE e.mem k) := (HI.out.m _ (mem_at HI.out.m5 (Int.natCast_nonneg k) (by omega))).1
    have h3 := hok.n
    rw [hsay] at h3
    obtain ⟨pl, po, pgb, pq, pc, pz⟩ := pg
    have hz3 : pz.length = 3 := h3
    have Hsay := Lib.hid hsay
    have In := Lib.hid hin
    have m1 := hin.c1
    have lpg : pgb < w2.heap.size := hin.wr.1
    have l5 := X5.out.lt
    have l10 := X10.out.lt
    have ls2 := B2.out.size
    clear hin hsay hok h3 hp0 hp4
    cases hs : inB n 0 3
    · have HS := Lib.hid hs
      have HR : Hid (ownE e t k n = (e, false)) := by show ownE e t k n = _; unfold ownE ownB; rw [Hm.out, hs]; rfl
      clear hs m1
      obtain ⟨c0, c1, c2, c3, c4⟩ := X5.out.five
      obtain ⟨y0, y1, y2, y3, y4⟩ := X10.out.five
      have t0 := X10.out.frozen 0
      have t1 := X10.out.frozen 1
      have t2 := X10.out.frozen 2
      have t3 := X10.out.frozen 3
      have t4 := X10.out.frozen 4
      go_wp2_with (go_at_call 43; refine (l6In_any _ _ _ _).mono ?_; rintro en w9 ⟨rfl, rfl⟩; first | rw [HS.out])
      refine bodyPost_ret (v := .tuple #[engV x e, .bool false]) (by simp [results, Try.results68, go_sem, y0, y1, y2, y3, y4]) rfl ⟨x, by rw [HR.out], ?_, Frm.of_below (put5E_below B2.out (by omega) x e) rfl rfl⟩
      rw [HR.out]
      exact (HE.out.below B2.out).box X10.out (by simp) (fun i _ hn => put5E_far hn)
    have HS := Lib.hid hs
    have HO : Hid ((pgE e.mem k).2.1 = po) := by show (pgE e.mem k).2.1 = po; rw [Hsay.out]; rfl
    have HZ : Hid ((pgE e.mem k).2.2 = pz) := by show (pgE e.mem k).2.2 = pz; rw [Hsay.out]; rfl
    have HOB : Hid (∀ a b, (po == 0) = a → (n == 0) = b → ownB e t k n = (!(a == b) && zerosB pz)) := fun a b ha hb => by
      unfold ownB
      rw [Hm.out, hs, HO.out, HZ.out, ha, hb]
      rfl
    clear hs
    obtain ⟨b1, hb1⟩ : ∃ b, (po == 0) = b := ⟨_, rfl⟩
    obtain ⟨b2, hb2⟩ : ∃ b, (n == 0) = b := ⟨_, rfl⟩
    have HOC := Lib.hid (HOB.out b1 b2 hb1 hb2)
    clear HOB
    cases heq : (b1 == b2)
    case true =>
      have HR : Hid (ownE e t k n = (e, false)) := by show ownE e t k n = _; unfold ownE; rw [HOC.out, heq]; rfl
      obtain ⟨c0, c1, c2, c3, c4⟩ := X5.out.five
      obtain ⟨y0, y1, y2, y3, y4⟩ := X10.out.five
      have t0 := X10.out.frozen 0
      have t1 := X10.out.frozen 1
      have t2 := X10.out.frozen 2
      have t3 := X10.out.frozen 3
      have t4 := X10.out.frozen 4
      go_wp2_with (go_at_call 43; refine (l6In_any _ _ _ _).mono ?_; rintro en w9 ⟨rfl, rfl⟩; first | rw [HS.out])
      refine bodyPost_ret (v := .tuple #[engV x e, .bool false]) (by simp [results, Try.results68, go_sem, y0, y1, y2, y3, y4]) rfl ⟨x, by rw [HR.out], ?_, Frm.of_below (put5E_below B2.out (by omega) x e) rfl rfl⟩
      rw [HR.out]
      exact (HE.out.below B2.out).box X10.out (by simp) (fun i _ hn => put5E_far hn)
    have m0 := In.out.c0
    have m2 := In.out.c2
    simp only [hz3] at m2
    have Hz3 := Lib.hid hz3
    clear hz3
    obtain ⟨c0, c1, c2, c3, c4⟩ := X5.out.five
    have HEM : Hid (∀ W, Below w2.heap.size w2 W → Calls Try.prog 86 #[pageV pl po (some ⟨pgb, pq, none⟩) 3 pc] W (Keeps (.bool (zerosB pz)) W)) := fun W hW => by
      have h := l1Empty_any pl po pz (some ⟨pgb, pq, none⟩) pc w2.heap.size W hW.size ((In.out.rd.ints lpg).below hW) (by have := Hz3.out; omega)
      rw [Hz3.out] at h
      exact h
    go_wp2_with (first
      | (go_at_call 43; refine (l6In_any _ _ _ _).mono ?_; rintro en w9 ⟨rfl, rfl⟩; first | rw [HS.out])
      | (go_at_call 86; fail))
    refine (HEM.out _ (Below.refl _ _)).mono ?_
    rintro en w4 ⟨rfl, b4⟩
    have X5' := Lib.hid (X5.out.below b4 l5)
    have X10' := Lib.hid (X10.out.below b4 l10)
    have B2' : Hid (Below w.heap.size w w4) := B2.out.trans (b4.mono ls2)
    have In' := Lib.hid (In.out.keep b4.size (b4.block _ In.out.lt) (b4.block _ In.out.wr.1))
    clear X5 X10 B2 In b4 c0 c1 c2 c3 c4 m0 m1 m2 HEM l5 l10 ls2 lpg
    have X5 := X5'
    have X10 := X10'
    have B2 := B2'
    have In := In'
    clear X5' X10' B2' In'
    have l5 := X5.out.lt
    have l10 := X10.out.lt
    have lpg : pgb < w4.heap.size := In.out.wr.1
    cases hz : zerosB pz
    case false =>
      have HR : Hid (ownE e t k n = (e, false)) := by show ownE e t k n = _; unfold ownE; rw [HOC.out, hz]; simp
      obtain ⟨c0, c1, c2, c3, c4⟩ := X5.out.five
      obtain ⟨y0, y1, y2, y3, y4⟩ := X10.out.five
      have t0 := X10.out.frozen 0
      have t1 := X10.out.frozen 1
      have t2 := X10.out.frozen 2
      have t3 := X10.out.frozen 3
      have t4 := X10.out.frozen 4
      go_wp2
      refine bodyPost_ret (v := .tuple #[engV x e, .bool false]) (by simp [results, Try.results68, go_sem, y0, y1, y2, y3, y4]) rfl ⟨x, by rw [HR.out], ?_, Frm.of_below (put5E_below B2.out (by omega) x e) rfl rfl⟩
      rw [HR.out]
      exact (HE.out.below B2.out).box X10.out (by simp) (fun i _ hn => put5E_far hn)
    have hB : ownB e t k n = true := by rw [HOC.out, heq, hz]; rfl
    have hRR : ownR e t k n = ⟨2, t, k, -1, po, n, 0, 0⟩ := by unfold ownR; rw [HO.out]
    have HR : Hid (ownE e t k n = addE e ⟨2, t, k, -1, po, n, 0, 0⟩) := by show ownE e t k n = _; unfold ownE; rw [hB, hRR]; rfl
    have HNX : Hid (Next e (withPrev e ⟨2, t, k, -1, po, n, 0, 0⟩)) := by show Next e _; rw [← hRR]; exact next_own HI.out hB
    have m1 := In.out.c1
    simp only at m1
    clear hB hRR
    obtain ⟨c0, c1, c2, c3, c4⟩ := X5.out.five
    obtain ⟨res, hres⟩ : ∃ r, addE e ⟨2, t, k, -1, po, n, 0, 0⟩ = r := ⟨_, rfl⟩
    obtain ⟨e3, b3⟩ := res
    have HA : Hid (∀ W, base ≤ W.heap.size → Eng W base x e → Calls Try.prog 85 #[engV x e, recV ⟨2, t, k, -1, po, n, 0, 0⟩] W (RetEB base x (e3, b3) W)) := fun W hW hE => by
      have h := l12Add_any base x e ⟨2, t, k, -1, po, n, 0, 0⟩ W hW hE HI.out HNX.out
      rw [hres] at h
      exact h
    have Hres := Lib.hid hres
    clear hres HNX
    have Y5 : Hid (Has w4.drew w.heap.size 60 (engC x e)) := X5.out.drew
    have Y10 : Hid (Has w4.drew (w.heap.size + 1) 60 zeroEC) := X10.out.drew
    have YB : Hid (Below w.heap.size w w4.drew) := B2.out.drew
    have EY : Hid (Eng w4.drew base x e) := HE.out.below YB.out
    have hbb2 : base ≤ w4.drew.heap.size := Nat.le_trans hbw YB.out.size
    go_upto_region 3 with (fail)
    clear c0 c1 c2 c3 c4
    refine wp_region_held_drew (S := (fun w' => w'.cell? ⟨w.heap.size, 0, none⟩ = some (.slice (some ⟨x.db, 0, none⟩) 5 x.dc) ∧ w'.cell? ⟨w.heap.size, 1, none⟩ = some (.slice (some ⟨x.mb, 0, none⟩) 5 x.mc) ∧ w'.cell? ⟨w.heap.size, 2, none⟩ = some (.slice (some ⟨x.lb, 0, none⟩) e.log.length x.lc) ∧ w'.cell? ⟨w.heap.size, 3, none⟩ = some (.int .i64 e.safe) ∧ w'.cell? ⟨w.heap.size, 4, none⟩ = some (.bool e.down))) (by kernel_rfl) ?_ (fun hHeld0 => ?_)
    · (first | (with_reducible exact Y5.out.five) | (with_reducible exact V5.out.five) | (with_reducible exact U5.out.five) | exact Y5.out.five)
    refine wpAnyH_take (i := 0) (oi := { dst := some 42, op := Go.Op.load 60 (Go.Operand.tmp 4), type := 60, pos := "l12_change.go:49", after := #[], guard := none }) (v := ?_) rfl (by kernel_rfl) (by kernel_rfl) (by kernel_rfl) (fun _ _ _ h => h) (Or.inl ⟨by rfl, ?_⟩) hHeld0 ?_
    rotate_left
    · (intro w hSw; (try dsimp only at hSw); go_simp; (first | done | (with_reducible rfl) | (rw [if_neg (by omega)]) | (rw [if_neg (by simp only [ByteArray.size_append]; omega)])))
    (try simp only [Act.put, List.setIfInBounds_toArray, List.set_cons_zero, List.set_cons_succ])
    refine wpAnyH_take (i := 1) (oi := { dst := some 43, op := Go.Op.move (Go.Operand.tmp 1), type := 3, pos := "l12_change.go:49", after := #[], guard := none }) (v := ?_) rfl (by kernel_rfl) (by kernel_rfl) (by kernel_rfl) (fun _ _ _ h => h) (Or.inl ⟨by rfl, ?_⟩) hHeld0 ?_
    rotate_left
    · (intro w hSw; (try dsimp only at hSw); go_simp; (first | done | (with_reducible rfl) | (rw [if_neg (by omega)]) | (rw [if_neg (by simp only [ByteArray.size_append]; omega)])))
    (try simp only [Act.put, List.setIfInBounds_toArray, List.set_cons_zero, List.set_cons_succ])
    refine wpAnyH_take (i := 2) (oi := { dst := some 44, op := Go.Op.move (Go.Operand.tmp 2), type := 3, pos := "l12_change.go:49", after := #[], guard := none }) (v := ?_) rfl (by kernel_rfl) (by kernel_rfl) (by kernel_rfl) (fun _ _ _ h => h) (Or.inl ⟨by rfl, ?_⟩) hHeld0 ?_
    rotate_left
    · (intro w hSw; (try dsimp only at hSw); go_simp; (first | done | (with_reducible rfl) | (rw [if_neg (by omega)]) | (rw [if_neg (by simp only [ByteArray.size_append]; omega)])))
    (try simp only [Act.put, List.setIfInBounds_toArray, List.set_cons_zero, List.set_cons_succ])
    refine wpAnyH_take (i := 3) (oi := { dst := some 45, op := Go.Op.fieldAddr 60 (Go.Operand.tmp 4) 1, type := 0, pos := "l12_change.go:49", after := #[], guard := none }) (v := ?_) rfl (by kernel_rfl) (by kernel_rfl) (by kernel_rfl) (fun _ _ _ h => h) (Or.inl ⟨by rfl, ?_⟩) hHeld0 ?_
    rotate_left
    · (intro w hSw; (try dsimp only at hSw); go_simp; (first | done | (with_reducible rfl) | (rw [if_neg (by omega)]) | (rw [if_neg (by simp only [ByteArray.size_append]; omega)])))
    (try simp only [Act.put, List.setIfInBounds_toArray, List.set_cons_zero, List.set_cons_succ])
    refine wpAnyH_take (i := 4) (oi := { dst := some 46, op := Go.Op.load 58 (Go.Operand.tmp 45), type := 58, pos := "l12_change.go:49", after := #[{ on := 3, ground := Go.Ground.data }], guard := none }) (v := ?_) rfl (by kernel_rfl) (by kernel_rfl) (by kernel_rfl) (fun _ _ _ h => h) (Or.inl ⟨by rfl, ?_⟩) hHeld0 ?_
    rotate_left
    · (intro w hSw; (try dsimp only at hSw); go_simp; (first | done | (with_reducible rfl) | (rw [if_neg (by omega)]) | (rw [if_neg (by simp only [ByteArray.size_append]; omega)])))
    (try simp only [Act.put, List.setIfInBounds_toArray, List.set_cons_zero, List.set_cons_succ])
    refine wpAnyH_take (i := 5) (oi := { dst := some 47, op := Go.Op.move (Go.Operand.tmp 2), type := 3, pos := "l12_change.go:49", after := #[], guard := none }) (v := ?_) rfl (by kernel_rfl) (by kernel_rfl) (by kernel_rfl) (fun _ _ _ h => h) (Or.inl ⟨by rfl, ?_⟩) hHeld0 ?_
    rotate_left
    · (intro w hSw; (try dsimp only at hSw); go_simp; (first | done | (with_reducible rfl) | (rw [if_neg (by omega)]) | (rw [if_neg (by simp only [ByteArray.size_append]; omega)])))
    (try simp only [Act.put, List.setIfInBounds_toArray, List.set_cons_zero, List.set_cons_succ])
    refine wpAnyH_take (i := 6) (oi := { dst := some 48, op := Go.Op.indexAddr 58 (Go.Operand.tmp 46) (Go.Operand.tmp 47), type := 0, pos := "l12_change.go:49", after := #[{ on := 4, ground := Go.Ground.data }, { on := 5, ground := Go.Ground.data }], guard := none }) (v := ?_) rfl (by kernel_rfl) (by kernel_rfl) (by kernel_rfl) (fun _ _ _ h => h) (Or.inl ⟨by rfl, ?_⟩) hHeld0 ?_
    rotate_left
    · (intro w hSw; (try dsimp only at hSw); go_simp; (first | done | (with_reducible rfl) | (rw [if_neg (by omega)]) | (rw [if_neg (by simp only [ByteArray.size_append]; omega)])))
    (try simp only [Act.put, List.setIfInBounds_toArray, List.set_cons_zero, List.set_cons_succ])
    refine wpAnyH_take (i := 7) (oi := { dst := some 49, op := Go.Op.fieldAddr 94 (Go.Operand.tmp 48) 1, type := 0, pos := "l12_change.go:49", after := #[{ on := 6, ground := Go.Ground.data }], guard := none }) (v := ?_) rfl (by kernel_rfl) (by kernel_rfl) (by kernel_rfl) (fun _ _ _ h => h) (Or.inl ⟨by rfl, ?_⟩) hHeld0 ?_
    rotate_left
    · (intro w hSw; (try dsimp only at hSw); go_simp; (first | done | (with_reducible rfl) | (rw [if_neg (by omega)]) | (rw [if_neg (by simp only [ByteArray.size_append]; omega)])))
    (try simp only [Act.put, List.setIfInBounds_toArray, List.set_cons_zero, List.set_cons_succ])
    refine wpAnyH_take (i := 9) (oi := { dst := some 51, op := Go.Op.move (Go.Operand.tmp 3), type := 3, pos := "l12_change.go:49", after := #[], guard := none }) (v := ?_) rfl (by kernel_rfl) (by kernel_rfl) (by kernel_rfl) (fun _ _ _ h => h) (Or.inl ⟨by rfl, ?_⟩) hHeld0 ?_
    rotate_left
    · (intro w hSw; (try dsimp only at hSw); go_simp; (first | done | (with_reducible rfl) | (rw [if_neg (by omega)]) | (rw [if_neg (by simp only [ByteArray.size_append]; omega)])))
    (try simp only [Act.put, List.setIfInBounds_toArray, List.set_cons_zero, List.set_cons_succ])
    refine wpAnyH_ready (rs := [8]) (by kernel_rfl) (by simp) ?_
    refine AllReadyH.cons (o := { dst := some 50, op := Go.Op.load 3 (Go.Operand.tmp 49), type := 3, pos := "l12_change.go:49", after := #[{ on := 7, ground := Go.Ground.data }], guard := none }) rfl (fun K hK => ?_) AllReadyH.nil
    go_simp
    skip
    (try go_wp2_with fail)
    refine hK.out _ _ ?_ (fun hHeld1 => ?_)
    · (first | (with_reducible exact Y5.out.five) | (with_reducible exact V5.out.five) | (with_reducible exact U5.out.five) | exact Y5.out.five)
    clear hK K hHeld0
    (try simp only [Act.put, List.setIfInBounds_toArray, List.set_cons_zero, List.set_cons_succ])
    refine wpAnyH_take (i := 10) (oi := { dst := some 52, op := Go.Op.build 27 #[(0, Go.Operand.const (Go.Value.int Go.IntKind.i64 2)), (1, Go.Operand.tmp 43), (2, Go.Operand.tmp 44), (3, Go.Operand.const (Go.Value.int Go.IntKind.i64 (-1))), (4, Go.Operand.tmp 50), (5, Go.Operand.tmp 51)], type := 27, pos := "l12_change.go:49", after := #[{ on := 1, ground := Go.Ground.data }, { on := 2, ground := Go.Ground.data }, { on := 8, ground := Go.Ground.data }, { on := 9, ground := Go.Ground.data }], guard := none }) (v := ?_) rfl (by kernel_rfl) (by kernel_rfl) (by kernel_rfl) (fun _ _ _ h => h) (Or.inl ⟨by rfl, ?_⟩) hHeld1 ?_
    rotate_left
    · (intro w hSw; (try dsimp only at hSw); go_simp; (first | done | (with_reducible rfl) | (rw [if_neg (by omega)]) | (rw [if_neg (by simp only [ByteArray.size_append]; omega)])))
    (try simp only [Act.put, List.setIfInBounds_toArray, List.set_cons_zero, List.set_cons_succ])
    refine wpAnyH_ready (rs := [11]) (by kernel_rfl) (by simp) ?_
    refine AllReadyH.cons (o := { dst := some 53, op := Go.Op.call { callee := Go.Callee.value (Go.Operand.func 85), args := #[Go.Operand.tmp 42, Go.Operand.tmp 52], argTypes := #[60, 27] }, type := 96, pos := "l12_change.go:49", after := #[{ on := 0, ground := Go.Ground.data }, { on := 10, ground := Go.Ground.data }], guard := none }) rfl (fun K hK => ?_) AllReadyH.nil
    go_simp
    refine (HA.out _ hbb2 EY.out).mono ?_
    rintro en w3 ⟨x3, rfl, E3, F3⟩
    have n5 := EY.out.ne_eng Y5.out
    have n10 := EY.out.ne_eng Y10.out
    have V5 := Lib.hid (F3.has Y5.out n5.1 n5.2)
    have V10 := Lib.hid (F3.has Y10.out n10.1 n10.2)
    have VF := Lib.hid ((Frm.of_below YB.out rfl rfl).trans F3)
    have VE := Lib.hid E3
    obtain ⟨y0, y1, y2, y3, y4⟩ := V10.out.five
    have t0 := V10.out.frozen 0
    have t1 := V10.out.frozen 1
    have t2 := V10.out.frozen 2
    have t3 := V10.out.frozen 3
    have t4 := V10.out.frozen 4
    have U5 := Lib.hid (V5.out.keep (put5E_far (b := w.heap.size + 1) (x := x3) (e := e3) (by omega)))
    clear F3 E3 n5 n10
    (try go_wp2_with fail)
    refine hK.out _ _ ?_ (fun hHeld2 => ?_)
    · (first | (with_reducible exact Y5.out.five) | (with_reducible exact V5.out.five) | (with_reducible exact U5.out.five) | exact Y5.out.five)
    clear hK K hHeld1
    (try simp only [Act.put, List.setIfInBounds_toArray, List.set_cons_zero, List.set_cons_succ])
    refine wpAnyH_take (i := 12) (oi := { dst := some 54, op := Go.Op.extract (Go.Operand.tmp 53) 0, type := 60, pos := "l12_change.go:49", after := #[{ on := 11, ground := Go.Ground.data }], guard := none }) (v := ?_) rfl (by kernel_rfl) (by kernel_rfl) (by kernel_rfl) (fun _ _ _ h => h) (Or.inl ⟨by rfl, ?_⟩) hHeld2 ?_
    rotate_left
    · (intro w hSw; (try dsimp only at hSw); go_simp; (first | done | (with_reducible rfl) | (rw [if_neg (by omega)]) | (rw [if_neg (by simp only [ByteArray.size_append]; omega)])))
    (try simp only [Act.put, List.setIfInBounds_toArray, List.set_cons_zero, List.set_cons_succ])
    refine wpAnyH_take (i := 13) (oi := { dst := some 55, op := Go.Op.extract (Go.Operand.tmp 53) 1, type := 4, pos := "l12_change.go:49", after := #[{ on := 11, ground := Go.Ground.data }], guard := none }) (v := ?_) rfl (by kernel_rfl) (by kernel_rfl) (by kernel_rfl) (fun _ _ _ h => h) (Or.inl ⟨by rfl, ?_⟩) hHeld2 ?_
    rotate_left
    · (intro w hSw; (try dsimp only at hSw); go_simp; (first | done | (with_reducible rfl) | (rw [if_neg (by omega)]) | (rw [if_neg (by simp only [ByteArray.size_append]; omega)])))
    (try simp only [Act.put, List.setIfInBounds_toArray, List.set_cons_zero, List.set_cons_succ])
    refine wpAnyH_ready (rs := [14]) (by kernel_rfl) (by simp) ?_
    refine AllReadyH.cons (o := { dst := none, op := Go.Op.store 60 (Go.Operand.tmp 8) (Go.Operand.tmp 54), type := 0, pos := "l12_change.go:49", after := #[{ on := 12, ground := Go.Ground.data }, { on := 11, ground := Go.Ground.chain }, { on := 0, ground := Go.Ground.phase }, { on := 1, ground := Go.Ground.phase }, { on := 2, ground := Go.Ground.phase }, { on := 3, ground := Go.Ground.phase }, { on := 4, ground := Go.Ground.phase }, { on := 5, ground := Go.Ground.phase }, { on := 6, ground := Go.Ground.phase }, { on := 7, ground := Go.Ground.phase }, { on := 8, ground := Go.Ground.phase }, { on := 9, ground := Go.Ground.phase }, { on := 10, ground := Go.Ground.phase }, { on := 11, ground := Go.Ground.phase }, { on := 12, ground := Go.Ground.phase }, { on := 13, ground := Go.Ground.phase }], guard := none }) rfl (fun K hK => ?_) AllReadyH.nil
    go_simp
    skip
    (try go_wp2_with fail)
    refine hK.out _ _ ?_ (fun hHeld3 => ?_)
    · (first | (with_reducible exact Y5.out.five) | (with_reducible exact V5.out.five) | (with_reducible exact U5.out.five) | exact Y5.out.five)
    clear hK K hHeld2
    (try simp only [Act.put, List.setIfInBounds_toArray, List.set_cons_zero, List.set_cons_succ])
    refine wpAnyH_take (i := 15) (oi := { dst := some 9, op := Go.Op.assign (Go.Operand.tmp 55), type := 4, pos := "l12_change.go:49", after := #[{ on := 13, ground := Go.Ground.data }, { on := 14, ground := Go.Ground.chain }, { on := 0, ground := Go.Ground.phase }, { on := 1, ground := Go.Ground.phase }, { on := 2, ground := Go.Ground.phase }, { on := 3, ground := Go.Ground.phase }, { on := 4, ground := Go.Ground.phase }, { on := 5, ground := Go.Ground.phase }, { on := 6, ground := Go.Ground.phase }, { on := 7, ground := Go.Ground.phase }, { on := 8, ground := Go.Ground.phase }, { on := 9, ground := Go.Ground.phase }, { on := 10, ground := Go.Ground.phase }, { on := 11, ground := Go.Ground.phase }, { on := 12, ground := Go.Ground.phase }, { on := 13, ground := Go.Ground.phase }, { on := 14, ground := Go.Ground.phase }], guard := none }) (v := ?_) rfl (by kernel_rfl) (by kernel_rfl) (by kernel_rfl) (fun _ _ _ h => h) (Or.inl ⟨by rfl, ?_⟩) hHeld3 ?_
    rotate_left
    · (intro w hSw; (try dsimp only at hSw); go_simp; (first | done | (with_reducible rfl) | (rw [if_neg (by omega)]) | (rw [if_neg (by simp only [ByteArray.size_append]; omega)])))
    (try simp only [Act.put, List.setIfInBounds_toArray, List.set_cons_zero, List.set_cons_succ])
    refine wpAnyH_done (by kernel_rfl) ?_ _
    clear hHeld3
    go_wp2
    refine bodyPost_ret (v := .tuple #[engV x3 e3, .bool b3]) (by simp [results, Try.results68, go_sem, y0, y1, y2, y3, y4]) rfl ⟨x3, by rw [HR.out, Hres.out], ?_, VF.out.put5E (by omega) x3 e3⟩
    rw [HR.out, Hres.out]
    exact VE.out.box V10.out (by simp) (fun i _ hn => put5E_far hn)
end Go.Proofs.Ytejbmjdipfcblaa.Base
