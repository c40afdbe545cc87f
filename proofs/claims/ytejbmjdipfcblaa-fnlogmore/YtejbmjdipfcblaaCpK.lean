/-
  Contracts of the model's l11Copy and EngineNew. Conditions: the engine lies in memory and keeps what holds throughout a play.
-/
import Derived.Test.YtejbmjdipfcblaaRecStepK
import Derived.Test.YtejbmjdipfcblaaPagesRK
namespace Go.Proofs.Ytejbmjdipfcblaa.Base
open Go.RowKit

/-- no engine's cells -/
abbrev zeroEC : Array Value := #[.slice none 0 0, .slice none 0 0, .slice none 0 0, .int .i64 0, .bool false]
/-- what hands on five pages that say this -/
def Gives5 (xs : List PP) (w : World) (e : Ending) (w' : World) : Prop := ∃ b c, e = .returned (.slice (some ⟨b, 0, none⟩) 5 c) ∧ Below w.heap.size w w' ∧ Ps5 w' w.heap.size b c xs
theorem copyPages5 (base b c : Nat) (xs : List PP) (w : World) (hp : Ps5 w base b c xs) (h5 : xs.length = 5) (h3 : ∀ q ∈ xs, q.2.2.length = 3) :
    Calls Try.prog 75 #[.slice (some ⟨b, 0, none⟩) 5 c] w (Gives5 xs w) := by
  obtain ⟨ps, h1, h2, h4⟩ := hp.row h5
  have h := l11CopyPages_any ps b c base w.heap.size w (Nat.le_refl _) h4 (fun p hp => h3 p.says (by rw [← h1]; exact List.mem_map_of_mem hp)) (by omega)
  rw [h2] at h
  refine h.mono ?_
  rintro e w' ⟨v, qs, rfl, hq, hb, ho⟩
  rw [h1] at hq
  have hl : qs.length = 5 := by rw [← h5, ← hq, List.length_map]
  obtain ⟨b', c', rfl⟩ := ho.five hl
  exact ⟨b', c', rfl, hb, qs, hq, ho⟩
theorem three_all {e : EE} (hi : Inv e) : (∀ q ∈ e.disk, q.2.2.length = 3) ∧ ∀ q ∈ e.mem, q.2.2.length = 3 := ⟨fun q hq => (hi.d q hq).1.n, fun q hq => (hi.m q hq).1.n⟩

/-- where l11Copy stands -/
structure CpSt (w0 wx : World) (x : Ad) (e : EE) (od om : Option (Nat × Nat)) (ol : Option (Value × List R)) : Prop where
  low : Below w0.heap.size w0 wx
  bx : Has wx w0.heap.size 60 (engC x e)
  bz : Has wx (w0.heap.size + 1) 60 zeroEC
  fd : ∀ b c, od = some (b, c) → Ps5 wx w0.heap.size b c e.disk
  fm : ∀ b c, om = some (b, c) → Ps5 wx w0.heap.size b c e.mem
  ne : ∀ b c b' c', od = some (b, c) → om = some (b', c') → b ≠ b'
  fl : ∀ v rs, ol = some (v, rs) → OwnRs wx w0.heap.size v rs
section
variable {w0 wx wy : World} {x : Ad} {e : EE} {od om : Option (Nat × Nat)} {ol : Option (Value × List R)}
theorem CpSt.grow (h : CpSt w0 wx x e od om ol) (k : Below wx.heap.size wx wy) : CpSt w0 wy x e od om ol :=
  ⟨h.low.trans (k.mono h.low.size), h.bx.below k h.bx.lt, h.bz.below k h.bz.lt, fun b c hb => (h.fd b c hb).below k, fun b c hb => (h.fm b c hb).below k, h.ne, fun v rs hv => (h.fl v rs hv).below k⟩
theorem CpSt.drewN (h : CpSt w0 wx x e od om ol) (n : Nat) : CpSt w0 (wx.drewN n) x e od om ol := h.grow ⟨rfl, rfl, rfl, Nat.le_refl _, fun _ _ => rfl⟩
theorem CpSt.disk {b c : Nat} (h : CpSt w0 wx x e none om ol) (k : Below wx.heap.size wx wy) (hp : Ps5 wy wx.heap.size b c e.disk) : CpSt w0 wy x e (some (b, c)) om ol := by
  have g := h.grow k
  have hl := hp.lt.1
  refine ⟨g.low, g.bx, g.bz, fun b' c' hb => ?_, g.fm, fun b1 c1 b2 c2 h1 h2 => ?_, g.fl⟩
  · injection hb with hb
    injection hb with h1 h2
    subst h1 h2
    exact hp.down h.low.size
  · injection h1 with h1
    injection h1 with h1 h3
    have := (h.fm b2 c2 h2).lt.2
    omega
theorem CpSt.mem {b c : Nat} (h : CpSt w0 wx x e od none ol) (k : Below wx.heap.size wx wy) (hp : Ps5 wy wx.heap.size b c e.mem) : CpSt w0 wy x e od (some (b, c)) ol := by
  have g := h.grow k
  have hl := hp.lt.1
  refine ⟨g.low, g.bx, g.bz, g.fd, fun b' c' hb => ?_, fun b1 c1 b2 c2 h1 h2 => ?_, g.fl⟩
  · injection hb with hb
    injection hb with h1 h2
    subst h1 h2
    exact hp.down h.low.size
  · injection h2 with h2
    injection h2 with h2 h3
    have := (h.fd b1 c1 h1).lt.2
    omega
theorem CpSt.empty (h : CpSt w0 wx x e od om none) : CpSt w0 (wx.alloc (.cells #[] 27)) x e od om (some (.slice (some ⟨wx.heap.size, 0, none⟩) 0 0, [])) := by
  have g := h.grow (below_one wx (.cells #[] 27))
  refine ⟨g.low, g.bx, g.bz, g.fd, g.fm, g.ne, fun v rs hv => ?_⟩
  injection hv with hv
  injection hv with h1 h2
  subst h1 h2
  exact OwnRs.empty (Has.new wx _ _) h.low.size
theorem CpSt.copied {g n c b' n' c' : Nat} {qs : List R} (h : CpSt w0 wx x e od om (some (.slice (some ⟨g, 0, none⟩) n c, []))) (ho : OwnRs wy w0.heap.size (.slice (some ⟨b', 0, none⟩) n' c') qs) (k : wx.grownBy wy (some g)) :
    CpSt w0 wy x e od om (some (.slice (some ⟨b', 0, none⟩) n' c', qs)) := by
  have hr := h.fl _ _ rfl
  obtain ⟨cs, hh⟩ := hr.has
  have hg := hr.lt'
  refine ⟨h.low.trans (below_grown k hg.1 h.low.size), h.bx.grown k (fun e => (Has.ne_kind h.bx hh (by decide)) (by injection e)), h.bz.grown k (fun e => (Has.ne_kind h.bz hh (by decide)) (by injection e)),
    fun b c hb => (h.fd b c hb).grownRec k hh, fun b c hb => (h.fm b c hb).grownRec k hh, h.ne, fun v rs hv => ?_⟩
  injection hv with hv
  injection hv with h1 h2
  subst h1 h2
  exact ho
/-- another block is as it was: the pages and records of an engine do not lie in one that holds an engine -/
theorem CpSt.done {bd cd bm cm bl cl : Nat} (h : CpSt w0 wx x e (some (bd, cd)) (some (bm, cm)) (some (.slice (some ⟨bl, 0, none⟩) e.log.length cl, e.log))) :
    Eng (put5E wx (w0.heap.size + 1) ⟨bd, cd, bm, cm, bl, cl⟩ e) w0.heap.size ⟨bd, cd, bm, cm, bl, cl⟩ e := by
  have hd := h.fd _ _ rfl
  have hm := h.fm _ _ rfl
  have hr := h.fl _ _ rfl
  obtain ⟨c1, k1⟩ := hd.has
  obtain ⟨c2, k2⟩ := hm.has
  obtain ⟨c3, k3⟩ := hr.has
  have E : Eng wx w0.heap.size ⟨bd, cd, bm, cm, bl, cl⟩ e := ⟨hd, hm, hr, h.ne _ _ _ _ rfl rfl⟩
  exact E.box h.bz (by simp) (fun i _ hn => put5E_far hn)
end

set_option maxHeartbeats 4000000 in
theorem l11Copy_any (base : Nat) (x : Ad) (e : EE) (w : World) (he : Eng w base x e) (hi : Inv e) :
    Calls Try.prog 51 #[engV x e] w (fun en w' => ∃ y, en = .returned (engV y e) ∧ Eng w' w.heap.size y e ∧ Below w.heap.size w w') := by
  have HE := Lib.hid he
  have HI := Lib.hid hi
  have hl150 := log_len hi.log
  have S0 : CpSt w ((w.alloc (.cells (engC x e) 60)).alloc (.cells zeroEC 60)) x e none none none := by
    refine ⟨below_two _ _ _, (Has.new w _ _).alloc _, by have := Has.new (w.alloc (.cells (engC x e) 60)) 60 zeroEC; rwa [World.size_alloc] at this, fun _ _ h => (by cases h), fun _ _ h => (by cases h), fun _ _ _ _ h => (by cases h), fun _ _ h => (by cases h)⟩
  have Sx := Lib.hid S0
  clear he hi S0
  go_enter Try.func51, Try.ntmps51
  go_upto_region 1 with (fail)
  generalize ((w.alloc (.cells (engC x e) 60)).alloc (.cells zeroEC 60)) = w1 at *
  have St : Hid (CpSt w w1.drew x e none none none) := Sx.out.drewN 1
  obtain ⟨c0, c1, c2, c3, c4⟩ := Sx.out.bx.five
  clear Sx
  refine wp_region_held_drew (S := (fun w' => w'.cell? ⟨w.heap.size, 0, none⟩ = some (.slice (some ⟨x.db, 0, none⟩) 5 x.dc) ∧ w'.cell? ⟨w.heap.size, 1, none⟩ = some (.slice (some ⟨x.mb, 0, none⟩) 5 x.mc) ∧ w'.cell? ⟨w.heap.size, 2, none⟩ = some (.slice (some ⟨x.lb, 0, none⟩) e.log.length x.lc) ∧ w'.cell? ⟨w.heap.size, 3, none⟩ = some (.int .i64 e.safe) ∧ w'.cell? ⟨w.heap.size, 4, none⟩ = some (.bool e.down))) (by kernel_rfl) ?_ (fun hHeld0 => ?_)
  · (first | (with_reducible exact St.out.bx.five) | (with_reducible exact (St.out.bx.keep (put5E_far (b := w.heap.size + 1) (x := ⟨bd, cd, bm, cm, bl, cl⟩) (e := e) (by omega))).five) | exact St.out.bx.five)
  refine wpAnyH_take (i := 0) (oi := { dst := some 3, op := Go.Op.fieldAddr 60 (Go.Operand.tmp 1) 0, type := 0, pos := "l11_engine.go:42", after := #[], guard := none }) (v := ?_) rfl (by kernel_rfl) (by kernel_rfl) (by kernel_rfl) (fun _ _ _ h => h) (Or.inl ⟨by rfl, ?_⟩) hHeld0 ?_
  rotate_left
  · (intro w hSw; (try dsimp only at hSw); go_simp; (first | done | (with_reducible rfl) | (rw [if_neg (by omega)]) | (rw [if_neg (by simp only [ByteArray.size_append]; omega)])))
  (try simp only [Act.put, List.setIfInBounds_toArray, List.set_cons_zero, List.set_cons_succ])
  refine wpAnyH_take (i := 1) (oi := { dst := some 4, op := Go.Op.load 58 (Go.Operand.tmp 3), type := 58, pos := "l11_engine.go:42", after := #[{ on := 0, ground := Go.Ground.data }], guard := none }) (v := ?_) rfl (by kernel_rfl) (by kernel_rfl) (by kernel_rfl) (fun _ _ _ h => h) (Or.inl ⟨by rfl, ?_⟩) hHeld0 ?_
  rotate_left
  · (intro w hSw; (try dsimp only at hSw); go_simp; (first | done | (with_reducible rfl) | (rw [if_neg (by omega)]) | (rw [if_neg (by simp only [ByteArray.size_append]; omega)])))
  (try simp only [Act.put, List.setIfInBounds_toArray, List.set_cons_zero, List.set_cons_succ])
  refine wpAnyH_take (i := 3) (oi := { dst := some 6, op := Go.Op.fieldAddr 60 (Go.Operand.tmp 1) 1, type := 0, pos := "l11_engine.go:42", after := #[], guard := none }) (v := ?_) rfl (by kernel_rfl) (by kernel_rfl) (by kernel_rfl) (fun _ _ _ h => h) (Or.inl ⟨by rfl, ?_⟩) hHeld0 ?_
  rotate_left
  · (intro w hSw; (try dsimp only at hSw); go_simp; (first | done | (with_reducible rfl) | (rw [if_neg (by omega)]) | (rw [if_neg (by simp only [ByteArray.size_append]; omega)])))
  (try simp only [Act.put, List.setIfInBounds_toArray, List.set_cons_zero, List.set_cons_succ])
  refine wpAnyH_take (i := 4) (oi := { dst := some 7, op := Go.Op.load 58 (Go.Operand.tmp 6), type := 58, pos := "l11_engine.go:42", after := #[{ on := 3, ground := Go.Ground.data }], guard := none }) (v := ?_) rfl (by kernel_rfl) (by kernel_rfl) (by kernel_rfl) (fun _ _ _ h => h) (Or.inl ⟨by rfl, ?_⟩) hHeld0 ?_
  rotate_left
  · (intro w hSw; (try dsimp only at hSw); go_simp; (first | done | (with_reducible rfl) | (rw [if_neg (by omega)]) | (rw [if_neg (by simp only [ByteArray.size_append]; omega)])))
  (try simp only [Act.put, List.setIfInBounds_toArray, List.set_cons_zero, List.set_cons_succ])
  refine wpAnyH_take (i := 7) (oi := { dst := some 10, op := Go.Op.fieldAddr 60 (Go.Operand.tmp 1) 2, type := 0, pos := "l11_engine.go:42", after := #[], guard := none }) (v := ?_) rfl (by kernel_rfl) (by kernel_rfl) (by kernel_rfl) (fun _ _ _ h => h) (Or.inl ⟨by rfl, ?_⟩) hHeld0 ?_
  rotate_left
  · (intro w hSw; (try dsimp only at hSw); go_simp; (first | done | (with_reducible rfl) | (rw [if_neg (by omega)]) | (rw [if_neg (by simp only [ByteArray.size_append]; omega)])))
  (try simp only [Act.put, List.setIfInBounds_toArray, List.set_cons_zero, List.set_cons_succ])
  refine wpAnyH_take (i := 8) (oi := { dst := some 11, op := Go.Op.load 23 (Go.Operand.tmp 10), type := 23, pos := "l11_engine.go:42", after := #[{ on := 7, ground := Go.Ground.data }], guard := none }) (v := ?_) rfl (by kernel_rfl) (by kernel_rfl) (by kernel_rfl) (fun _ _ _ h => h) (Or.inl ⟨by rfl, ?_⟩) hHeld0 ?_
  rotate_left
  · (intro w hSw; (try dsimp only at hSw); go_simp; (first | done | (with_reducible rfl) | (rw [if_neg (by omega)]) | (rw [if_neg (by simp only [ByteArray.size_append]; omega)])))
  (try simp only [Act.put, List.setIfInBounds_toArray, List.set_cons_zero, List.set_cons_succ])
  refine wpAnyH_take (i := 10) (oi := { dst := some 13, op := Go.Op.fieldAddr 60 (Go.Operand.tmp 1) 3, type := 0, pos := "l11_engine.go:42", after := #[], guard := none }) (v := ?_) rfl (by kernel_rfl) (by kernel_rfl) (by kernel_rfl) (fun _ _ _ h => h) (Or.inl ⟨by rfl, ?_⟩) hHeld0 ?_
  rotate_left
  · (intro w hSw; (try dsimp only at hSw); go_simp; (first | done | (with_reducible rfl) | (rw [if_neg (by omega)]) | (rw [if_neg (by simp only [ByteArray.size_append]; omega)])))
  (try simp only [Act.put, List.setIfInBounds_toArray, List.set_cons_zero, List.set_cons_succ])
  refine wpAnyH_take (i := 11) (oi := { dst := some 14, op := Go.Op.load 3 (Go.Operand.tmp 13), type := 3, pos := "l11_engine.go:42", after := #[{ on := 10, ground := Go.Ground.data }], guard := none }) (v := ?_) rfl (by kernel_rfl) (by kernel_rfl) (by kernel_rfl) (fun _ _ _ h => h) (Or.inl ⟨by rfl, ?_⟩) hHeld0 ?_
  rotate_left
  · (intro w hSw; (try dsimp only at hSw); go_simp; (first | done | (with_reducible rfl) | (rw [if_neg (by omega)]) | (rw [if_neg (by simp only [ByteArray.size_append]; omega)])))
  (try simp only [Act.put, List.setIfInBounds_toArray, List.set_cons_zero, List.set_cons_succ])
  refine wpAnyH_take (i := 12) (oi := { dst := some 15, op := Go.Op.fieldAddr 60 (Go.Operand.tmp 1) 4, type := 0, pos := "l11_engine.go:42", after := #[], guard := none }) (v := ?_) rfl (by kernel_rfl) (by kernel_rfl) (by kernel_rfl) (fun _ _ _ h => h) (Or.inl ⟨by rfl, ?_⟩) hHeld0 ?_
  rotate_left
  · (intro w hSw; (try dsimp only at hSw); go_simp; (first | done | (with_reducible rfl) | (rw [if_neg (by omega)]) | (rw [if_neg (by simp only [ByteArray.size_append]; omega)])))
  (try simp only [Act.put, List.setIfInBounds_toArray, List.set_cons_zero, List.set_cons_succ])
  refine wpAnyH_take (i := 13) (oi := { dst := some 16, op := Go.Op.load 4 (Go.Operand.tmp 15), type := 4, pos := "l11_engine.go:42", after := #[{ on := 12, ground := Go.Ground.data }], guard := none }) (v := ?_) rfl (by kernel_rfl) (by kernel_rfl) (by kernel_rfl) (fun _ _ _ h => h) (Or.inl ⟨by rfl, ?_⟩) hHeld0 ?_
  rotate_left
  · (intro w hSw; (try dsimp only at hSw); go_simp; (first | done | (with_reducible rfl) | (rw [if_neg (by omega)]) | (rw [if_neg (by simp only [ByteArray.size_append]; omega)])))
  (try simp only [Act.put, List.setIfInBounds_toArray, List.set_cons_zero, List.set_cons_succ])
  refine wpAnyH_ready (rs := [2, 6]) (by kernel_rfl) (by simp) ?_
  refine AllReadyH.cons (o := { dst := some 5, op := Go.Op.call { callee := Go.Callee.value (Go.Operand.func 75), args := #[Go.Operand.tmp 4], argTypes := #[58] }, type := 58, pos := "l11_engine.go:42", after := #[{ on := 1, ground := Go.Ground.data }], guard := none }) rfl (fun K hK => ?_) (AllReadyH.cons (o := { dst := some 9, op := Go.Op.buildSlice 23 0 #[], type := 23, pos := "l11_engine.go:42", after := #[], guard := none }) rfl (fun K hK => ?_) AllReadyH.nil)
  · go_simp
    refine (copyPages5 base x.db x.dc e.disk _ (HE.out.below St.out.low).d HI.out.d5 (three_all HI.out).1).mono ?_
    rintro en wy ⟨bd, cd, rfl, hb, hp⟩
    have St' := Lib.hid (St.out.disk hb hp)
    clear St hb hp c0 c1 c2 c3 c4
    have St := St'
    clear St'
    obtain ⟨c0, c1, c2, c3, c4⟩ := St.out.bx.five
    (try go_wp2_with fail)
    refine hK.out _ _ ?_ (fun hHeld1 => ?_)
    · (first | (with_reducible exact St.out.bx.five) | (with_reducible exact (St.out.bx.keep (put5E_far (b := w.heap.size + 1) (x := ⟨bd, cd, bm, cm, bl, cl⟩) (e := e) (by omega))).five) | exact St.out.bx.five)
    clear hK K hHeld0
    (try simp only [Act.put, List.setIfInBounds_toArray, List.set_cons_zero, List.set_cons_succ])
    refine wpAnyH_ready (rs := [5, 6]) (by kernel_rfl) (by simp) ?_
    refine AllReadyH.cons (o := { dst := some 8, op := Go.Op.call { callee := Go.Callee.value (Go.Operand.func 75), args := #[Go.Operand.tmp 7], argTypes := #[58] }, type := 58, pos := "l11_engine.go:42", after := #[{ on := 4, ground := Go.Ground.data }, { on := 2, ground := Go.Ground.chain }], guard := none }) rfl (fun K hK => ?_) (AllReadyH.cons (o := { dst := some 9, op := Go.Op.buildSlice 23 0 #[], type := 23, pos := "l11_engine.go:42", after := #[], guard := none }) rfl (fun K hK => ?_) AllReadyH.nil)
    · go_simp
      refine (copyPages5 base x.mb x.mc e.mem _ (HE.out.below St.out.low).m HI.out.m5 (three_all HI.out).2).mono ?_
      rintro en wz ⟨bm, cm, rfl, hb, hp⟩
      have St' := Lib.hid (St.out.mem hb hp)
      clear St hb hp c0 c1 c2 c3 c4
      have St := St'
      clear St'
      obtain ⟨c0, c1, c2, c3, c4⟩ := St.out.bx.five
      (try go_wp2_with fail)
      refine hK.out _ _ ?_ (fun hHeld2 => ?_)
      · (first | (with_reducible exact St.out.bx.five) | (with_reducible exact (St.out.bx.keep (put5E_far (b := w.heap.size + 1) (x := ⟨bd, cd, bm, cm, bl, cl⟩) (e := e) (by omega))).five) | exact St.out.bx.five)
      clear hK K hHeld1
      (try simp only [Act.put, List.setIfInBounds_toArray, List.set_cons_zero, List.set_cons_succ])
      refine wpAnyH_ready (rs := [6]) (by kernel_rfl) (by simp) ?_
      refine AllReadyH.cons (o := { dst := some 9, op := Go.Op.buildSlice 23 0 #[], type := 23, pos := "l11_engine.go:42", after := #[], guard := none }) rfl (fun K hK => ?_) AllReadyH.nil
      go_simp
      have St' := Lib.hid St.out.empty
      clear St c0 c1 c2 c3 c4
      have St := St'
      clear St'
      obtain ⟨c0, c1, c2, c3, c4⟩ := St.out.bx.five
      (try go_wp2_with fail)
      refine hK.out _ _ ?_ (fun hHeld3 => ?_)
      · (first | (with_reducible exact St.out.bx.five) | (with_reducible exact (St.out.bx.keep (put5E_far (b := w.heap.size + 1) (x := ⟨bd, cd, bm, cm, bl, cl⟩) (e := e) (by omega))).five) | exact St.out.bx.five)
      clear hK K hHeld2
      (try simp only [Act.put, List.setIfInBounds_toArray, List.set_cons_zero, List.set_cons_succ])
      refine wpAnyH_ready (rs := [9]) (by kernel_rfl) (by simp) ?_
      refine AllReadyH.cons (o := { dst := some 12, op := Go.Op.call { callee := Go.Callee.builtin Go.Builtin.append, args := #[Go.Operand.tmp 9, Go.Operand.tmp 11], argTypes := #[23, 23] }, type := 23, pos := "l11_engine.go:42", after := #[{ on := 6, ground := Go.Ground.data }, { on := 8, ground := Go.Ground.data }, { on := 5, ground := Go.Ground.chain }], guard := none }) rfl (fun K hK => ?_) AllReadyH.nil
      refine step_append_recs0 _ (by rfl) _ _ (by rfl) w.heap.size _ (by rfl) (St.out.fl _ _ rfl) x.lb 0 _ x.lc e.log (by rfl) (by rfl) (HE.out.below St.out.low).l.rd.2.1 (by omega) St.out.low.size ?_
      intro bl cl wu ho k hbl
      have St' := Lib.hid (St.out.copied ho k)
      clear St ho k hbl c0 c1 c2 c3 c4
      have St := St'
      clear St'
      obtain ⟨c0, c1, c2, c3, c4⟩ := St.out.bx.five
      obtain ⟨y0, y1, y2, y3, y4⟩ := St.out.bz.five
      have t0 := St.out.bz.frozen 0
      have t1 := St.out.bz.frozen 1
      have t2 := St.out.bz.frozen 2
      have t3 := St.out.bz.frozen 3
      have t4 := St.out.bz.frozen 4
      (try go_wp2_with fail)
      refine hK.out _ _ ?_ (fun hHeld4 => ?_)
      · (first | (with_reducible exact St.out.bx.five) | (with_reducible exact (St.out.bx.keep (put5E_far (b := w.heap.size + 1) (x := ⟨bd, cd, bm, cm, bl, cl⟩) (e := e) (by omega))).five) | exact St.out.bx.five)
      clear hK K hHeld3
      (try simp only [Act.put, List.setIfInBounds_toArray, List.set_cons_zero, List.set_cons_succ])
      refine wpAnyH_take (i := 14) (oi := { dst := some 17, op := Go.Op.build 60 #[(0, Go.Operand.tmp 5), (1, Go.Operand.tmp 8), (2, Go.Operand.tmp 12), (3, Go.Operand.tmp 14), (4, Go.Operand.tmp 16)], type := 60, pos := "l11_engine.go:42", after := #[{ on := 2, ground := Go.Ground.data }, { on := 5, ground := Go.Ground.data }, { on := 9, ground := Go.Ground.data }, { on := 11, ground := Go.Ground.data }, { on := 13, ground := Go.Ground.data }], guard := none }) (v := ?_) rfl (by kernel_rfl) (by kernel_rfl) (by kernel_rfl) (fun _ _ _ h => h) (Or.inl ⟨by rfl, ?_⟩) hHeld4 ?_
      rotate_left
      · (intro w hSw; (try dsimp only at hSw); go_simp; (first | done | (with_reducible rfl) | (rw [if_neg (by omega)]) | (rw [if_neg (by simp only [ByteArray.size_append]; omega)])))
      (try simp only [Act.put, List.setIfInBounds_toArray, List.set_cons_zero, List.set_cons_succ])
      refine wpAnyH_ready (rs := [15]) (by kernel_rfl) (by simp) ?_
      refine AllReadyH.cons (o := { dst := none, op := Go.Op.store 60 (Go.Operand.tmp 2) (Go.Operand.tmp 17), type := 0, pos := "l11_engine.go:42", after := #[{ on := 14, ground := Go.Ground.data }, { on := 9, ground := Go.Ground.chain }, { on := 0, ground := Go.Ground.phase }, { on := 1, ground := Go.Ground.phase }, { on := 2, ground := Go.Ground.phase }, { on := 3, ground := Go.Ground.phase }, { on := 4, ground := Go.Ground.phase }, { on := 5, ground := Go.Ground.phase }, { on := 6, ground := Go.Ground.phase }, { on := 7, ground := Go.Ground.phase }, { on := 8, ground := Go.Ground.phase }, { on := 9, ground := Go.Ground.phase }, { on := 10, ground := Go.Ground.phase }, { on := 11, ground := Go.Ground.phase }, { on := 12, ground := Go.Ground.phase }, { on := 13, ground := Go.Ground.phase }, { on := 14, ground := Go.Ground.phase }], guard := none }) rfl (fun K hK => ?_) AllReadyH.nil
      go_simp
      skip
      (try go_wp2_with fail)
      refine hK.out _ _ ?_ (fun hHeld5 => ?_)
      · (first | (with_reducible exact St.out.bx.five) | (with_reducible exact (St.out.bx.keep (put5E_far (b := w.heap.size + 1) (x := ⟨bd, cd, bm, cm, bl, cl⟩) (e := e) (by omega))).five) | exact St.out.bx.five)
      clear hK K hHeld4
      (try simp only [Act.put, List.setIfInBounds_toArray, List.set_cons_zero, List.set_cons_succ])
      refine wpAnyH_done (by kernel_rfl) ?_ _
      clear hHeld5
      go_wp2
      refine bodyPost_ret (v := engV ⟨bd, cd, bm, cm, bl, cl⟩ e) (by simp [results, Try.results51, go_sem, y0, y1, y2, y3, y4]) rfl ⟨⟨bd, cd, bm, cm, bl, cl⟩, rfl, ?_, put5E_below St.out.low (by omega) ⟨bd, cd, bm, cm, bl, cl⟩ e⟩
      exact CpSt.done St.out
    · go_simp
      have St' := Lib.hid St.out.empty
      clear St c0 c1 c2 c3 c4
      have St := St'
      clear St'
      obtain ⟨c0, c1, c2, c3, c4⟩ := St.out.bx.five
      (try go_wp2_with fail)
      refine hK.out _ _ ?_ (fun hHeld2 => ?_)
      · (first | (with_reducible exact St.out.bx.five) | (with_reducible exact (St.out.bx.keep (put5E_far (b := w.heap.size + 1) (x := ⟨bd, cd, bm, cm, bl, cl⟩) (e := e) (by omega))).five) | exact St.out.bx.five)
      clear hK K hHeld1
      (try simp only [Act.put, List.setIfInBounds_toArray, List.set_cons_zero, List.set_cons_succ])
      refine wpAnyH_ready (rs := [5]) (by kernel_rfl) (by simp) ?_
      refine AllReadyH.cons (o := { dst := some 8, op := Go.Op.call { callee := Go.Callee.value (Go.Operand.func 75), args := #[Go.Operand.tmp 7], argTypes := #[58] }, type := 58, pos := "l11_engine.go:42", after := #[{ on := 4, ground := Go.Ground.data }, { on := 2, ground := Go.Ground.chain }], guard := none }) rfl (fun K hK => ?_) AllReadyH.nil
      go_simp
      refine (copyPages5 base x.mb x.mc e.mem _ (HE.out.below St.out.low).m HI.out.m5 (three_all HI.out).2).mono ?_
      rintro en wz ⟨bm, cm, rfl, hb, hp⟩
      have St' := Lib.hid (St.out.mem hb hp)
      clear St hb hp c0 c1 c2 c3 c4
      have St := St'
      clear St'
      obtain ⟨c0, c1, c2, c3, c4⟩ := St.out.bx.five
      (try go_wp2_with fail)
      refine hK.out _ _ ?_ (fun hHeld3 => ?_)
      · (first | (with_reducible exact St.out.bx.five) | (with_reducible exact (St.out.bx.keep (put5E_far (b := w.heap.size + 1) (x := ⟨bd, cd, bm, cm, bl, cl⟩) (e := e) (by omega))).five) | exact St.out.bx.five)
      clear hK K hHeld2
      (try simp only [Act.put, List.setIfInBounds_toArray, List.set_cons_zero, List.set_cons_succ])
      refine wpAnyH_ready (rs := [9]) (by kernel_rfl) (by simp) ?_
      refine AllReadyH.cons (o := { dst := some 12, op := Go.Op.call { callee := Go.Callee.builtin Go.Builtin.append, args := #[Go.Operand.tmp 9, Go.Operand.tmp 11], argTypes := #[23, 23] }, type := 23, pos := "l11_engine.go:42", after := #[{ on := 6, ground := Go.Ground.data }, { on := 8, ground := Go.Ground.data }, { on := 5, ground := Go.Ground.chain }], guard := none }) rfl (fun K hK => ?_) AllReadyH.nil
      refine step_append_recs0 _ (by rfl) _ _ (by rfl) w.heap.size _ (by rfl) (St.out.fl _ _ rfl) x.lb 0 _ x.lc e.log (by rfl) (by rfl) (HE.out.below St.out.low).l.rd.2.1 (by omega) St.out.low.size ?_
      intro bl cl wu ho k hbl
      have St' := Lib.hid (St.out.copied ho k)
      clear St ho k hbl c0 c1 c2 c3 c4
      have St := St'
      clear St'
      obtain ⟨c0, c1, c2, c3, c4⟩ := St.out.bx.five
      obtain ⟨y0, y1, y2, y3, y4⟩ := St.out.bz.five
      have t0 := St.out.bz.frozen 0
      have t1 := St.out.bz.frozen 1
      have t2 := St.out.bz.frozen 2
      have t3 := St.out.bz.frozen 3
      have t4 := St.out.bz.frozen 4
      (try go_wp2_with fail)
      refine hK.out _ _ ?_ (fun hHeld4 => ?_)
      · (first | (with_reducible exact St.out.bx.five) | (with_reducible exact (St.out.bx.keep (put5E_far (b := w.heap.size + 1) (x := ⟨bd, cd, bm, cm, bl, cl⟩) (e := e) (by omega))).five) | exact St.out.bx.five)
      clear hK K hHeld3
      (try simp only [Act.put, List.setIfInBounds_toArray, List.set_cons_zero, List.set_cons_succ])
      refine wpAnyH_take (i := 14) (oi := { dst := some 17, op := Go.Op.build 60 #[(0, Go.Operand.tmp 5), (1, Go.Operand.tmp 8), (2, Go.Operand.tmp 12), (3, Go.Operand.tmp 14), (4, Go.Operand.tmp 16)], type := 60, pos := "l11_engine.go:42", after := #[{ on := 2, ground := Go.Ground.data }, { on := 5, ground := Go.Ground.data }, { on := 9, ground := Go.Ground.data }, { on := 11, ground := Go.Ground.data }, { on := 13, ground := Go.Ground.data }], guard := none }) (v := ?_) rfl (by kernel_rfl) (by kernel_rfl) (by kernel_rfl) (fun _ _ _ h => h) (Or.inl ⟨by rfl, ?_⟩) hHeld4 ?_
      rotate_left
      · (intro w hSw; (try dsimp only at hSw); go_simp; (first | done | (with_reducible rfl) | (rw [if_neg (by omega)]) | (rw [if_neg (by simp only [ByteArray.size_append]; omega)])))
      (try simp only [Act.put, List.setIfInBounds_toArray, List.set_cons_zero, List.set_cons_succ])
      refine wpAnyH_ready (rs := [15]) (by kernel_rfl) (by simp) ?_
      refine AllReadyH.cons (o := { dst := none, op := Go.Op.store 60 (Go.Operand.tmp 2) (Go.Operand.tmp 17), type := 0, pos := "l11_engine.go:42", after := #[{ on := 14, ground := Go.Ground.data }, { on := 9, ground := Go.Ground.chain }, { on := 0, ground := Go.Ground.phase }, { on := 1, ground := Go.Ground.phase }, { on := 2, ground := Go.Ground.phase }, { on := 3, ground := Go.Ground.phase }, { on := 4, ground := Go.Ground.phase }, { on := 5, ground := Go.Ground.phase }, { on := 6, ground := Go.Ground.phase }, { on := 7, ground := Go.Ground.phase }, { on := 8, ground := Go.Ground.phase }, { on := 9, ground := Go.Ground.phase }, { on := 10, ground := Go.Ground.phase }, { on := 11, ground := Go.Ground.phase }, { on := 12, ground := Go.Ground.phase }, { on := 13, ground := Go.Ground.phase }, { on := 14, ground := Go.Ground.phase }], guard := none }) rfl (fun K hK => ?_) AllReadyH.nil
      go_simp
      skip
      (try go_wp2_with fail)
      refine hK.out _ _ ?_ (fun hHeld5 => ?_)
      · (first | (with_reducible exact St.out.bx.five) | (with_reducible exact (St.out.bx.keep (put5E_far (b := w.heap.size + 1) (x := ⟨bd, cd, bm, cm, bl, cl⟩) (e := e) (by omega))).five) | exact St.out.bx.five)
      clear hK K hHeld4
      (try simp only [Act.put, List.setIfInBounds_toArray, List.set_cons_zero, List.set_cons_succ])
      refine wpAnyH_done (by kernel_rfl) ?_ _
      clear hHeld5
      go_wp2
      refine bodyPost_ret (v := engV ⟨bd, cd, bm, cm, bl, cl⟩ e) (by simp [results, Try.results51, go_sem, y0, y1, y2, y3, y4]) rfl ⟨⟨bd, cd, bm, cm, bl, cl⟩, rfl, ?_, put5E_below St.out.low (by omega) ⟨bd, cd, bm, cm, bl, cl⟩ e⟩
      exact CpSt.done St.out
  · go_simp
    have St' := Lib.hid St.out.empty
    clear St c0 c1 c2 c3 c4
    have St := St'
    clear St'
    obtain ⟨c0, c1, c2, c3, c4⟩ := St.out.bx.five
    (try go_wp2_with fail)
    refine hK.out _ _ ?_ (fun hHeld1 => ?_)
    · (first | (with_reducible exact St.out.bx.five) | (with_reducible exact (St.out.bx.keep (put5E_far (b := w.heap.size + 1) (x := ⟨bd, cd, bm, cm, bl, cl⟩) (e := e) (by omega))).five) | exact St.out.bx.five)
    clear hK K hHeld0
    (try simp only [Act.put, List.setIfInBounds_toArray, List.set_cons_zero, List.set_cons_succ])
    refine wpAnyH_ready (rs := [2]) (by kernel_rfl) (by simp) ?_
    refine AllReadyH.cons (o := { dst := some 5, op := Go.Op.call { callee := Go.Callee.value (Go.Operand.func 75), args := #[Go.Operand.tmp 4], argTypes := #[58] }, type := 58, pos := "l11_engine.go:42", after := #[{ on := 1, ground := Go.Ground.data }], guard := none }) rfl (fun K hK => ?_) AllReadyH.nil
    go_simp
    refine (copyPages5 base x.db x.dc e.disk _ (HE.out.below St.out.low).d HI.out.d5 (three_all HI.out).1).mono ?_
    rintro en wy ⟨bd, cd, rfl, hb, hp⟩
    have St' := Lib.hid (St.out.disk hb hp)
    clear St hb hp c0 c1 c2 c3 c4
    have St := St'
    clear St'
    obtain ⟨c0, c1, c2, c3, c4⟩ := St.out.bx.five
    (try go_wp2_with fail)
    refine hK.out _ _ ?_ (fun hHeld2 => ?_)
    · (first | (with_reducible exact St.out.bx.five) | (with_reducible exact (St.out.bx.keep (put5E_far (b := w.heap.size + 1) (x := ⟨bd, cd, bm, cm, bl, cl⟩) (e := e) (by omega))).five) | exact St.out.bx.five)
    clear hK K hHeld1
    (try simp only [Act.put, List.setIfInBounds_toArray, List.set_cons_zero, List.set_cons_succ])
    refine wpAnyH_ready (rs := [5]) (by kernel_rfl) (by simp) ?_
    refine AllReadyH.cons (o := { dst := some 8, op := Go.Op.call { callee := Go.Callee.value (Go.Operand.func 75), args := #[Go.Operand.tmp 7], argTypes := #[58] }, type := 58, pos := "l11_engine.go:42", after := #[{ on := 4, ground := Go.Ground.data }, { on := 2, ground := Go.Ground.chain }], guard := none }) rfl (fun K hK => ?_) AllReadyH.nil
    go_simp
    refine (copyPages5 base x.mb x.mc e.mem _ (HE.out.below St.out.low).m HI.out.m5 (three_all HI.out).2).mono ?_
    rintro en wz ⟨bm, cm, rfl, hb, hp⟩
    have St' := Lib.hid (St.out.mem hb hp)
    clear St hb hp c0 c1 c2 c3 c4
    have St := St'
    clear St'
    obtain ⟨c0, c1, c2, c3, c4⟩ := St.out.bx.five
    (try go_wp2_with fail)
    refine hK.out _ _ ?_ (fun hHeld3 => ?_)
    · (first | (with_reducible exact St.out.bx.five) | (with_reducible exact (St.out.bx.keep (put5E_far (b := w.heap.size + 1) (x := ⟨bd, cd, bm, cm, bl, cl⟩) (e := e) (by omega))).five) | exact St.out.bx.five)
    clear hK K hHeld2
    (try simp only [Act.put, List.setIfInBounds_toArray, List.set_cons_zero, List.set_cons_succ])
    refine wpAnyH_ready (rs := [9]) (by kernel_rfl) (by simp) ?_
    refine AllReadyH.cons (o := { dst := some 12, op := Go.Op.call { callee := Go.Callee.builtin Go.Builtin.append, args := #[Go.Operand.tmp 9, Go.Operand.tmp 11], argTypes := #[23, 23] }, type := 23, pos := "l11_engine.go:42", after := #[{ on := 6, ground := Go.Ground.data }, { on := 8, ground := Go.Ground.data }, { on := 5, ground := Go.Ground.chain }], guard := none }) rfl (fun K hK => ?_) AllReadyH.nil
    refine step_append_recs0 _ (by rfl) _ _ (by rfl) w.heap.size _ (by rfl) (St.out.fl _ _ rfl) x.lb 0 _ x.lc e.log (by rfl) (by rfl) (HE.out.below St.out.low).l.rd.2.1 (by omega) St.out.low.size ?_
    intro bl cl wu ho k hbl
    have St' := Lib.hid (St.out.copied ho k)
    clear St ho k hbl c0 c1 c2 c3 c4
    have St := St'
    clear St'
    obtain ⟨c0, c1, c2, c3, c4⟩ := St.out.bx.five
    obtain ⟨y0, y1, y2, y3, y4⟩ := St.out.bz.five
    have t0 := St.out.bz.frozen 0
    have t1 := St.out.bz.frozen 1
    have t2 := St.out.bz.frozen 2
    have t3 := St.out.bz.frozen 3
    have t4 := St.out.bz.frozen 4
    (try go_wp2_with fail)
    refine hK.out _ _ ?_ (fun hHeld4 => ?_)
    · (first | (with_reducible exact St.out.bx.five) | (with_reducible exact (St.out.bx.keep (put5E_far (b := w.heap.size + 1) (x := ⟨bd, cd, bm, cm, bl, cl⟩) (e := e) (by omega))).five) | exact St.out.bx.five)
    clear hK K hHeld3
    (try simp only [Act.put, List.setIfInBounds_toArray, List.set_cons_zero, List.set_cons_succ])
    refine wpAnyH_take (i := 14) (oi := { dst := some 17, op := Go.Op.build 60 #[(0, Go.Operand.tmp 5), (1, Go.Operand.tmp 8), (2, Go.Operand.tmp 12), (3, Go.Operand.tmp 14), (4, Go.Operand.tmp 16)], type := 60, pos := "l11_engine.go:42", after := #[{ on := 2, ground := Go.Ground.data }, { on := 5, ground := Go.Ground.data }, { on := 9, ground := Go.Ground.data }, { on := 11, ground := Go.Ground.data }, { on := 13, ground := Go.Ground.data }], guard := none }) (v := ?_) rfl (by kernel_rfl) (by kernel_rfl) (by kernel_rfl) (fun _ _ _ h => h) (Or.inl ⟨by rfl, ?_⟩) hHeld4 ?_
    rotate_left
    · (intro w hSw; (try dsimp only at hSw); go_simp; (first | done | (with_reducible rfl) | (rw [if_neg (by omega)]) | (rw [if_neg (by simp only [ByteArray.size_append]; omega)])))
    (try simp only [Act.put, List.setIfInBounds_toArray, List.set_cons_zero, List.set_cons_succ])
    refine wpAnyH_ready (rs := [15]) (by kernel_rfl) (by simp) ?_
    refine AllReadyH.cons (o := { dst := none, op := Go.Op.store 60 (Go.Operand.tmp 2) (Go.Operand.tmp 17), type := 0, pos := "l11_engine.go:42", after := #[{ on := 14, ground := Go.Ground.data }, { on := 9, ground := Go.Ground.chain }, { on := 0, ground := Go.Ground.phase }, { on := 1, ground := Go.Ground.phase }, { on := 2, ground := Go.Ground.phase }, { on := 3, ground := Go.Ground.phase }, { on := 4, ground := Go.Ground.phase }, { on := 5, ground := Go.Ground.phase }, { on := 6, ground := Go.Ground.phase }, { on := 7, ground := Go.Ground.phase }, { on := 8, ground := Go.Ground.phase }, { on := 9, ground := Go.Ground.phase }, { on := 10, ground := Go.Ground.phase }, { on := 11, ground := Go.Ground.phase }, { on := 12, ground := Go.Ground.phase }, { on := 13, ground := Go.Ground.phase }, { on := 14, ground := Go.Ground.phase }], guard := none }) rfl (fun K hK => ?_) AllReadyH.nil
    go_simp
    skip
    (try go_wp2_with fail)
    refine hK.out _ _ ?_ (fun hHeld5 => ?_)
    · (first | (with_reducible exact St.out.bx.five) | (with_reducible exact (St.out.bx.keep (put5E_far (b := w.heap.size + 1) (x := ⟨bd, cd, bm, cm, bl, cl⟩) (e := e) (by omega))).five) | exact St.out.bx.five)
    clear hK K hHeld4
    (try simp only [Act.put, List.setIfInBounds_toArray, List.set_cons_zero, List.set_cons_succ])
    refine wpAnyH_done (by kernel_rfl) ?_ _
    clear hHeld5
    go_wp2
    refine bodyPost_ret (v := engV ⟨bd, cd, bm, cm, bl, cl⟩ e) (by simp [results, Try.results51, go_sem, y0, y1, y2, y3, y4]) rfl ⟨⟨bd, cd, bm, cm, bl, cl⟩, rfl, ?_, put5E_below St.out.low (by omega) ⟨bd, cd, bm, cm, bl, cl⟩ e⟩
    exact CpSt.done St.out
end Go.Proofs.Ytejbmjdipfcblaa.Base
