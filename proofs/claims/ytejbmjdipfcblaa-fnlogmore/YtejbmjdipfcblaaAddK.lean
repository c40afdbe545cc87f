/-
  Contract of the model's l12Add. Conditions: the engine lies in memory and keeps what holds throughout a play; the record, with the number of the last one, may follow.
-/
import Derived.Test.YtejbmjdipfcblaaEngPutK
import Derived.Deep.CutBlock
import Derived.Deep.DeepCutAuto
import Derived.StillTailTactics
namespace Go.Proofs.Ytejbmjdipfcblaa.Base
open Go.RowKit

/-- where l12Add stands while it makes the new log -/
structure AdSt (w0 wx : World) (x : Ad) (e : EE) (r : R) (ol : Option (Value × List R)) (one : Option Nat) : Prop where
  low : Below w0.heap.size w0 wx
  b2 : Has wx w0.heap.size 60 (engC x e)
  b3 : Has wx (w0.heap.size + 1) 27 (recC r)
  b4 : Has wx (w0.heap.size + 2) 60 zeroEC
  fl : ∀ v rs, ol = some (v, rs) → OwnRs wx (w0.heap.size + 3) v rs
  fo : ∀ b, one = some b → Has wx b 27 (recC r) ∧ w0.heap.size + 3 ≤ b
  ne : ∀ v rs b, ol = some (v, rs) → one = some b → v.ownBlock ≠ some b
section
variable {w0 wx wy : World} {x : Ad} {e : EE} {r : R} {ol : Option (Value × List R)} {one : Option Nat}
theorem AdSt.grow (h : AdSt w0 wx x e r ol one) (k : Below wx.heap.size wx wy) : AdSt w0 wy x e r ol one :=
  ⟨h.low.trans (k.mono h.low.size), h.b2.below k h.b2.lt, h.b3.below k h.b3.lt, h.b4.below k h.b4.lt, fun v rs hv => (h.fl v rs hv).below k, fun b hb => ⟨(h.fo b hb).1.below k (h.fo b hb).1.lt, (h.fo b hb).2⟩, h.ne⟩
theorem AdSt.drewN (h : AdSt w0 wx x e r ol one) (n : Nat) : AdSt w0 (wx.drewN n) x e r ol one := h.grow ⟨rfl, rfl, rfl, Nat.le_refl _, fun _ _ => rfl⟩
theorem AdSt.size (h : AdSt w0 wx x e r ol one) : w0.heap.size + 3 ≤ wx.heap.size := by
  have := h.b4.lt
  omega
theorem AdSt.empty {n : Nat} (h : AdSt w0 wx x e r none one) (hn : wx.heap.size = n) : AdSt w0 (wx.alloc (.cells #[] 27)) x e r (some (.slice (some ⟨n, 0, none⟩) 0 0, [])) one := by
  subst hn
  have g := h.grow (below_one wx (.cells #[] 27))
  have l4 := h.b4.lt
  refine ⟨g.low, g.b2, g.b3, g.b4, fun v rs hv => ?_, g.fo, fun v rs b hv hb => ?_⟩
  · injection hv with hv
    injection hv with h1 h2
    subst h1 h2
    exact OwnRs.empty (Has.new wx _ _) (by omega)
  · injection hv with hv
    injection hv with h1 h2
    subst h1
    have := (h.fo b hb).1.lt
    simp [Value.ownBlock]
    omega
theorem AdSt.single {n : Nat} (h : AdSt w0 wx x e r ol none) (hn : wx.heap.size = n) : AdSt w0 (wx.alloc (.cells (recC r) 27)) x e r ol (some n) := by
  subst hn
  have g := h.grow (below_one wx (.cells (recC r) 27))
  have l4 := h.b4.lt
  refine ⟨g.low, g.b2, g.b3, g.b4, g.fl, fun b hb => ?_, fun v rs b hv hb => ?_⟩
  · injection hb with hb
    subst hb
    exact ⟨Has.new wx _ _, by omega⟩
  · injection hb with hb
    subst hb
    intro hg
    have := (World.ownsRow.lt (h.fl v rs hv).row _ hg).2
    omega
theorem AdSt.copied {g n c b' n' c' : Nat} {rs qs : List R} (h : AdSt w0 wx x e r (some (.slice (some ⟨g, 0, none⟩) n c, rs)) one) (ho : OwnRs wy (w0.heap.size + 3) (.slice (some ⟨b', 0, none⟩) n' c') qs) (k : wx.grownBy wy (some g)) (hb' : some g = some b' ∨ b' = wx.heap.size) :
    AdSt w0 wy x e r (some (.slice (some ⟨b', 0, none⟩) n' c', qs)) one := by
  have hr := h.fl _ _ rfl
  have hg := hr.lt'
  refine ⟨h.low.trans (below_grown k (by omega) h.low.size), h.b2.grown k (fun e => by injection e; omega), h.b3.grown k (fun e => by injection e; omega), h.b4.grown k (fun e => by injection e; omega), fun v rs hv => ?_, fun b hb => ?_, fun v rs b hv hb => ?_⟩
  · injection hv with hv
    injection hv with h1 h2
    subst h1 h2
    exact ho
  · have hn := h.ne _ _ b rfl hb
    exact ⟨(h.fo b hb).1.grown k (fun e => hn (by simpa [Value.ownBlock] using e.symm)), (h.fo b hb).2⟩
  · injection hv with hv
    injection hv with h1 h2
    subst h1
    have hn := h.ne _ _ b rfl hb
    have hl := (h.fo b hb).1.lt
    rcases hb' with hb' | hb'
    · injection hb' with hb'
      subst hb'
      simpa [Value.ownBlock] using hn
    · simp [Value.ownBlock]
      omega
end
theorem needN_good {e : EE} {r : R} (h : Inv e) (hn : Next e r) : Good (e.log ++ [r]) := fun j hj => by
  rw [List.length_append] at hj
  simp at hj
  rcases Nat.lt_succ_iff_lt_or_eq.1 hj with hj | rfl
  · rw [recAt_more _ _ hj]
    exact good_of_log h.log j hj
  · rw [recAt_new]
    have h1 := lastN_le e.log r.t e.log.length
    have h2 := hn.v
    have h3 := hn.x
    have h4 := okR_next _ hn.ok
    exact ⟨⟨by omega, by omega⟩, by omega, by omega⟩

theorem OwnRs.lower {w : World} {base base' : Nat} {v : Value} {rs : List R} (h : OwnRs w base v rs) (hb : base' ≤ base) : OwnRs w base' v rs := ⟨⟨h.row.1, by
  rcases h.row.2 with hn | ⟨g, cap, cur, e, hlow, rest⟩
  · exact .inl hn
  · exact .inr ⟨g, cap, cur, e, Nat.le_trans hb hlow, rest⟩⟩, h.ne⟩

set_option maxRecDepth 100000 in
set_option maxHeartbeats 4000000 in
theorem l12Add_any (base : Nat) (x : Ad) (e : EE) (r : R) (w : World) (hbw : base ≤ w.heap.size) (he : Eng w base x e) (hi : Inv e) (hn : Next e (withPrev e r)) :
    Calls Try.prog 85 #[engV x e, recV r] w (RetEB base x (addE e r) w) := by
  have HE := Lib.hid he
  have HI := Lib.hid hi
  have HN := Lib.hid hn
  have hl150 := log_len hi.log
  have HL : Hid (∀ W, Recs W w.heap.size (some ⟨x.lb, 0, none⟩) e.log → Calls Try.prog 33 #[.slice (some ⟨x.lb, 0, none⟩) e.log.length x.lc, .int .i64 r.t] W fun en w' => en = .returned (.int .i64 (lastN e.log r.t e.log.length)) ∧ W = w') := fun W h => l3Last_any e.log e.log.length r.t _ x.lc w.heap.size W (Nat.le_refl _) h (by omega)
  have HW : Hid (withPrev e r = ⟨r.k, r.t, r.p, r.s, r.o, r.n, (lastN e.log r.t e.log.length : Int), r.x⟩) := rfl
  have HA : Hid (addE e r = if roomB e (withPrev e r) then (pushE e (withPrev e r), true) else (e, false)) := rfl
  have h2 : Has (((w.alloc (.cells (engC x e) 60)).alloc (.cells (recC r) 27)).alloc (.cells zeroEC 60)) w.heap.size 60 (engC x e) := ((Has.new w _ _).alloc _).alloc _
  have h3 : Has (((w.alloc (.cells (engC x e) 60)).alloc (.cells (recC r) 27)).alloc (.cells zeroEC 60)) (w.heap.size + 1) 27 (recC r) := by
    have := (Has.new (w.alloc (.cells (engC x e) 60)) 27 (recC r)).alloc (.cells zeroEC 60)
    rwa [World.size_alloc] at this
  have h4 : Has (((w.alloc (.cells (engC x e) 60)).alloc (.cells (recC r) 27)).alloc (.cells zeroEC 60)) (w.heap.size + 2) 60 zeroEC := by
    have := Has.new ((w.alloc (.cells (engC x e) 60)).alloc (.cells (recC r) 27)) 60 zeroEC
    rwa [World.size_alloc, World.size_alloc] at this
  have B0 : Hid (Below w.heap.size w (((w.alloc (.cells (engC x e) 60)).alloc (.cells (recC r) 27)).alloc (.cells zeroEC 60))) := (below_two _ _ _).alloc (by simp; omega) _
  have H2 := Lib.hid h2
  have H3 := Lib.hid h3
  have H4 := Lib.hid h4
  clear he hi hn h2 h3 h4
  go_enter Try.func85, Try.ntmps85
  go_upto_region 1 with (fail)
  generalize (((w.alloc (.cells (engC x e) 60)).alloc (.cells (recC r) 27)).alloc (.cells zeroEC 60)) = w1 at *
  obtain ⟨c0, c1, c2, c3, c4⟩ := H2.out.five
  obtain ⟨d0, d1, d2, d3, d4, d5, d6, d7⟩ := eight H3.out
  have f6 := H3.out.frozen 6
  go_wp2_with fail
  refine (HL.out _ (HE.out.recs.below B0.out)).mono ?_
  rintro en w2 ⟨rfl, rfl⟩
  generalize hlast : lastN e.log r.t e.log.length = la at *
  obtain ⟨q, hq⟩ : ∃ q, withPrev e r = q := ⟨_, rfl⟩
  have St0 : Hid (AdSt w (w1.setCell ⟨w.heap.size + 1, 6, none⟩ (.int .i64 la)) x e q none none) := by
    have e3 : Has (w1.setCell ⟨w.heap.size + 1, 6, none⟩ (.int .i64 la)) (w.heap.size + 1) 27 (recC q) := by
      rw [← hq, HW.out]
      exact H3.out.set 6 _
    exact ⟨B0.out.setCell (by simp) _, H2.out.far (by simp) _, e3, H4.out.far (by simp) _, fun _ _ h => (by cases h), fun _ h => (by cases h), fun _ _ _ h => (by cases h)⟩
  have HQ : Hid (withPrev e r = q) := hq
  clear hlast hq H2 H3 H4 B0 HW
  go_upto_region 2 with (fail)
  clear c0 c1 c2 c3 c4 d0 d1 d2 d3 d4 d5 d6 d7 f6
  generalize (w1.setCell ⟨w.heap.size + 1, 6, none⟩ (.int .i64 la)) = w2 at *
  go_cut [6] (fun v wx => ∃ bl cl, v = .slice (some ⟨bl, 0, none⟩) (e.log ++ [q]).length cl ∧ ∃ one, AdSt w wx x e q (some (.slice (some ⟨bl, 0, none⟩) (e.log ++ [q]).length cl, e.log ++ [q])) one)
  case first =>
    have St : Hid (AdSt w w2.drew x e q none none) := St0.out.drewN 1
    obtain ⟨c0, c1, c2, c3, c4⟩ := St0.out.b2.five
    obtain ⟨d0, d1, d2, d3, d4, d5, d6, d7⟩ := eight St0.out.b3
    clear St0
    refine wp_region_held_drew (S := (fun w' => w'.cell? ⟨w.heap.size, 2, none⟩ = some (.slice (some ⟨x.lb, 0, none⟩) e.log.length x.lc) ∧ w'.cell? ⟨w.heap.size + 1, 0, none⟩ = some (.int .i64 q.k) ∧ w'.cell? ⟨w.heap.size + 1, 1, none⟩ = some (.int .i64 q.t) ∧ w'.cell? ⟨w.heap.size + 1, 2, none⟩ = some (.int .i64 q.p) ∧ w'.cell? ⟨w.heap.size + 1, 3, none⟩ = some (.int .i64 q.s) ∧ w'.cell? ⟨w.heap.size + 1, 4, none⟩ = some (.int .i64 q.o) ∧ w'.cell? ⟨w.heap.size + 1, 5, none⟩ = some (.int .i64 q.n) ∧ w'.cell? ⟨w.heap.size + 1, 6, none⟩ = some (.int .i64 q.v) ∧ w'.cell? ⟨w.heap.size + 1, 7, none⟩ = some (.int .i64 q.x))) (by kernel_rfl) ?_ (fun hHeld0 => ?_)
    · (first | (with_reducible exact ⟨St.out.b2.five.2.2.1, eight St.out.b3⟩) | exact ⟨St.out.b2.five.2.2.1, eight St.out.b3⟩)
    refine wpAnyH_take (i := 1) (oi := { dst := some 14, op := Go.Op.fieldAddr 60 (Go.Operand.tmp 2) 2, type := 0, pos := "l12_change.go:17", after := #[], guard := none }) (v := ?_) rfl (by kernel_rfl) (by kernel_rfl) (by kernel_rfl) (fun _ _ _ h => h) (Or.inl ⟨by rfl, ?_⟩) hHeld0 ?_
    rotate_left
    · (intro w hSw; (try dsimp only at hSw); go_simp; (first | done | (with_reducible rfl) | (rw [if_neg (by omega)]) | (rw [if_neg (by simp only [ByteArray.size_append]; omega)])))
    (try simp only [Act.put, List.setIfInBounds_toArray, List.set_cons_zero, List.set_cons_succ])
    refine wpAnyH_take (i := 2) (oi := { dst := some 15, op := Go.Op.load 23 (Go.Operand.tmp 14), type := 23, pos := "l12_change.go:17", after := #[{ on := 1, ground := Go.Ground.data }], guard := none }) (v := ?_) rfl (by kernel_rfl) (by kernel_rfl) (by kernel_rfl) (fun _ _ _ h => h) (Or.inl ⟨by rfl, ?_⟩) hHeld0 ?_
    rotate_left
    · (intro w hSw; (try dsimp only at hSw); go_simp; (first | done | (with_reducible rfl) | (rw [if_neg (by omega)]) | (rw [if_neg (by simp only [ByteArray.size_append]; omega)])))
    (try simp only [Act.put, List.setIfInBounds_toArray, List.set_cons_zero, List.set_cons_succ])
    refine wpAnyH_take (i := 4) (oi := { dst := some 17, op := Go.Op.load 27 (Go.Operand.tmp 3), type := 27, pos := "l12_change.go:17", after := #[], guard := none }) (v := ?_) rfl (by kernel_rfl) (by kernel_rfl) (by kernel_rfl) (fun _ _ _ h => h) (Or.inl ⟨by rfl, ?_⟩) hHeld0 ?_
    rotate_left
    · (intro w hSw; (try dsimp only at hSw); go_simp; (first | done | (with_reducible rfl) | (rw [if_neg (by omega)]) | (rw [if_neg (by simp only [ByteArray.size_append]; omega)])))
    (try simp only [Act.put, List.setIfInBounds_toArray, List.set_cons_zero, List.set_cons_succ])
    refine wpAnyH_ready (rs := [0, 5]) (by kernel_rfl) (by simp) ?_
    refine AllReadyH.cons (o := { dst := some 13, op := Go.Op.buildSlice 23 0 #[], type := 23, pos := "l12_change.go:17", after := #[], guard := none }) rfl (fun K hK => ?_) (AllReadyH.cons (o := { dst := some 18, op := Go.Op.buildSlice 23 1 #[(0, Go.Operand.tmp 17)], type := 23, pos := "l12_change.go:17", after := #[{ on := 4, ground := Go.Ground.data }], guard := none }) rfl (fun K hK => ?_) AllReadyH.nil)
    · go_simp
      have St' := Lib.hid (St.out.empty (by (try simp only [World.size_alloc]); rfl))
      clear St
      have St := St'
      clear St'
      (try go_wp2_with fail)
      refine hK.out _ _ ?_ (fun hHeld1 => ?_)
      · (first | (with_reducible exact ⟨St.out.b2.five.2.2.1, eight St.out.b3⟩) | exact ⟨St.out.b2.five.2.2.1, eight St.out.b3⟩)
      clear hK K hHeld0
      (try simp only [Act.put, List.setIfInBounds_toArray, List.set_cons_zero, List.set_cons_succ])
      refine wpAnyH_ready (rs := [3, 5]) (by kernel_rfl) (by simp) ?_
      refine AllReadyH.cons (o := { dst := some 16, op := Go.Op.call { callee := Go.Callee.builtin Go.Builtin.append, args := #[Go.Operand.tmp 13, Go.Operand.tmp 15], argTypes := #[23, 23] }, type := 23, pos := "l12_change.go:17", after := #[{ on := 0, ground := Go.Ground.data }, { on := 2, ground := Go.Ground.data }], guard := none }) rfl (fun K hK => ?_) (AllReadyH.cons (o := { dst := some 18, op := Go.Op.buildSlice 23 1 #[(0, Go.Operand.tmp 17)], type := 23, pos := "l12_change.go:17", after := #[{ on := 4, ground := Go.Ground.data }], guard := none }) rfl (fun K hK => ?_) AllReadyH.nil)
      · refine step_append_recs0 _ (by rfl) _ _ (by rfl) (w.heap.size + 3) _ (by rfl) (St.out.fl _ _ rfl) x.lb 0 _ x.lc e.log (by rfl) (by rfl) (HE.out.below St.out.low).l.rd.2.1 (by omega) St.out.size ?_
        intro bk ck wu ho k hbl
        have St' := Lib.hid (St.out.copied ho k hbl)
        clear St ho k hbl
        have St := St'
        clear St'
        (try go_wp2_with fail)
        refine hK.out _ _ ?_ (fun hHeld2 => ?_)
        · (first | (with_reducible exact ⟨St.out.b2.five.2.2.1, eight St.out.b3⟩) | exact ⟨St.out.b2.five.2.2.1, eight St.out.b3⟩)
        clear hK K hHeld1
        (try simp only [Act.put, List.setIfInBounds_toArray, List.set_cons_zero, List.set_cons_succ])
        refine wpAnyH_ready (rs := [5]) (by kernel_rfl) (by simp) ?_
        refine AllReadyH.cons (o := { dst := some 18, op := Go.Op.buildSlice 23 1 #[(0, Go.Operand.tmp 17)], type := 23, pos := "l12_change.go:17", after := #[{ on := 4, ground := Go.Ground.data }], guard := none }) rfl (fun K hK => ?_) AllReadyH.nil
        go_simp
        have St' := Lib.hid (St.out.single (by (try simp only [World.size_alloc]); rfl))
        clear St
        have St := St'
        clear St'
        (try go_wp2_with fail)
        refine hK.out _ _ ?_ (fun hHeld3 => ?_)
        · (first | (with_reducible exact ⟨St.out.b2.five.2.2.1, eight St.out.b3⟩) | exact ⟨St.out.b2.five.2.2.1, eight St.out.b3⟩)
        clear hK K hHeld2
        (try simp only [Act.put, List.setIfInBounds_toArray, List.set_cons_zero, List.set_cons_succ])
        refine wpAnyH_ready (rs := [6]) (by kernel_rfl) (by simp) ?_
        refine AllReadyH.cons (o := { dst := some 19, op := Go.Op.call { callee := Go.Callee.builtin Go.Builtin.append, args := #[Go.Operand.tmp 16, Go.Operand.tmp 18], argTypes := #[23, 23] }, type := 23, pos := "l12_change.go:17", after := #[{ on := 3, ground := Go.Ground.data }, { on := 5, ground := Go.Ground.data }, { on := 3, ground := Go.Ground.chain }], guard := none }) rfl (fun K hK => ?_) AllReadyH.nil
        refine step_append_recs _ (by rfl) _ _ (by rfl) (w.heap.size + 3) _ _ (by rfl) (St.out.fl _ _ rfl) _ 0 1 1 [q] rfl (by rfl) (RdR_one (St.out.fo _ rfl).1) (by simp; omega) St.out.size ?_
        intro bl cl wv ho k hbl
        have St' := Lib.hid (St.out.copied ho k hbl)
        clear St ho k hbl
        have St := St'
        clear St'
        (try go_wp2_with fail)
        refine hK.out _ _ ?_ (fun hHeld4 => ?_)
        · (first | (with_reducible exact ⟨St.out.b2.five.2.2.1, eight St.out.b3⟩) | exact ⟨St.out.b2.five.2.2.1, eight St.out.b3⟩)
        clear hK K hHeld3
        (try simp only [Act.put, List.setIfInBounds_toArray, List.set_cons_zero, List.set_cons_succ])
        refine wpAnyH_take (i := 7) (oi := { dst := some 6, op := Go.Op.assign (Go.Operand.tmp 19), type := 23, pos := "l12_change.go:17", after := #[{ on := 6, ground := Go.Ground.data }, { on := 6, ground := Go.Ground.chain }, { on := 0, ground := Go.Ground.phase }, { on := 1, ground := Go.Ground.phase }, { on := 2, ground := Go.Ground.phase }, { on := 3, ground := Go.Ground.phase }, { on := 4, ground := Go.Ground.phase }, { on := 5, ground := Go.Ground.phase }, { on := 6, ground := Go.Ground.phase }], guard := none }) (v := ?_) rfl (by kernel_rfl) (by kernel_rfl) (by kernel_rfl) (fun _ _ _ h => h) (Or.inl ⟨by rfl, ?_⟩) hHeld4 ?_
        rotate_left
        · (intro w hSw; (try dsimp only at hSw); go_simp; (first | done | (with_reducible rfl) | (rw [if_neg (by omega)]) | (rw [if_neg (by simp only [ByteArray.size_append]; omega)])))
        (try simp only [Act.put, List.setIfInBounds_toArray, List.set_cons_zero, List.set_cons_succ])
        refine wpAnyH_done (by kernel_rfl) ?_ _
        clear hHeld4
        go_wp2_with fail
        go_meet
        exact ⟨bl, cl, by simp, _, St.out⟩
      · go_simp
        have St' := Lib.hid (St.out.single (by (try simp only [World.size_alloc]); rfl))
        clear St
        have St := St'
        clear St'
        (try go_wp2_with fail)
        refine hK.out _ _ ?_ (fun hHeld2 => ?_)
        · (first | (with_reducible exact ⟨St.out.b2.five.2.2.1, eight St.out.b3⟩) | exact ⟨St.out.b2.five.2.2.1, eight St.out.b3⟩)
        clear hK K hHeld1
        (try simp only [Act.put, List.setIfInBounds_toArray, List.set_cons_zero, List.set_cons_succ])
        refine wpAnyH_ready (rs := [3]) (by kernel_rfl) (by simp) ?_
        refine AllReadyH.cons (o := { dst := some 16, op := Go.Op.call { callee := Go.Callee.builtin Go.Builtin.append, args := #[Go.Operand.tmp 13, Go.Operand.tmp 15], argTypes := #[23, 23] }, type := 23, pos := "l12_change.go:17", after := #[{ on := 0, ground := Go.Ground.data }, { on := 2, ground := Go.Ground.data }], guard := none }) rfl (fun K hK => ?_) AllReadyH.nil
        refine step_append_recs0 _ (by rfl) _ _ (by rfl) (w.heap.size + 3) _ (by rfl) (St.out.fl _ _ rfl) x.lb 0 _ x.lc e.log (by rfl) (by rfl) (HE.out.below St.out.low).l.rd.2.1 (by omega) St.out.size ?_
        intro bk ck wu ho k hbl
        have St' := Lib.hid (St.out.copied ho k hbl)
        clear St ho k hbl
        have St := St'
        clear St'
        (try go_wp2_with fail)
        refine hK.out _ _ ?_ (fun hHeld3 => ?_)
        · (first | (with_reducible exact ⟨St.out.b2.five.2.2.1, eight St.out.b3⟩) | exact ⟨St.out.b2.five.2.2.1, eight St.out.b3⟩)
        clear hK K hHeld2
        (try simp only [Act.put, List.setIfInBounds_toArray, List.set_cons_zero, List.set_cons_succ])
        refine wpAnyH_ready (rs := [6]) (by kernel_rfl) (by simp) ?_
        refine AllReadyH.cons (o := { dst := some 19, op := Go.Op.call { callee := Go.Callee.builtin Go.Builtin.append, args := #[Go.Operand.tmp 16, Go.Operand.tmp 18], argTypes := #[23, 23] }, type := 23, pos := "l12_change.go:17", after := #[{ on := 3, ground := Go.Ground.data }, { on := 5, ground := Go.Ground.data }, { on := 3, ground := Go.Ground.chain }], guard := none }) rfl (fun K hK => ?_) AllReadyH.nil
        refine step_append_recs _ (by rfl) _ _ (by rfl) (w.heap.size + 3) _ _ (by rfl) (St.out.fl _ _ rfl) _ 0 1 1 [q] rfl (by rfl) (RdR_one (St.out.fo _ rfl).1) (by simp; omega) St.out.size ?_
        intro bl cl wv ho k hbl
        have St' := Lib.hid (St.out.copied ho k hbl)
        clear St ho k hbl
        have St := St'
        clear St'
        (try go_wp2_with fail)
        refine hK.out _ _ ?_ (fun hHeld4 => ?_)
        · (first | (with_reducible exact ⟨St.out.b2.five.2.2.1, eight St.out.b3⟩) | exact ⟨St.out.b2.five.2.2.1, eight St.out.b3⟩)
        clear hK K hHeld3
        (try simp only [Act.put, List.setIfInBounds_toArray, List.set_cons_zero, List.set_cons_succ])
        refine wpAnyH_take (i := 7) (oi := { dst := some 6, op := Go.Op.assign (Go.Operand.tmp 19), type := 23, pos := "l12_change.go:17", after := #[{ on := 6, ground := Go.Ground.data }, { on := 6, ground := Go.Ground.chain }, { on := 0, ground := Go.Ground.phase }, { on := 1, ground := Go.Ground.phase }, { on := 2, ground := Go.Ground.phase }, { on := 3, ground := Go.Ground.phase }, { on := 4, ground := Go.Ground.phase }, { on := 5, ground := Go.Ground.phase }, { on := 6, ground := Go.Ground.phase }], guard := none }) (v := ?_) rfl (by kernel_rfl) (by kernel_rfl) (by kernel_rfl) (fun _ _ _ h => h) (Or.inl ⟨by rfl, ?_⟩) hHeld4 ?_
        rotate_left
        · (intro w hSw; (try dsimp only at hSw); go_simp; (first | done | (with_reducible rfl) | (rw [if_neg (by omega)]) | (rw [if_neg (by simp only [ByteArray.size_append]; omega)])))
        (try simp only [Act.put, List.setIfInBounds_toArray, List.set_cons_zero, List.set_cons_succ])
        refine wpAnyH_done (by kernel_rfl) ?_ _
        clear hHeld4
        go_wp2_with fail
        go_meet
        exact ⟨bl, cl, by simp, _, St.out⟩
    · go_simp
      have St' := Lib.hid (St.out.single (by (try simp only [World.size_alloc]); rfl))
      clear St
      have St := St'
      clear St'
      (try go_wp2_with fail)
      refine hK.out _ _ ?_ (fun hHeld1 => ?_)
      · (first | (with_reducible exact ⟨St.out.b2.five.2.2.1, eight St.out.b3⟩) | exact ⟨St.out.b2.five.2.2.1, eight St.out.b3⟩)
      clear hK K hHeld0
      (try simp only [Act.put, List.setIfInBounds_toArray, List.set_cons_zero, List.set_cons_succ])
      refine wpAnyH_ready (rs := [0]) (by kernel_rfl) (by simp) ?_
      refine AllReadyH.cons (o := { dst := some 13, op := Go.Op.buildSlice 23 0 #[], type := 23, pos := "l12_change.go:17", after := #[], guard := none }) rfl (fun K hK => ?_) AllReadyH.nil
      go_simp
      have St' := Lib.hid (St.out.empty (by (try simp only [World.size_alloc]); rfl))
      clear St
      have St := St'
      clear St'
      (try go_wp2_with fail)
      refine hK.out _ _ ?_ (fun hHeld2 => ?_)
      · (first | (with_reducible exact ⟨St.out.b2.five.2.2.1, eight St.out.b3⟩) | exact ⟨St.out.b2.five.2.2.1, eight St.out.b3⟩)
      clear hK K hHeld1
      (try simp only [Act.put, List.setIfInBounds_toArray, List.set_cons_zero, List.set_cons_succ])
      refine wpAnyH_ready (rs := [3]) (by kernel_rfl) (by simp) ?_
      refine AllReadyH.cons (o := { dst := some 16, op := Go.Op.call { callee := Go.Callee.builtin Go.Builtin.append, args := #[Go.Operand.tmp 13, Go.Operand.tmp 15], argTypes := #[23, 23] }, type := 23, pos := "l12_change.go:17", after := #[{ on := 0, ground := Go.Ground.data }, { on := 2, ground := Go.Ground.data }], guard := none }) rfl (fun K hK => ?_) AllReadyH.nil
      refine step_append_recs0 _ (by rfl) _ _ (by rfl) (w.heap.size + 3) _ (by rfl) (St.out.fl _ _ rfl) x.lb 0 _ x.lc e.log (by rfl) (by rfl) (HE.out.below St.out.low).l.rd.2.1 (by omega) St.out.size ?_
      intro bk ck wu ho k hbl
      have St' := Lib.hid (St.out.copied ho k hbl)
      clear St ho k hbl
      have St := St'
      clear St'
      (try go_wp2_with fail)
      refine hK.out _ _ ?_ (fun hHeld3 => ?_)
      · (first | (with_reducible exact ⟨St.out.b2.five.2.2.1, eight St.out.b3⟩) | exact ⟨St.out.b2.five.2.2.1, eight St.out.b3⟩)
      clear hK K hHeld2
      (try simp only [Act.put, List.setIfInBounds_toArray, List.set_cons_zero, List.set_cons_succ])
      refine wpAnyH_ready (rs := [6]) (by kernel_rfl) (by simp) ?_
      refine AllReadyH.cons (o := { dst := some 19, op := Go.Op.call { callee := Go.Callee.builtin Go.Builtin.append, args := #[Go.Operand.tmp 16, Go.Operand.tmp 18], argTypes := #[23, 23] }, type := 23, pos := "l12_change.go:17", after := #[{ on := 3, ground := Go.Ground.data }, { on := 5, ground := Go.Ground.data }, { on := 3, ground := Go.Ground.chain }], guard := none }) rfl (fun K hK => ?_) AllReadyH.nil
      refine step_append_recs _ (by rfl) _ _ (by rfl) (w.heap.size + 3) _ _ (by rfl) (St.out.fl _ _ rfl) _ 0 1 1 [q] rfl (by rfl) (RdR_one (St.out.fo _ rfl).1) (by simp; omega) St.out.size ?_
      intro bl cl wv ho k hbl
      have St' := Lib.hid (St.out.copied ho k hbl)
      clear St ho k hbl
      have St := St'
      clear St'
      (try go_wp2_with fail)
      refine hK.out _ _ ?_ (fun hHeld4 => ?_)
      · (first | (with_reducible exact ⟨St.out.b2.five.2.2.1, eight St.out.b3⟩) | exact ⟨St.out.b2.five.2.2.1, eight St.out.b3⟩)
      clear hK K hHeld3
      (try simp only [Act.put, List.setIfInBounds_toArray, List.set_cons_zero, List.set_cons_succ])
      refine wpAnyH_take (i := 7) (oi := { dst := some 6, op := Go.Op.assign (Go.Operand.tmp 19), type := 23, pos := "l12_change.go:17", after := #[{ on := 6, ground := Go.Ground.data }, { on := 6, ground := Go.Ground.chain }, { on := 0, ground := Go.Ground.phase }, { on := 1, ground := Go.Ground.phase }, { on := 2, ground := Go.Ground.phase }, { on := 3, ground := Go.Ground.phase }, { on := 4, ground := Go.Ground.phase }, { on := 5, ground := Go.Ground.phase }, { on := 6, ground := Go.Ground.phase }], guard := none }) (v := ?_) rfl (by kernel_rfl) (by kernel_rfl) (by kernel_rfl) (fun _ _ _ h => h) (Or.inl ⟨by rfl, ?_⟩) hHeld4 ?_
      rotate_left
      · (intro w hSw; (try dsimp only at hSw); go_simp; (first | done | (with_reducible rfl) | (rw [if_neg (by omega)]) | (rw [if_neg (by simp only [ByteArray.size_append]; omega)])))
      (try simp only [Act.put, List.setIfInBounds_toArray, List.set_cons_zero, List.set_cons_succ])
      refine wpAnyH_done (by kernel_rfl) ?_ _
      clear hHeld4
      go_wp2_with fail
      go_meet
      exact ⟨bl, cl, by simp, _, St.out⟩
  case rest =>
    obtain ⟨bl, cl, rfl, one, hst⟩ := hcut
    obtain ⟨L, hL⟩ : ∃ L, e.log ++ [q] = L := ⟨_, rfl⟩
    have hll : L.length = e.log.length + 1 := by rw [← hL, List.length_append]; rfl
    have hgood : Good L := by rw [← hL]; exact needN_good HI.out (by rw [← HQ.out]; exact HN.out)
    rw [hL] at hst ⊢
    have HB : Hid (roomB e q = decide (L.length + needN L L.length ≤ 150)) := by
      show roomB e q = _
      unfold roomB
      rw [hL, hll]
    have St := Lib.hid hst
    have HLL := Lib.hid hL
    have HLN := Lib.hid hll
    have hrow := Lib.hid (hst.fl _ _ rfl)
    have HD : Hid (∀ W, Below wc.heap.size wc W → Calls Try.prog 93 #[.slice (some ⟨bl, 0, none⟩) L.length cl] W (Keeps (.int .i64 (needN L L.length)) W)) := fun W hW => l11Need_any L _ cl wc.heap.size W hW.size ((hrow.out.rd.2.1.recs hrow.out.lt'.2).below hW) hgood (by omega)
    have hnl : needN L L.length ≤ 3 * 1001 := by
      have h1 := undoC_le hgood.falls _ (lastN_le L 1 L.length)
      have h2 := undoC_le hgood.falls _ (lastN_le L 2 L.length)
      have h3 := undoC_le hgood.falls _ (lastN_le L 3 L.length)
      have k1 := lastN_le L 1 L.length
      have k2 := lastN_le L 2 L.length
      have k3 := lastN_le L 3 L.length
      unfold needN needT
      split <;> split <;> split <;> omega
    have hlc : L.length ≤ 151 := by omega
    clear hst hL hgood hll St0
    go_wp2_with fail
    refine (HD.out _ (Below.refl _ _)).mono ?_
    rintro en w3 ⟨rfl, b3⟩
    have S3 := Lib.hid (St.out.grow b3)
    have R3 := Lib.hid (hrow.out.below b3)
    clear b3 HD St hrow
    generalize hnd : needN L L.length = nd at *
    have Hnd := Lib.hid hnd
    clear hnd
    by_cases hroom : L.length + nd ≤ 150
    case neg =>
      have HR : Hid (addE e r = (e, false)) := by
        show addE e r = _
        have h1 : roomB e (withPrev e r) = false := by rw [HQ.out, HB.out]; simpa using hroom
        rw [HA.out, h1]
        rfl
      have hb : decide ((150 : Int) < (L.length : Int) + (nd : Int)) = true := by rw [decide_eq_true_eq]; omega
      obtain ⟨c0, c1, c2, c3, c4⟩ := S3.out.b2.five
      obtain ⟨y0, y1, y2, y3, y4⟩ := S3.out.b4.five
      have t0 := S3.out.b4.frozen 0
      have t1 := S3.out.b4.frozen 1
      have t2 := S3.out.b4.frozen 2
      have t3 := S3.out.b4.frozen 3
      have t4 := S3.out.b4.frozen 4
      clear hroom
      go_wp2
      refine bodyPost_ret (v := .tuple #[engV x e, .bool false]) (by simp [results, Try.results85, go_sem, y0, y1, y2, y3, y4]) rfl ⟨x, by rw [HR.out], ?_, Frm.of_below (put5E_below S3.out.low (by omega) x e) rfl rfl⟩
      rw [HR.out]
      exact ((HE.out.below S3.out.low).box S3.out.b4 (by simp) (fun i _ hn => put5E_far hn))
    case pos =>
      have HR : Hid (addE e r = (pushE e q, true)) := by
        show addE e r = _
        have h1 : roomB e (withPrev e r) = true := by rw [HQ.out, HB.out]; simpa using hroom
        rw [HA.out, h1, HQ.out]
        rfl
      have hb : decide ((150 : Int) < (L.length : Int) + (nd : Int)) = false := by rw [decide_eq_false_iff_not]; omega
      clear HA HB Hnd hroom
      obtain ⟨c0, c1, c2, c3, c4⟩ := S3.out.b2.five
      have t2 := S3.out.b2.frozen 2
      have E4 : Hid (Eng (w3.setCell ⟨w.heap.size, 2, none⟩ (.slice (some ⟨bl, 0, none⟩) L.length cl)) base ⟨x.db, x.dc, x.mb, x.mc, bl, cl⟩ ⟨e.disk, e.mem, L, e.safe, e.down⟩) := by
        have E0 := HE.out.below S3.out.low
        have E1 : Eng w3 base ⟨x.db, x.dc, x.mb, x.mc, bl, cl⟩ ⟨e.disk, e.mem, L, e.safe, e.down⟩ := ⟨E0.d, E0.m, R3.out.lower (by omega), E0.ne⟩
        exact E1.box S3.out.b2 (by simp) (fun i _ hn => Below.heap_setCell _ _ _ _ (by simpa using hn))
      have X2 : Hid (Has (w3.setCell ⟨w.heap.size, 2, none⟩ (.slice (some ⟨bl, 0, none⟩) L.length cl)) w.heap.size 60 (engC ⟨x.db, x.dc, x.mb, x.mc, bl, cl⟩ ⟨e.disk, e.mem, L, e.safe, e.down⟩)) := S3.out.b2.set 2 _
      have X3 : Hid (Has (w3.setCell ⟨w.heap.size, 2, none⟩ (.slice (some ⟨bl, 0, none⟩) L.length cl)) (w.heap.size + 1) 27 (recC q)) := S3.out.b3.far (by simp) _
      have X4 : Hid (Has (w3.setCell ⟨w.heap.size, 2, none⟩ (.slice (some ⟨bl, 0, none⟩) L.length cl)) (w.heap.size + 2) 60 zeroEC) := S3.out.b4.far (by simp) _
      have B4 : Hid (Below w.heap.size w (w3.setCell ⟨w.heap.size, 2, none⟩ (.slice (some ⟨bl, 0, none⟩) L.length cl))) := S3.out.low.setCell (by simp) _
      clear S3 R3
      go_upto_region 6 with (fail)
      generalize (w3.setCell ⟨w.heap.size, 2, none⟩ (.slice (some ⟨bl, 0, none⟩) L.length cl)) = w4 at *
      clear c0 c1 c2 c3 c4 t2
      obtain ⟨d0, d1, d2, d3, d4, d5, d6, d7⟩ := eight X3.out
      go_wp2_with fail
      refine (l2Changes_any q.k _).mono ?_
      rintro en w5 ⟨rfl, rfl⟩
      have HNQ : Hid (Next e q) := by show Next e q; rw [← HQ.out]; exact HN.out
      have HP : Hid (pushE e q = ⟨e.disk, if chg q.k then e.mem.set q.p.toNat (doPP (e.mem.getD q.p.toNat (0, 0, [])) q ((e.log.length : Int) + 1)) else e.mem, L, e.safe, e.down⟩) := by
        show pushE e q = _
        unfold pushE
        rw [HLL.out]
      cases hc : chg q.k
      · have HPu : Hid (pushE e q = ⟨e.disk, e.mem, L, e.safe, e.down⟩) := by show pushE e q = _; rw [HP.out, hc]; rfl
        clear d0 d1 d2 d3 d4 d5 d6 d7
        obtain ⟨c0, c1, c2, c3, c4⟩ := X2.out.five
        obtain ⟨y0, y1, y2, y3, y4⟩ := X4.out.five
        have t0 := X4.out.frozen 0
        have t1 := X4.out.frozen 1
        have t2 := X4.out.frozen 2
        have t3 := X4.out.frozen 3
        have t4 := X4.out.frozen 4
        go_wp2
        refine bodyPost_ret (v := .tuple #[engV ⟨x.db, x.dc, x.mb, x.mc, bl, cl⟩ ⟨e.disk, e.mem, L, e.safe, e.down⟩, .bool true]) (by simp [results, Try.results85, go_sem, y0, y1, y2, y3, y4]) rfl ⟨⟨x.db, x.dc, x.mb, x.mc, bl, cl⟩, by rw [HR.out, HPu.out], ?_, Frm.of_below (put5E_below B4.out (by omega) ⟨x.db, x.dc, x.mb, x.mc, bl, cl⟩ ⟨e.disk, e.mem, L, e.safe, e.down⟩) rfl rfl⟩
        rw [HR.out, HPu.out]
        exact E4.out.box X4.out (by simp) (fun i _ hn => put5E_far (x := ⟨x.db, x.dc, x.mb, x.mc, bl, cl⟩) (e := ⟨e.disk, e.mem, L, e.safe, e.down⟩) hn)
      · obtain ⟨hfit, p0, p4⟩ := okR_fit HNQ.out.ok hc
        have Hfit := Lib.hid hfit
        have s01 : -1 ≤ q.s ∧ q.s ≤ 2 := by
          rcases hfit with h | h
          · omega
          · omega
        obtain ⟨k, hk⟩ := Int.eq_ofNat_of_zero_le p0
        have hk5 : k < 5 := by omega
        obtain ⟨pg, hin, hsay, hlow⟩ := E4.out.m.at_ HI.out.m5 hk5
        have hok : okPP (pgE e.mem k) := (HI.out.m _ (mem_at HI.out.m5 (Int.natCast_nonneg k) (by omega))).1
        obtain ⟨za, zb, zc, hz3⟩ := okPP_three hok
        rw [hsay] at hz3
        have HPu : Hid (pushE e q = ⟨e.disk, e.mem.set k (doPP pg.says q ((e.log.length : Int) + 1)), L, e.safe, e.down⟩) := by
          show pushE e q = _
          rw [HP.out, hc, hk, ← hsay]
          rfl
        obtain ⟨pl, po, pgb, pq, pc, pz⟩ := pg
        simp only [Pg.says] at hz3
        subst hz3
        have Hk := Lib.hid hk
        have X3k : Hid (Has w4 (w.heap.size + 1) 27 (recC ⟨q.k, q.t, (k : Int), q.s, q.o, q.n, q.v, q.x⟩)) := by
          have h := X3.out
          show Has w4 (w.heap.size + 1) 27 #[.int .i64 q.k, .int .i64 q.t, .int .i64 (k : Int), .int .i64 q.s, .int .i64 q.o, .int .i64 q.n, .int .i64 q.v, .int .i64 q.x]
          rw [← hk]
          exact h
        obtain ⟨cs, hrb⟩ := E4.out.m.has
        have r0 := Has.frozen hrb (k * 3)
        have r1 := Has.frozen hrb (k * 3 + 1)
        have r2 := Has.frozen hrb (k * 3 + 2)
        have m0 := hin.c0
        have m1 := hin.c1
        have m2 := hin.c2
        simp only [List.length_cons, List.length_nil, Nat.zero_add, Nat.reduceAdd] at m2
        have lpg : pgb < w4.heap.size := hin.wr.1
        have In4 := Lib.hid hin
        have k0 : (0 : Int) ≤ (k : Int) := by omega
        have k5 : (k : Int) < 5 := by omega
        have lmb := E4.out.m.lt.2
        have lmb0 := E4.out.m.lt.1
        have lb4 := X4.out.lt
        have lsz := B4.out.size
        have HRb : Hid (Has w4 x.mb 94 cs) := hrb
        clear d0 d1 d2 d3 d4 d5 d6 d7 hin hk hc hfit hok hsay X3 p0 p4 hrb
        obtain ⟨c0, c1, c2, c3, c4⟩ := X2.out.five
        obtain ⟨d0, d1, d2, d3, d4, d5, d6, d7⟩ := eight X3k.out
        have E5 : Hid (Eng w4.drew base ⟨x.db, x.dc, x.mb, x.mc, bl, cl⟩ ⟨e.disk, e.mem, L, e.safe, e.down⟩) := E4.out.drewN 1
        have Y2 : Hid (Has w4.drew w.heap.size 60 (engC ⟨x.db, x.dc, x.mb, x.mc, bl, cl⟩ ⟨e.disk, e.mem, L, e.safe, e.down⟩)) := X2.out.drew
        have Y4 : Hid (Has w4.drew (w.heap.size + 2) 60 zeroEC) := X4.out.drew
        have B5 : Hid (Below w.heap.size w w4.drew) := B4.out.drew
        have In5 : Hid (PgIn w4.drew x.mb k ⟨pl, po, pgb, pq, pc, [za, zb, zc]⟩) := In4.out.keep (Nat.le_refl _) rfl rfl
        have Rb5 : Hid (Has w4.drew x.mb 94 cs) := HRb.out.drew
        have l5 : w4.heap.size ≤ w4.drew.heap.size := Nat.le_refl _
        have Y3 : Hid (Has w4.drew (w.heap.size + 1) 27 (recC ⟨q.k, q.t, (k : Int), q.s, q.o, q.n, q.v, q.x⟩)) := X3k.out.drew
        have l6 : w.heap.size ≤ w4.drew.heap.size := lsz
        have hbw4 : base ≤ w4.drew.heap.size := Nat.le_trans hbw l6
        have ne2 : w.heap.size ≠ x.mb := Has.ne_kind X2.out HRb.out (by decide)
        have ne3 : w.heap.size + 1 ≠ x.mb := Has.ne_kind X3k.out HRb.out (by decide)
        have ne4 : w.heap.size + 2 ≠ x.mb := Has.ne_kind X4.out HRb.out (by decide)
        clear X2 X3k X4 B4 E4 In4 HRb
        go_upto_region 7 with (fail)
        refine wp_region_held_drew (S := (fun w' => w'.cell? ⟨w.heap.size, 1, none⟩ = some (.slice (some ⟨x.mb, 0, none⟩) 5 x.mc) ∧ w'.cell? ⟨w.heap.size + 1, 0, none⟩ = some (.int .i64 q.k) ∧ w'.cell? ⟨w.heap.size + 1, 1, none⟩ = some (.int .i64 q.t) ∧ w'.cell? ⟨w.heap.size + 1, 2, none⟩ = some (.int .i64 (k : Int)) ∧ w'.cell? ⟨w.heap.size + 1, 3, none⟩ = some (.int .i64 q.s) ∧ w'.cell? ⟨w.heap.size + 1, 4, none⟩ = some (.int .i64 q.o) ∧ w'.cell? ⟨w.heap.size + 1, 5, none⟩ = some (.int .i64 q.n) ∧ w'.cell? ⟨w.heap.size + 1, 6, none⟩ = some (.int .i64 q.v) ∧ w'.cell? ⟨w.heap.size + 1, 7, none⟩ = some (.int .i64 q.x))) (by kernel_rfl) ?_ (fun hHeld0 => ?_)
        · (first | (with_reducible exact ⟨Y2.out.five.2.1, eight Y3.out⟩) | (with_reducible exact ⟨Z2.out.five.2.1, eight Z3.out⟩) | (with_reducible exact ⟨T2.out.five.2.1, eight T3.out⟩) | exact ⟨Y2.out.five.2.1, eight Y3.out⟩)
        refine wpAnyH_take (i := 0) (oi := { dst := some 32, op := Go.Op.fieldAddr 60 (Go.Operand.tmp 2) 1, type := 0, pos := "l12_change.go:23", after := #[], guard := none }) (v := ?_) rfl (by kernel_rfl) (by kernel_rfl) (by kernel_rfl) (fun _ _ _ h => h) (Or.inl ⟨by rfl, ?_⟩) hHeld0 ?_
        rotate_left
        · (intro w hSw; (try dsimp only at hSw); go_simp; (first | done | (with_reducible rfl) | (rw [if_neg (by omega)]) | (rw [if_neg (by simp only [ByteArray.size_append]; omega)])))
        (try simp only [Act.put, List.setIfInBounds_toArray, List.set_cons_zero, List.set_cons_succ])
        refine wpAnyH_take (i := 1) (oi := { dst := some 33, op := Go.Op.load 58 (Go.Operand.tmp 32), type := 58, pos := "l12_change.go:23", after := #[{ on := 0, ground := Go.Ground.data }], guard := none }) (v := ?_) rfl (by kernel_rfl) (by kernel_rfl) (by kernel_rfl) (fun _ _ _ h => h) (Or.inl ⟨by rfl, ?_⟩) hHeld0 ?_
        rotate_left
        · (intro w hSw; (try dsimp only at hSw); go_simp; (first | done | (with_reducible rfl) | (rw [if_neg (by omega)]) | (rw [if_neg (by simp only [ByteArray.size_append]; omega)])))
        (try simp only [Act.put, List.setIfInBounds_toArray, List.set_cons_zero, List.set_cons_succ])
        refine wpAnyH_take (i := 2) (oi := { dst := some 34, op := Go.Op.fieldAddr 27 (Go.Operand.tmp 3) 2, type := 0, pos := "l12_change.go:23", after := #[], guard := none }) (v := ?_) rfl (by kernel_rfl) (by kernel_rfl) (by kernel_rfl) (fun _ _ _ h => h) (Or.inl ⟨by rfl, ?_⟩) hHeld0 ?_
        rotate_left
        · (intro w hSw; (try dsimp only at hSw); go_simp; (first | done | (with_reducible rfl) | (rw [if_neg (by omega)]) | (rw [if_neg (by simp only [ByteArray.size_append]; omega)])))
        (try simp only [Act.put, List.setIfInBounds_toArray, List.set_cons_zero, List.set_cons_succ])
        refine wpAnyH_take (i := 3) (oi := { dst := some 35, op := Go.Op.load 3 (Go.Operand.tmp 34), type := 3, pos := "l12_change.go:23", after := #[{ on := 2, ground := Go.Ground.data }], guard := none }) (v := ?_) rfl (by kernel_rfl) (by kernel_rfl) (by kernel_rfl) (fun _ _ _ h => h) (Or.inl ⟨by rfl, ?_⟩) hHeld0 ?_
        rotate_left
        · (intro w hSw; (try dsimp only at hSw); go_simp; (first | done | (with_reducible rfl) | (rw [if_neg (by omega)]) | (rw [if_neg (by simp only [ByteArray.size_append]; omega)])))
        (try simp only [Act.put, List.setIfInBounds_toArray, List.set_cons_zero, List.set_cons_succ])
        refine wpAnyH_take (i := 4) (oi := { dst := some 36, op := Go.Op.fieldAddr 60 (Go.Operand.tmp 2) 1, type := 0, pos := "l12_change.go:23", after := #[], guard := none }) (v := ?_) rfl (by kernel_rfl) (by kernel_rfl) (by kernel_rfl) (fun _ _ _ h => h) (Or.inl ⟨by rfl, ?_⟩) hHeld0 ?_
        rotate_left
        · (intro w hSw; (try dsimp only at hSw); go_simp; (first | done | (with_reducible rfl) | (rw [if_neg (by omega)]) | (rw [if_neg (by simp only [ByteArray.size_append]; omega)])))
        (try simp only [Act.put, List.setIfInBounds_toArray, List.set_cons_zero, List.set_cons_succ])
        refine wpAnyH_take (i := 5) (oi := { dst := some 37, op := Go.Op.load 58 (Go.Operand.tmp 36), type := 58, pos := "l12_change.go:23", after := #[{ on := 4, ground := Go.Ground.data }], guard := none }) (v := ?_) rfl (by kernel_rfl) (by kernel_rfl) (by kernel_rfl) (fun _ _ _ h => h) (Or.inl ⟨by rfl, ?_⟩) hHeld0 ?_
        rotate_left
        · (intro w hSw; (try dsimp only at hSw); go_simp; (first | done | (with_reducible rfl) | (rw [if_neg (by omega)]) | (rw [if_neg (by simp only [ByteArray.size_append]; omega)])))
        (try simp only [Act.put, List.setIfInBounds_toArray, List.set_cons_zero, List.set_cons_succ])
        refine wpAnyH_take (i := 6) (oi := { dst := some 38, op := Go.Op.fieldAddr 27 (Go.Operand.tmp 3) 2, type := 0, pos := "l12_change.go:23", after := #[], guard := none }) (v := ?_) rfl (by kernel_rfl) (by kernel_rfl) (by kernel_rfl) (fun _ _ _ h => h) (Or.inl ⟨by rfl, ?_⟩) hHeld0 ?_
        rotate_left
        · (intro w hSw; (try dsimp only at hSw); go_simp; (first | done | (with_reducible rfl) | (rw [if_neg (by omega)]) | (rw [if_neg (by simp only [ByteArray.size_append]; omega)])))
        (try simp only [Act.put, List.setIfInBounds_toArray, List.set_cons_zero, List.set_cons_succ])
        refine wpAnyH_take (i := 7) (oi := { dst := some 39, op := Go.Op.load 3 (Go.Operand.tmp 38), type := 3, pos := "l12_change.go:23", after := #[{ on := 6, ground := Go.Ground.data }], guard := none }) (v := ?_) rfl (by kernel_rfl) (by kernel_rfl) (by kernel_rfl) (fun _ _ _ h => h) (Or.inl ⟨by rfl, ?_⟩) hHeld0 ?_
        rotate_left
        · (intro w hSw; (try dsimp only at hSw); go_simp; (first | done | (with_reducible rfl) | (rw [if_neg (by omega)]) | (rw [if_neg (by simp only [ByteArray.size_append]; omega)])))
        (try simp only [Act.put, List.setIfInBounds_toArray, List.set_cons_zero, List.set_cons_succ])
        refine wpAnyH_take (i := 8) (oi := { dst := some 40, op := Go.Op.indexAddr 58 (Go.Operand.tmp 37) (Go.Operand.tmp 39), type := 0, pos := "l12_change.go:23", after := #[{ on := 5, ground := Go.Ground.data }, { on := 7, ground := Go.Ground.data }], guard := none }) (v := ?_) rfl (by kernel_rfl) (by kernel_rfl) (by kernel_rfl) (fun _ _ _ h => h) (Or.inl ⟨by rfl, ?_⟩) hHeld0 ?_
        rotate_left
        · (intro w hSw; (try dsimp only at hSw); go_simp; (first | done | (with_reducible rfl) | (rw [if_neg (by omega)]) | (rw [if_neg (by simp only [ByteArray.size_append]; omega)])))
        (try simp only [Act.put, List.setIfInBounds_toArray, List.set_cons_zero, List.set_cons_succ])
        refine wpAnyH_take (i := 10) (oi := { dst := some 42, op := Go.Op.load 27 (Go.Operand.tmp 3), type := 27, pos := "l12_change.go:23", after := #[], guard := none }) (v := ?_) rfl (by kernel_rfl) (by kernel_rfl) (by kernel_rfl) (fun _ _ _ h => h) (Or.inl ⟨by rfl, ?_⟩) hHeld0 ?_
        rotate_left
        · (intro w hSw; (try dsimp only at hSw); go_simp; (first | done | (with_reducible rfl) | (rw [if_neg (by omega)]) | (rw [if_neg (by simp only [ByteArray.size_append]; omega)])))
        (try simp only [Act.put, List.setIfInBounds_toArray, List.set_cons_zero, List.set_cons_succ])
        refine wpAnyH_take (i := 11) (oi := { dst := some 43, op := Go.Op.move (Go.Operand.tmp 6), type := 23, pos := "l12_change.go:23", after := #[], guard := none }) (v := ?_) rfl (by kernel_rfl) (by kernel_rfl) (by kernel_rfl) (fun _ _ _ h => h) (Or.inl ⟨by rfl, ?_⟩) hHeld0 ?_
        rotate_left
        · (intro w hSw; (try dsimp only at hSw); go_simp; (first | done | (with_reducible rfl) | (rw [if_neg (by omega)]) | (rw [if_neg (by simp only [ByteArray.size_append]; omega)])))
        (try simp only [Act.put, List.setIfInBounds_toArray, List.set_cons_zero, List.set_cons_succ])
        refine wpAnyH_take (i := 12) (oi := { dst := some 44, op := Go.Op.call { callee := Go.Callee.builtin Go.Builtin.len, args := #[Go.Operand.tmp 43], argTypes := #[23] }, type := 3, pos := "l12_change.go:23", after := #[{ on := 11, ground := Go.Ground.data }], guard := none }) (v := ?_) rfl (by kernel_rfl) (by kernel_rfl) (by kernel_rfl) (fun _ _ _ h => h) (Or.inl ⟨by rfl, ?_⟩) hHeld0 ?_
        rotate_left
        · (intro w hSw; (try dsimp only at hSw); go_simp; (first | done | (with_reducible rfl) | (rw [if_neg (by omega)]) | (rw [if_neg (by simp only [ByteArray.size_append]; omega)])))
        (try simp only [Act.put, List.setIfInBounds_toArray, List.set_cons_zero, List.set_cons_succ])
        refine wpAnyH_ready (rs := [9]) (by kernel_rfl) (by simp) ?_
        refine AllReadyH.cons (o := { dst := some 41, op := Go.Op.load 94 (Go.Operand.tmp 40), type := 94, pos := "l12_change.go:23", after := #[{ on := 8, ground := Go.Ground.data }], guard := none }) rfl (fun K hK => ?_) AllReadyH.nil
        go_simp
        skip
        (try go_wp2_with fail)
        refine hK.out _ _ ?_ (fun hHeld1 => ?_)
        · (first | (with_reducible exact ⟨Y2.out.five.2.1, eight Y3.out⟩) | (with_reducible exact ⟨Z2.out.five.2.1, eight Z3.out⟩) | (with_reducible exact ⟨T2.out.five.2.1, eight T3.out⟩) | exact ⟨Y2.out.five.2.1, eight Y3.out⟩)
        clear hK K hHeld0
        (try simp only [Act.put, List.setIfInBounds_toArray, List.set_cons_zero, List.set_cons_succ])
        refine wpAnyH_ready (rs := [13]) (by kernel_rfl) (by simp) ?_
        refine AllReadyH.cons (o := { dst := some 45, op := Go.Op.call { callee := Go.Callee.value (Go.Operand.func 95), args := #[Go.Operand.tmp 41, Go.Operand.tmp 42, Go.Operand.tmp 44], argTypes := #[94, 27, 3] }, type := 94, pos := "l12_change.go:23", after := #[{ on := 9, ground := Go.Ground.data }, { on := 10, ground := Go.Ground.data }, { on := 12, ground := Go.Ground.data }], guard := none }) rfl (fun K hK => ?_) AllReadyH.nil
        go_simp
        refine (l2Do_any pl po za zb zc (some ⟨pgb, pq, none⟩) pc w4.drew.heap.size ⟨q.k, q.t, (k : Int), q.s, q.o, q.n, q.v, q.x⟩ (L.length : Int) _ (Nat.le_refl _) (In5.out.rd.ints lpg) s01.1 s01.2).mono ?_
        rintro en w5 ⟨b5, g5, q5, c5, rfl, hg5, hrd5, hwr5, hc5, hib5⟩
        have hat : PgAt w5 base ⟨(L.length : Int), oW q.s q.n po, g5, q5, c5, [sW 0 q.s q.n za, sW 1 q.s q.n zb, sW 2 q.s q.n zc]⟩ := NewP.at (w := w4.drew) hbw4 hg5 hrd5 hwr5 hib5
        have E6 := E5.out.below b5
        have E7 := Lib.hid (E6.putMem HI.out.m5 hk5 hat)
        have Z2 := Lib.hid (Y2.out.below b5 Y2.out.lt)
        have Z3 := Lib.hid (Y3.out.below b5 Y3.out.lt)
        have Z4 := Lib.hid (Y4.out.below b5 Y4.out.lt)
        have B6 := Lib.hid (B5.out.trans (b5.mono l6))
        have In6 := In5.out.keep b5.size (b5.block _ In5.out.lt) (b5.block _ In5.out.wr.1)
        have n0 := In6.c0
        have n1 := In6.c1
        have n2 := In6.c2
        have Rb6 := Rb5.out.below b5 Rb5.out.lt
        have g0 := Has.frozen Rb6 (k * 3)
        have g1 := Has.frozen Rb6 (k * 3 + 1)
        have g2 := Has.frozen Rb6 (k * 3 + 2)
        have T2 := Lib.hid (Z2.out.keep (put3At_far (b := x.mb) (q := k * 3) (x := .int .i64 (L.length : Int)) (y := .int .i64 (oW q.s q.n po)) (z := .slice (some ⟨g5, q5, none⟩) 3 c5) ne2))
        have T3 := Lib.hid (Z3.out.keep (put3At_far (b := x.mb) (q := k * 3) (x := .int .i64 (L.length : Int)) (y := .int .i64 (oW q.s q.n po)) (z := .slice (some ⟨g5, q5, none⟩) 3 c5) ne3))
        have T4 := Lib.hid (Z4.out.keep (put3At_far (b := x.mb) (q := k * 3) (x := .int .i64 (L.length : Int)) (y := .int .i64 (oW q.s q.n po)) (z := .slice (some ⟨g5, q5, none⟩) 3 c5) ne4))
        have B7 := Lib.hid ((((Frm.of_below (x := x) (x' := ⟨x.db, x.dc, x.mb, x.mc, bl, cl⟩) B6.out rfl rfl).setCell (.inr (.inl rfl)) (k * 3) (.int .i64 (L.length : Int))).setCell (.inr (.inl rfl)) (k * 3 + 1) (.int .i64 (oW q.s q.n po))).setCell (.inr (.inl rfl)) (k * 3 + 2) (.slice (some ⟨g5, q5, none⟩) 3 c5))
        clear b5 hg5 hrd5 hwr5 hc5 hib5 hat E6 In6 Rb6 m0 m1 m2 r0 r1 r2
        (try go_wp2_with fail)
        refine hK.out _ _ ?_ (fun hHeld2 => ?_)
        · (first | (with_reducible exact ⟨Y2.out.five.2.1, eight Y3.out⟩) | (with_reducible exact ⟨Z2.out.five.2.1, eight Z3.out⟩) | (with_reducible exact ⟨T2.out.five.2.1, eight T3.out⟩) | exact ⟨Y2.out.five.2.1, eight Y3.out⟩)
        clear hK K hHeld1
        (try simp only [Act.put, List.setIfInBounds_toArray, List.set_cons_zero, List.set_cons_succ])
        refine wpAnyH_take (i := 14) (oi := { dst := some 46, op := Go.Op.indexAddr 58 (Go.Operand.tmp 33) (Go.Operand.tmp 35), type := 0, pos := "l12_change.go:23", after := #[{ on := 1, ground := Go.Ground.data }, { on := 3, ground := Go.Ground.data }, { on := 0, ground := Go.Ground.phase }, { on := 1, ground := Go.Ground.phase }, { on := 2, ground := Go.Ground.phase }, { on := 3, ground := Go.Ground.phase }, { on := 4, ground := Go.Ground.phase }, { on := 5, ground := Go.Ground.phase }, { on := 6, ground := Go.Ground.phase }, { on := 7, ground := Go.Ground.phase }, { on := 8, ground := Go.Ground.phase }, { on := 9, ground := Go.Ground.phase }, { on := 10, ground := Go.Ground.phase }, { on := 11, ground := Go.Ground.phase }, { on := 12, ground := Go.Ground.phase }, { on := 13, ground := Go.Ground.phase }], guard := none }) (v := ?_) rfl (by kernel_rfl) (by kernel_rfl) (by kernel_rfl) (fun _ _ _ h => h) (Or.inl ⟨by rfl, ?_⟩) hHeld2 ?_
        rotate_left
        · (intro w hSw; (try dsimp only at hSw); go_simp; (first | done | (with_reducible rfl) | (rw [if_neg (by omega)]) | (rw [if_neg (by simp only [ByteArray.size_append]; omega)])))
        (try simp only [Act.put, List.setIfInBounds_toArray, List.set_cons_zero, List.set_cons_succ])
        refine wpAnyH_ready (rs := [15]) (by kernel_rfl) (by simp) ?_
        refine AllReadyH.cons (o := { dst := none, op := Go.Op.store 94 (Go.Operand.tmp 46) (Go.Operand.tmp 45), type := 0, pos := "l12_change.go:23", after := #[{ on := 14, ground := Go.Ground.data }, { on := 13, ground := Go.Ground.data }, { on := 13, ground := Go.Ground.chain }, { on := 0, ground := Go.Ground.phase }, { on := 1, ground := Go.Ground.phase }, { on := 2, ground := Go.Ground.phase }, { on := 3, ground := Go.Ground.phase }, { on := 4, ground := Go.Ground.phase }, { on := 5, ground := Go.Ground.phase }, { on := 6, ground := Go.Ground.phase }, { on := 7, ground := Go.Ground.phase }, { on := 8, ground := Go.Ground.phase }, { on := 9, ground := Go.Ground.phase }, { on := 10, ground := Go.Ground.phase }, { on := 11, ground := Go.Ground.phase }, { on := 12, ground := Go.Ground.phase }, { on := 13, ground := Go.Ground.phase }], guard := none }) rfl (fun K hK => ?_) AllReadyH.nil
        go_simp
        skip
        (try go_wp2_with fail)
        refine hK.out _ _ ?_ (fun hHeld3 => ?_)
        · (first | (with_reducible exact ⟨Y2.out.five.2.1, eight Y3.out⟩) | (with_reducible exact ⟨Z2.out.five.2.1, eight Z3.out⟩) | (with_reducible exact ⟨T2.out.five.2.1, eight T3.out⟩) | exact ⟨Y2.out.five.2.1, eight Y3.out⟩)
        clear hK K hHeld2
        (try simp only [Act.put, List.setIfInBounds_toArray, List.set_cons_zero, List.set_cons_succ])
        refine wpAnyH_done (by kernel_rfl) ?_ _
        clear hHeld3
        have U1 : Hid (Eng (((w5.setCell ⟨x.mb, k * 3, none⟩ (.int .i64 (L.length : Int))).setCell ⟨x.mb, k * 3 + 1, none⟩ (.int .i64 (oW q.s q.n po))).setCell ⟨x.mb, k * 3 + 2, none⟩ (.slice (some ⟨g5, q5, none⟩) 3 c5)) base ⟨x.db, x.dc, x.mb, x.mc, bl, cl⟩ ⟨e.disk, e.mem.set k ((L.length : Int), oW q.s q.n po, [sW 0 q.s q.n za, sW 1 q.s q.n zb, sW 2 q.s q.n zc]), L, e.safe, e.down⟩) := E7.out
        have U2 : Hid (Has (((w5.setCell ⟨x.mb, k * 3, none⟩ (.int .i64 (L.length : Int))).setCell ⟨x.mb, k * 3 + 1, none⟩ (.int .i64 (oW q.s q.n po))).setCell ⟨x.mb, k * 3 + 2, none⟩ (.slice (some ⟨g5, q5, none⟩) 3 c5)) w.heap.size 60 (engC ⟨x.db, x.dc, x.mb, x.mc, bl, cl⟩ ⟨e.disk, e.mem.set k ((L.length : Int), oW q.s q.n po, [sW 0 q.s q.n za, sW 1 q.s q.n zb, sW 2 q.s q.n zc]), L, e.safe, e.down⟩)) := T2.out
        have U4 : Hid (Has (((w5.setCell ⟨x.mb, k * 3, none⟩ (.int .i64 (L.length : Int))).setCell ⟨x.mb, k * 3 + 1, none⟩ (.int .i64 (oW q.s q.n po))).setCell ⟨x.mb, k * 3 + 2, none⟩ (.slice (some ⟨g5, q5, none⟩) 3 c5)) (w.heap.size + 2) 60 zeroEC) := T4.out
        have U5 : Hid (Frm x w ⟨x.db, x.dc, x.mb, x.mc, bl, cl⟩ (((w5.setCell ⟨x.mb, k * 3, none⟩ (.int .i64 (L.length : Int))).setCell ⟨x.mb, k * 3 + 1, none⟩ (.int .i64 (oW q.s q.n po))).setCell ⟨x.mb, k * 3 + 2, none⟩ (.slice (some ⟨g5, q5, none⟩) 3 c5))) := B7.out
        clear E7 T2 T3 T4 B7 Z2 Z3 Z4 B6 n0 n1 n2 g0 g1 g2 c0 c1 c2 c3 c4 d0 d1 d2 d3 d4 d5 d6 d7 Y2 Y3 Y4 B5 E5 In5 Rb5
        generalize (((w5.setCell ⟨x.mb, k * 3, none⟩ (.int .i64 (L.length : Int))).setCell ⟨x.mb, k * 3 + 1, none⟩ (.int .i64 (oW q.s q.n po))).setCell ⟨x.mb, k * 3 + 2, none⟩ (.slice (some ⟨g5, q5, none⟩) 3 c5)) = w6 at *
        obtain ⟨c0, c1, c2, c3, c4⟩ := U2.out.five
        obtain ⟨y0, y1, y2, y3, y4⟩ := U4.out.five
        have t0 := U4.out.frozen 0
        have t1 := U4.out.frozen 1
        have t2 := U4.out.frozen 2
        have t3 := U4.out.frozen 3
        have t4 := U4.out.frozen 4
        go_wp2
        have HF : pushE e q = ⟨e.disk, e.mem.set k ((L.length : Int), oW q.s q.n po, [sW 0 q.s q.n za, sW 1 q.s q.n zb, sW 2 q.s q.n zc]), L, e.safe, e.down⟩ := by
          rw [HPu.out, HLN.out]
          rfl
        refine bodyPost_ret (v := .tuple #[engV ⟨x.db, x.dc, x.mb, x.mc, bl, cl⟩ ⟨e.disk, e.mem.set k ((L.length : Int), oW q.s q.n po, [sW 0 q.s q.n za, sW 1 q.s q.n zb, sW 2 q.s q.n zc]), L, e.safe, e.down⟩, .bool true]) (by simp [results, Try.results85, go_sem, y0, y1, y2, y3, y4]) rfl ⟨⟨x.db, x.dc, x.mb, x.mc, bl, cl⟩, by rw [HR.out, HF], ?_, U5.out.put5E (by omega) ⟨x.db, x.dc, x.mb, x.mc, bl, cl⟩ ⟨e.disk, e.mem.set k ((L.length : Int), oW q.s q.n po, [sW 0 q.s q.n za, sW 1 q.s q.n zb, sW 2 q.s q.n zc]), L, e.safe, e.down⟩⟩
        rw [HR.out, HF]
        exact U1.out.box U4.out (by simp) (fun i _ hn => put5E_far (x := ⟨x.db, x.dc, x.mb, x.mc, bl, cl⟩) (e := ⟨e.disk, e.mem.set k ((L.length : Int), oW q.s q.n po, [sW 0 q.s q.n za, sW 1 q.s q.n zb, sW 2 q.s q.n zc]), L, e.safe, e.down⟩) hn)
end Go.Proofs.Ytejbmjdipfcblaa.Base
