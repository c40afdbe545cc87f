/-
  Contract of the model's l21Fall. Conditions: the engine lies in memory and keeps what holds throughout a play.
-/
import Derived.Test.YtejbmjdipfcblaaAddK
import Derived.Deep.DeepCutAuto
namespace Go.Proofs.Ytejbmjdipfcblaa.Base
open Go.RowKit

set_option maxRecDepth 100000 in
set_option maxHeartbeats 2000000 in
theorem l21Fall_any (base : Nat) (x : Ad) (e : EE) (n0 : Int) (w : World) (hbw : base ≤ w.heap.size) (he : Eng w base x e) (hi : Inv e) :
    Calls Try.prog 73 #[engV x e, .int .i64 n0] w (RetE base x (fallE e n0) w) := by
  obtain ⟨dk, mm, lg, sf, dn⟩ := e
  obtain ⟨s, rfl⟩ : ∃ s : Nat, sf = (s : Int) := Int.eq_ofNat_of_zero_le hi.s0
  have hs1 : s ≤ lg.length := by have := hi.s1; simp only at this; omega
  have hl150 : lg.length ≤ 150 := log_len hi.log
  have HE := Lib.hid he
  have HI := Lib.hid hi
  have h2 : Has ((w.alloc (.cells (engC x ⟨dk, mm, lg, (s : Int), dn⟩) 60)).alloc (.cells zeroEC 60)) w.heap.size 60 (engC x ⟨dk, mm, lg, (s : Int), dn⟩) := (Has.new w _ _).alloc _
  have h4 : Has ((w.alloc (.cells (engC x ⟨dk, mm, lg, (s : Int), dn⟩) 60)).alloc (.cells zeroEC 60)) (w.heap.size + 1) 60 zeroEC := by
    have := Has.new (w.alloc (.cells (engC x ⟨dk, mm, lg, (s : Int), dn⟩) 60)) 60 zeroEC
    rwa [World.size_alloc] at this
  have B1 : Hid (Below w.heap.size w ((w.alloc (.cells (engC x ⟨dk, mm, lg, (s : Int), dn⟩) 60)).alloc (.cells zeroEC 60))) := below_two _ _ _
  have X2 := Lib.hid h2
  have X4 := Lib.hid h4
  clear he hi h2 h4
  go_enter Try.func73, Try.ntmps73
  go_upto_region 1 with (fail)
  generalize ((w.alloc (.cells (engC x ⟨dk, mm, lg, (s : Int), dn⟩) 60)).alloc (.cells zeroEC 60)) = w1 at *
  have HE1 := Lib.hid (HE.out.below B1.out)
  have l4 := X4.out.lt
  have lxb : x.lb < w1.heap.size := HE1.out.l.lt'.2
  have O2 : Hid (OwnRs (w1.alloc (.cells #[] 27)) (w.heap.size) (.slice (some ⟨w1.heap.size, 0, none⟩) 0 0) []) := OwnRs.empty (Has.new w1 _ _) (by omega)
  have X2a := Lib.hid (X2.out.alloc (.cells #[] 27))
  obtain ⟨c0, c1, c2, c3, c4⟩ := X2.out.five
  obtain ⟨d0, d1, d2, d3, d4⟩ := X2a.out.five
  have f2 := X2a.out.frozen 2
  have hlc : lg.length ≤ x.lc := HE1.out.l.rd.2.2
  have HRL : Hid (RdR w1 x.lb 0 lg) := HE1.out.l.rd.2.1
  go_cut [] (fun wx => ∃ bl cl, Has wx w.heap.size 60 (engC ⟨x.db, x.dc, x.mb, x.mc, bl, cl⟩ ⟨dk, mm, lg.take (leftE ⟨dk, mm, lg, (s : Int), dn⟩ n0), (s : Int), dn⟩) ∧ OwnRs wx w.heap.size (.slice (some ⟨bl, 0, none⟩) (lg.take (leftE ⟨dk, mm, lg, (s : Int), dn⟩ n0)).length cl) (lg.take (leftE ⟨dk, mm, lg, (s : Int), dn⟩ n0)) ∧ Below w.heap.size w wx ∧ Has wx (w.heap.size + 1) 60 zeroEC)
  case first =>
    by_cases h1 : (lg.length : Int) < n0
    · by_cases h2 : (s : Int) < (lg.length : Int)
      · have Hm : Hid (leftE ⟨dk, mm, lg, (s : Int), dn⟩ n0 = lg.length) := by show leftE _ _ = _; unfold leftE; simp only; omega
        have hml : lg.length ≤ lg.length := by omega
        have Htl : Hid (lg.length = (lg.take (lg.length)).length) := by show lg.length = _; rw [List.length_take]; omega
        have HRt : Hid (RdR (w1.alloc (.cells #[] 27)) x.lb 0 (lg.take (lg.length))) := fun j hj => by
          rw [List.length_take] at hj
          rw [recAt_take lg (by omega)]
          exact (HRL.out.below (below_one w1 _) lxb) j (by omega)
        have hmc : lg.length ≤ x.lc := by omega
        have hmc0 : (0 : Int) ≤ ((lg.length : Nat) : Int) := by omega
        have hmc1 : ((lg.length : Nat) : Int) ≤ (x.lc : Int) := by omega
        go_wp2_with (at_builtin; go_loud (refine wp_append_recs _ rfl (.tmp 5) (.tmp 16) rfl w.heap.size _ [] rfl O2.out x.lb 0 (lg.length) x.lc (lg.take (lg.length)) Htl.out rfl HRt.out (by have := Htl.out; simp; omega) (by simp; omega) ?_; intro v' w' k1 k2; have H1 := Lib.hid k1; have H2 := Lib.hid k2; obtain ⟨bl, cl, hv, -⟩ := k1.open; subst hv; have k2 : (w1.alloc (.cells #[] 27)).grownBy w' (some w1.heap.size) := k2; have hX2 := (X2a.out.grown k2 (fun e => Has.ne_kind X2a.out (Has.new w1 27 #[]) (by decide) (by injection e))); have hX4 := ((X4.out.alloc (.cells #[] 27)).grown k2 (fun e => Has.ne_kind (X4.out.alloc (.cells #[] 27)) (Has.new w1 27 #[]) (by decide) (by injection e))); have W2 := Lib.hid hX2; have W4 := Lib.hid hX4; have f2' := hX2.frozen 2; obtain ⟨q0, q1, q2, q3, q4⟩ := hX2.five; have HB : Hid (Below w.heap.size w w') := (B1.out.alloc B1.out.size _).trans (below_grown k2 (by omega) (by simp; omega)); clear k1 k2 hX2 hX4))
        go_meet
        rw [Hm.out]
        have hoo : OwnRs w' w.heap.size (.slice (some ⟨bl, 0, none⟩) (lg.take (lg.length)).length cl) (lg.take (lg.length)) := H1.out
        obtain ⟨cs, hcs⟩ := hoo.has
        have nb : bl ≠ w.heap.size := Ne.symm (Has.ne_kind W2.out hcs (by decide))
        have e2 : Has (w'.setCell ⟨w.heap.size, 2, none⟩ (.slice (some ⟨bl, 0, none⟩) (lg.length) cl)) w.heap.size 60 (engC ⟨x.db, x.dc, x.mb, x.mc, bl, cl⟩ ⟨dk, mm, lg.take (lg.length), (s : Int), dn⟩) := by
          have h := W2.out.set 2 (.slice (some ⟨bl, 0, none⟩) (lg.take (lg.length)).length cl)
          rw [← Htl.out] at h
          show Has _ _ _ #[.slice (some ⟨x.db, 0, none⟩) 5 x.dc, .slice (some ⟨x.mb, 0, none⟩) 5 x.mc, .slice (some ⟨bl, 0, none⟩) (lg.take (lg.length)).length cl, .int .i64 (s : Int), .bool dn]
          rw [← Htl.out]
          exact h
        exact ⟨bl, cl, e2, hoo.keep (fun g hg => by obtain rfl : bl = g := by simpa [Value.ownBlock] using hg
                                                    exact Below.heap_setCell _ _ _ _ (by simpa using nb)), HB.out.setCell (by simp) _, W4.out.far (by simp) _⟩
      · have Hm : Hid (leftE ⟨dk, mm, lg, (s : Int), dn⟩ n0 = s) := by show leftE _ _ = _; unfold leftE; simp only; omega
        have hml : s ≤ lg.length := by omega
        have Htl : Hid (s = (lg.take (s)).length) := by show s = _; rw [List.length_take]; omega
        have HRt : Hid (RdR (w1.alloc (.cells #[] 27)) x.lb 0 (lg.take (s))) := fun j hj => by
          rw [List.length_take] at hj
          rw [recAt_take lg (by omega)]
          exact (HRL.out.below (below_one w1 _) lxb) j (by omega)
        have hmc : s ≤ x.lc := by omega
        have hmc0 : (0 : Int) ≤ ((s : Nat) : Int) := by omega
        have hmc1 : ((s : Nat) : Int) ≤ (x.lc : Int) := by omega
        go_wp2_with (at_builtin; go_loud (refine wp_append_recs _ rfl (.tmp 5) (.tmp 16) rfl w.heap.size _ [] rfl O2.out x.lb 0 (s) x.lc (lg.take (s)) Htl.out rfl HRt.out (by have := Htl.out; simp; omega) (by simp; omega) ?_; intro v' w' k1 k2; have H1 := Lib.hid k1; have H2 := Lib.hid k2; obtain ⟨bl, cl, hv, -⟩ := k1.open; subst hv; have k2 : (w1.alloc (.cells #[] 27)).grownBy w' (some w1.heap.size) := k2; have hX2 := (X2a.out.grown k2 (fun e => Has.ne_kind X2a.out (Has.new w1 27 #[]) (by decide) (by injection e))); have hX4 := ((X4.out.alloc (.cells #[] 27)).grown k2 (fun e => Has.ne_kind (X4.out.alloc (.cells #[] 27)) (Has.new w1 27 #[]) (by decide) (by injection e))); have W2 := Lib.hid hX2; have W4 := Lib.hid hX4; have f2' := hX2.frozen 2; obtain ⟨q0, q1, q2, q3, q4⟩ := hX2.five; have HB : Hid (Below w.heap.size w w') := (B1.out.alloc B1.out.size _).trans (below_grown k2 (by omega) (by simp; omega)); clear k1 k2 hX2 hX4))
        go_meet
        rw [Hm.out]
        have hoo : OwnRs w' w.heap.size (.slice (some ⟨bl, 0, none⟩) (lg.take (s)).length cl) (lg.take (s)) := H1.out
        obtain ⟨cs, hcs⟩ := hoo.has
        have nb : bl ≠ w.heap.size := Ne.symm (Has.ne_kind W2.out hcs (by decide))
        have e2 : Has (w'.setCell ⟨w.heap.size, 2, none⟩ (.slice (some ⟨bl, 0, none⟩) (s) cl)) w.heap.size 60 (engC ⟨x.db, x.dc, x.mb, x.mc, bl, cl⟩ ⟨dk, mm, lg.take (s), (s : Int), dn⟩) := by
          have h := W2.out.set 2 (.slice (some ⟨bl, 0, none⟩) (lg.take (s)).length cl)
          rw [← Htl.out] at h
          show Has _ _ _ #[.slice (some ⟨x.db, 0, none⟩) 5 x.dc, .slice (some ⟨x.mb, 0, none⟩) 5 x.mc, .slice (some ⟨bl, 0, none⟩) (lg.take (s)).length cl, .int .i64 (s : Int), .bool dn]
          rw [← Htl.out]
          exact h
        exact ⟨bl, cl, e2, hoo.keep (fun g hg => by obtain rfl : bl = g := by simpa [Value.ownBlock] using hg
                                                    exact Below.heap_setCell _ _ _ _ (by simpa using nb)), HB.out.setCell (by simp) _, W4.out.far (by simp) _⟩
    · by_cases h2 : (s : Int) < n0
      · obtain ⟨n, rfl⟩ : ∃ n : Nat, n0 = (n : Int) := Int.eq_ofNat_of_zero_le (by omega)
        have Hm : Hid (leftE ⟨dk, mm, lg, (s : Int), dn⟩ (n : Int) = n) := by show leftE _ _ = _; unfold leftE; simp only; omega
        have hml : n ≤ lg.length := by omega
        have Htl : Hid (n = (lg.take (n)).length) := by show n = _; rw [List.length_take]; omega
        have HRt : Hid (RdR (w1.alloc (.cells #[] 27)) x.lb 0 (lg.take (n))) := fun j hj => by
          rw [List.length_take] at hj
          rw [recAt_take lg (by omega)]
          exact (HRL.out.below (below_one w1 _) lxb) j (by omega)
        have hmc : n ≤ x.lc := by omega
        have hmc0 : (0 : Int) ≤ ((n : Nat) : Int) := by omega
        have hmc1 : ((n : Nat) : Int) ≤ (x.lc : Int) := by omega
        go_wp2_with (at_builtin; go_loud (refine wp_append_recs _ rfl (.tmp 5) (.tmp 16) rfl w.heap.size _ [] rfl O2.out x.lb 0 (n) x.lc (lg.take (n)) Htl.out rfl HRt.out (by have := Htl.out; simp; omega) (by simp; omega) ?_; intro v' w' k1 k2; have H1 := Lib.hid k1; have H2 := Lib.hid k2; obtain ⟨bl, cl, hv, -⟩ := k1.open; subst hv; have k2 : (w1.alloc (.cells #[] 27)).grownBy w' (some w1.heap.size) := k2; have hX2 := (X2a.out.grown k2 (fun e => Has.ne_kind X2a.out (Has.new w1 27 #[]) (by decide) (by injection e))); have hX4 := ((X4.out.alloc (.cells #[] 27)).grown k2 (fun e => Has.ne_kind (X4.out.alloc (.cells #[] 27)) (Has.new w1 27 #[]) (by decide) (by injection e))); have W2 := Lib.hid hX2; have W4 := Lib.hid hX4; have f2' := hX2.frozen 2; obtain ⟨q0, q1, q2, q3, q4⟩ := hX2.five; have HB : Hid (Below w.heap.size w w') := (B1.out.alloc B1.out.size _).trans (below_grown k2 (by omega) (by simp; omega)); clear k1 k2 hX2 hX4))
        go_meet
        rw [Hm.out]
        have hoo : OwnRs w' w.heap.size (.slice (some ⟨bl, 0, none⟩) (lg.take (n)).length cl) (lg.take (n)) := H1.out
        obtain ⟨cs, hcs⟩ := hoo.has
        have nb : bl ≠ w.heap.size := Ne.symm (Has.ne_kind W2.out hcs (by decide))
        have e2 : Has (w'.setCell ⟨w.heap.size, 2, none⟩ (.slice (some ⟨bl, 0, none⟩) (n) cl)) w.heap.size 60 (engC ⟨x.db, x.dc, x.mb, x.mc, bl, cl⟩ ⟨dk, mm, lg.take (n), (s : Int), dn⟩) := by
          have h := W2.out.set 2 (.slice (some ⟨bl, 0, none⟩) (lg.take (n)).length cl)
          rw [← Htl.out] at h
          show Has _ _ _ #[.slice (some ⟨x.db, 0, none⟩) 5 x.dc, .slice (some ⟨x.mb, 0, none⟩) 5 x.mc, .slice (some ⟨bl, 0, none⟩) (lg.take (n)).length cl, .int .i64 (s : Int), .bool dn]
          rw [← Htl.out]
          exact h
        exact ⟨bl, cl, e2, hoo.keep (fun g hg => by obtain rfl : bl = g := by simpa [Value.ownBlock] using hg
                                                    exact Below.heap_setCell _ _ _ _ (by simpa using nb)), HB.out.setCell (by simp) _, W4.out.far (by simp) _⟩
      · have Hm : Hid (leftE ⟨dk, mm, lg, (s : Int), dn⟩ n0 = s) := by show leftE _ _ = _; unfold leftE; simp only; omega
        have hml : s ≤ lg.length := by omega
        have Htl : Hid (s = (lg.take (s)).length) := by show s = _; rw [List.length_take]; omega
        have HRt : Hid (RdR (w1.alloc (.cells #[] 27)) x.lb 0 (lg.take (s))) := fun j hj => by
          rw [List.length_take] at hj
          rw [recAt_take lg (by omega)]
          exact (HRL.out.below (below_one w1 _) lxb) j (by omega)
        have hmc : s ≤ x.lc := by omega
        have hmc0 : (0 : Int) ≤ ((s : Nat) : Int) := by omega
        have hmc1 : ((s : Nat) : Int) ≤ (x.lc : Int) := by omega
        go_wp2_with (at_builtin; go_loud (refine wp_append_recs _ rfl (.tmp 5) (.tmp 16) rfl w.heap.size _ [] rfl O2.out x.lb 0 (s) x.lc (lg.take (s)) Htl.out rfl HRt.out (by have := Htl.out; simp; omega) (by simp; omega) ?_; intro v' w' k1 k2; have H1 := Lib.hid k1; have H2 := Lib.hid k2; obtain ⟨bl, cl, hv, -⟩ := k1.open; subst hv; have k2 : (w1.alloc (.cells #[] 27)).grownBy w' (some w1.heap.size) := k2; have hX2 := (X2a.out.grown k2 (fun e => Has.ne_kind X2a.out (Has.new w1 27 #[]) (by decide) (by injection e))); have hX4 := ((X4.out.alloc (.cells #[] 27)).grown k2 (fun e => Has.ne_kind (X4.out.alloc (.cells #[] 27)) (Has.new w1 27 #[]) (by decide) (by injection e))); have W2 := Lib.hid hX2; have W4 := Lib.hid hX4; have f2' := hX2.frozen 2; obtain ⟨q0, q1, q2, q3, q4⟩ := hX2.five; have HB : Hid (Below w.heap.size w w') := (B1.out.alloc B1.out.size _).trans (below_grown k2 (by omega) (by simp; omega)); clear k1 k2 hX2 hX4))
        go_meet
        rw [Hm.out]
        have hoo : OwnRs w' w.heap.size (.slice (some ⟨bl, 0, none⟩) (lg.take (s)).length cl) (lg.take (s)) := H1.out
        obtain ⟨cs, hcs⟩ := hoo.has
        have nb : bl ≠ w.heap.size := Ne.symm (Has.ne_kind W2.out hcs (by decide))
        have e2 : Has (w'.setCell ⟨w.heap.size, 2, none⟩ (.slice (some ⟨bl, 0, none⟩) (s) cl)) w.heap.size 60 (engC ⟨x.db, x.dc, x.mb, x.mc, bl, cl⟩ ⟨dk, mm, lg.take (s), (s : Int), dn⟩) := by
          have h := W2.out.set 2 (.slice (some ⟨bl, 0, none⟩) (lg.take (s)).length cl)
          rw [← Htl.out] at h
          show Has _ _ _ #[.slice (some ⟨x.db, 0, none⟩) 5 x.dc, .slice (some ⟨x.mb, 0, none⟩) 5 x.mc, .slice (some ⟨bl, 0, none⟩) (lg.take (s)).length cl, .int .i64 (s : Int), .bool dn]
          rw [← Htl.out]
          exact h
        exact ⟨bl, cl, e2, hoo.keep (fun g hg => by obtain rfl : bl = g := by simpa [Value.ownBlock] using hg
                                                    exact Below.heap_setCell _ _ _ _ (by simpa using nb)), HB.out.setCell (by simp) _, W4.out.far (by simp) _⟩
  case rest =>
    obtain ⟨bl, cl, k2, kO, kB, k4⟩ := hcut
    obtain ⟨L, hL⟩ : ∃ L, lg.take (leftE ⟨dk, mm, lg, (s : Int), dn⟩ n0) = L := ⟨_, rfl⟩
    rw [hL] at k2 kO
    have HF : Hid (fallE ⟨dk, mm, lg, (s : Int), dn⟩ n0 = ⟨dk, dk, L, (s : Int), true⟩) := by show fallE _ _ = _; unfold fallE; rw [← hL]
    clear X2 X4 B1 HE1 O2 X2a c0 c1 c2 c3 c4 d0 d1 d2 d3 d4 f2 HRL hL lxb l4
    have X2 := Lib.hid k2
    have X4 := Lib.hid k4
    have HO := Lib.hid kO
    have HB := Lib.hid kB
    have HE1 := Lib.hid (HE.out.below kB)
    have hbc := kB.size
    obtain ⟨c0, c1, c2, c3, c4⟩ := k2.five
    clear k2 k4 kO kB
    go_wp2_with fail
    refine (copyPages5 base x.db x.dc dk _ HE1.out.d HI.out.d5 (three_all HI.out).1).mono ?_
    rintro en w3 ⟨bm, cm, rfl, b3, p3⟩
    have V2 := Lib.hid (X2.out.below b3 X2.out.lt)
    have V4 := Lib.hid (X4.out.below b3 X4.out.lt)
    have VO := Lib.hid (HO.out.below b3)
    have VB : Hid (Below w.heap.size w w3) := HB.out.trans (b3.mono hbc)
    have VP := Lib.hid p3
    have VE := Lib.hid (HE1.out.below b3)
    clear b3 p3 X2 X4 HO HB HE1 c0 c1 c2 c3 c4
    obtain ⟨c0, c1, c2, c3, c4⟩ := V2.out.five
    have f1 := V2.out.frozen 1
    have U2 : Hid (Has (w3.setCell ⟨w.heap.size, 1, none⟩ (.slice (some ⟨bm, 0, none⟩) 5 cm)) w.heap.size 60 (engC ⟨x.db, x.dc, bm, cm, bl, cl⟩ ⟨dk, dk, L, (s : Int), dn⟩)) := V2.out.set 1 _
    have U4 : Hid (Has (w3.setCell ⟨w.heap.size, 1, none⟩ (.slice (some ⟨bm, 0, none⟩) 5 cm)) (w.heap.size + 1) 60 zeroEC) := V4.out.far (by simp) _
    have UE : Hid (Eng (w3.setCell ⟨w.heap.size, 1, none⟩ (.slice (some ⟨bm, 0, none⟩) 5 cm)) base ⟨x.db, x.dc, bm, cm, bl, cl⟩ ⟨dk, dk, L, (s : Int), dn⟩) := by
      have hdb := (HE.out.d.lt).2
      have hbm := VP.out.lt.1
      have hw := hbc
      have E1 : Eng w3 base ⟨x.db, x.dc, bm, cm, bl, cl⟩ ⟨dk, dk, L, (s : Int), dn⟩ := ⟨VE.out.d, VP.out.down (by omega), VO.out.lower hbw, by show x.db ≠ bm; omega⟩
      exact E1.box V2.out (by simp) (fun i _ hn => Below.heap_setCell _ _ _ _ (by simpa using hn))
    have UF : Hid (Frm x w ⟨x.db, x.dc, bm, cm, bl, cl⟩ (w3.setCell ⟨w.heap.size, 1, none⟩ (.slice (some ⟨bm, 0, none⟩) 5 cm))) := by
      have hbm := VP.out.lt.1
      have k := (VB.out.setCell (p := ⟨w.heap.size, 1, none⟩) (Nat.le_refl _) (.slice (some ⟨bm, 0, none⟩) 5 cm))
      exact ⟨k.os, k.tape, k.output, k.size, fun i hi _ _ => k.block i hi, .inl rfl, .inr (by show w.heap.size ≤ bm; omega)⟩
    go_upto_region 3 with (fail)
    generalize (w3.setCell ⟨w.heap.size, 1, none⟩ (.slice (some ⟨bm, 0, none⟩) 5 cm)) = w4 at *
    clear c0 c1 c2 c3 c4 f1 V2 V4 VO VB VP VE
    obtain ⟨c0, c1, c2, c3, c4⟩ := U2.out.five
    have f4 := U2.out.frozen 4
    have T2 : Hid (Has (w4.setCell ⟨w.heap.size, 4, none⟩ (.bool true)) w.heap.size 60 (engC ⟨x.db, x.dc, bm, cm, bl, cl⟩ ⟨dk, dk, L, (s : Int), true⟩)) := U2.out.set 4 _
    have T4 : Hid (Has (w4.setCell ⟨w.heap.size, 4, none⟩ (.bool true)) (w.heap.size + 1) 60 zeroEC) := U4.out.far (by simp) _
    have TE : Hid (Eng (w4.setCell ⟨w.heap.size, 4, none⟩ (.bool true)) base ⟨x.db, x.dc, bm, cm, bl, cl⟩ ⟨dk, dk, L, (s : Int), true⟩) := (UE.out.of (e' := ⟨dk, dk, L, (s : Int), true⟩) rfl rfl rfl).box U2.out (by simp) (fun i _ hn => Below.heap_setCell _ _ _ _ (by simpa using hn))
    have TF : Hid (Frm x w ⟨x.db, x.dc, bm, cm, bl, cl⟩ (w4.setCell ⟨w.heap.size, 4, none⟩ (.bool true))) := UF.out.setCell (.inl (Nat.le_refl _)) _ _
    go_upto_region 4 with (fail)
    generalize (w4.setCell ⟨w.heap.size, 4, none⟩ (.bool true)) = w5 at *
    clear c0 c1 c2 c3 c4 f4 U2 U4 UE UF
    obtain ⟨c0, c1, c2, c3, c4⟩ := T2.out.five
    obtain ⟨y0, y1, y2, y3, y4⟩ := T4.out.five
    have t0 := T4.out.frozen 0
    have t1 := T4.out.frozen 1
    have t2 := T4.out.frozen 2
    have t3 := T4.out.frozen 3
    have t4 := T4.out.frozen 4
    go_wp2
    refine bodyPost_ret (v := engV ⟨x.db, x.dc, bm, cm, bl, cl⟩ ⟨dk, dk, L, (s : Int), true⟩) (by simp [results, Try.results73, go_sem, y0, y1, y2, y3, y4]) rfl ⟨⟨x.db, x.dc, bm, cm, bl, cl⟩, by rw [HF.out], ?_, TF.out.put5E (by omega) ⟨x.db, x.dc, bm, cm, bl, cl⟩ ⟨dk, dk, L, (s : Int), true⟩⟩
    rw [HF.out]
    exact TE.out.box T4.out (by simp) (fun i _ hn => put5E_far (x := ⟨x.db, x.dc, bm, cm, bl, cl⟩) (e := ⟨dk, dk, L, (s : Int), true⟩) hn)
end Go.Proofs.Ytejbmjdipfcblaa.Base
