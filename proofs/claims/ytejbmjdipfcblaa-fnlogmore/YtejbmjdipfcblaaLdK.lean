/-
  Contract of the model's l12Load. Conditions: the engine lies in memory and keeps what holds throughout a play.
-/
import Derived.Test.YtejbmjdipfcblaaAddK
import Derived.Test.YtejbmjdipfcblaaMayK
import Derived.Test.YtejbmjdipfcblaaIntStepK
namespace Go.Proofs.Ytejbmjdipfcblaa.Base
open Go.RowKit

theorem size_drew'' (W : World) : W.drew.heap.size = W.heap.size := rfl
/-- where l12Load stands while it makes the new page -/
structure LdSt (w0 wx : World) (em : Option Nat) : Prop where
  low : Below w0.heap.size w0 wx
  fe : ∀ b, em = some b → Has wx b 3 #[] ∧ w0.heap.size ≤ b
section
variable {w0 wx wy : World} {zs : List Int}
theorem LdSt.empty {n : Nat} (h : LdSt w0 wx none) (hn : wx.heap.size = n) : LdSt w0 (wx.alloc (.cells #[] 3)) (some n) := by
  subst hn
  refine ⟨h.low.alloc h.low.size _, fun b hb => ?_⟩
  injection hb with hb
  subst hb
  exact ⟨Has.new wx _ _, h.low.size⟩
theorem LdSt.copied {ge b c : Nat} (h : LdSt w0 wx (some ge)) (hc : Copy wx ge zs b c wy) : LdSt w0 wy none :=
  ⟨h.low.trans (below_grown hc.grown (h.fe _ rfl).2 h.low.size), fun _ h => (by cases h)⟩
theorem LdSt.at_ {ge b c base : Nat} {l o : Int} (h : LdSt w0 wx (some ge)) (hc : Copy wx ge zs b c wy) (hb : base ≤ w0.heap.size) : PgAt wy base ⟨l, o, b, 0, c, zs⟩ := by
  obtain ⟨cs, hi⟩ := hc.ib
  exact ⟨Nat.le_trans hb (Nat.le_trans (h.fe _ rfl).2 hc.low), hc.rd, hc.wr, ⟨_, _, _, hi, by decide⟩⟩
end
theorem Frm.put3 {x x' : Ad} {w w' w'' : World} (h : Frm x w x' w') (k : Below w'.drew.heap.size w'.drew w'') (q : Nat) (a b c : Value) : Frm x w x' (put3At w'' x'.mb q a b c) := by
  have g := h.grow (w'' := w'') ((wy_drew w').trans k)
  have hm := h.mb
  have hm' : w.heap.size ≤ x'.mb ∨ x'.mb = x.mb ∨ x'.mb = x.db := by omega
  exact ((g.setCell hm' _ _).setCell hm' _ _).setCell hm' _ _

set_option maxRecDepth 100000 in
set_option maxHeartbeats 4000000 in
theorem l12Load_any (base : Nat) (x : Ad) (e : EE) (t p : Int) (av : Option Addr) (cv : Nat) (zs : List Int) (w : World) (hbw : base ≤ w.heap.size) (he : Eng w base x e) (hi : Inv e) (hv : Vals w av zs) (mx : zs.length ≤ 1000) :
    Calls Try.prog 69 #[engV x e, .int .i64 t, .int .i64 p, .slice av zs.length cv] w (RetEB base x (loadE e t p zs) w) := by
  have HE := Lib.hid he
  have HI := Lib.hid hi
  have HM : Hid (∀ W, Below w.heap.size w W → Calls Try.prog 84 #[engV x e, .int .i64 t, .int .i64 p] W (Keeps (.bool (mayE e t p)) W)) := fun W hW => l12May_any base x e t p W (he.below hW) hi
  have h5 : Has ((w.alloc (.cells (engC x e) 60)).alloc (.cells zeroEC 60)) w.heap.size 60 (engC x e) := (Has.new w _ _).alloc _
  have h10 : Has ((w.alloc (.cells (engC x e) 60)).alloc (.cells zeroEC 60)) (w.heap.size + 1) 60 zeroEC := by
    have := Has.new (w.alloc (.cells (engC x e) 60)) 60 zeroEC
    rwa [World.size_alloc] at this
  have B1 : Hid (Below w.heap.size w ((w.alloc (.cells (engC x e) 60)).alloc (.cells zeroEC 60))) := below_two _ _ _
  have Z5 := Lib.hid h5
  have Z10 := Lib.hid h10
  have HV := Lib.hid hv
  clear he hi h5 h10 hv
  go_enter Try.func69, Try.ntmps69
  go_upto_region 1 with (fail)
  generalize ((w.alloc (.cells (engC x e) 60)).alloc (.cells zeroEC 60)) = w1 at *
  obtain ⟨c0, c1, c2, c3, c4⟩ := Z5.out.five
  go_wp2_with fail
  refine (HM.out _ B1.out).mono ?_
  rintro en w2 ⟨rfl, b2⟩
  have X5 := Lib.hid (Z5.out.below b2 Z5.out.lt)
  have X10 := Lib.hid (Z10.out.below b2 Z10.out.lt)
  have B2 : Hid (Below w.heap.size w w2) := B1.out.trans (b2.mono B1.out.size)
  clear b2 Z5 Z10 B1 c0 c1 c2 c3 c4 HM
  generalize hm : mayE e t p = m at *
  have Hm := Lib.hid hm
  clear hm
  cases m
  · have HR : Hid (loadE e t p zs = (e, false)) := by show loadE e t p zs = _; unfold loadE loadB; rw [Hm.out]; rfl
    obtain ⟨c0, c1, c2, c3, c4⟩ := X5.out.five
    obtain ⟨y0, y1, y2, y3, y4⟩ := X10.out.five
    have t0 := X10.out.frozen 0
    have t1 := X10.out.frozen 1
    have t2 := X10.out.frozen 2
    have t3 := X10.out.frozen 3
    have t4 := X10.out.frozen 4
    go_wp2
    refine bodyPost_ret (v := .tuple #[engV x e, .bool false]) (by simp [results, Try.results69, go_sem, y0, y1, y2, y3, y4]) rfl ⟨x, by rw [HR.out], ?_, Frm.of_below (put5E_below B2.out (by omega) x e) rfl rfl⟩
    rw [HR.out]
    exact (HE.out.below B2.out).box X10.out (by simp) (fun i _ hn => put5E_far hn)
  · have hr := mayE_in Hm.out
    have hp0 := hr.2.1
    have hp4 := hr.2.2
    clear hr
    obtain ⟨k, rfl⟩ := Int.eq_ofNat_of_zero_le hp0
    have hk5 : k < 5 := by omega
    have k0 : (0 : Int) ≤ (k : Int) := by omega
    have k5 : (k : Int) < 5 := by omega
    obtain ⟨pg, hin, hsay, hlow⟩ := (HE.out.below B2.out).mem HI.out hk5
    have hok : okPP (pgE e.mem k) := (HI.out.m _ (mem_at HI.out.m5 (Int.natCast_nonneg k) (by omega))).1
    have h3 := hok.n
    rw [hsay] at h3
    obtain ⟨pl, po, pgb, pq, pc, pz⟩ := pg
    have hz3 : pz.length = 3 := h3
    have Hsay := Lib.hid hsay
    have In := Lib.hid hin
    have m1 := hin.c1
    have lpg : pgb < w2.heap.size := hin.wr.1
    have l5 := X5.out.lt
    have l10 := X10.out.lt
    have ls2 := B2.out.size
    clear hin hsay hok h3 hp0 hp4
    have HO : Hid ((pgE e.mem k).2.1 = po) := by show (pgE e.mem k).2.1 = po; rw [Hsay.out]; rfl
    have HZ : Hid ((pgE e.mem k).2.2 = pz) := by show (pgE e.mem k).2.2 = pz; rw [Hsay.out]; rfl
    have HLB : Hid (loadB e t k zs = ((zs.length == 3) && (!(po == 0) && (zerosB pz && (tookB e.log t k && goodZ zs))))) := by
      show loadB e t k zs = _
      unfold loadB
      rw [Hm.out, HO.out, HZ.out]
      rfl
    by_cases h3 : zs.length = 3
    case neg =>
      have HR : Hid (loadE e t k zs = (e, false)) := by
        show loadE e t k zs = _
        have hb : loadB e t k zs = false := by rw [HLB.out]; simp [h3]
        unfold loadE
        rw [hb]
        rfl
      have hb3 : ((zs.length : Int) != 3) = true := by simp; omega
      clear h3
      obtain ⟨c0, c1, c2, c3, c4⟩ := X5.out.five
      obtain ⟨y0, y1, y2, y3, y4⟩ := X10.out.five
      have t0 := X10.out.frozen 0
      have t1 := X10.out.frozen 1
      have t2 := X10.out.frozen 2
      have t3 := X10.out.frozen 3
      have t4 := X10.out.frozen 4
      go_wp2
      refine bodyPost_ret (v := .tuple #[engV x e, .bool false]) (by simp [results, Try.results69, go_sem, y0, y1, y2, y3, y4]) rfl ⟨x, by rw [HR.out], ?_, Frm.of_below (put5E_below B2.out (by omega) x e) rfl rfl⟩
      rw [HR.out]
      exact (HE.out.below B2.out).box X10.out (by simp) (fun i _ hn => put5E_far hn)
    obtain ⟨za, zb, zc, rfl⟩ := three_of h3
    clear h3
    simp only [List.length_cons, List.length_nil, Nat.zero_add, Nat.reduceAdd]
    cases ho : (po == 0)
    case true =>
      have HR : Hid (loadE e t k [za, zb, zc] = (e, false)) := by
        show loadE e t k [za, zb, zc] = _
        have hb : loadB e t k [za, zb, zc] = false := by rw [HLB.out, ho]; simp
        unfold loadE
        rw [hb]
        rfl
      obtain ⟨c0, c1, c2, c3, c4⟩ := X5.out.five
      obtain ⟨y0, y1, y2, y3, y4⟩ := X10.out.five
      have t0 := X10.out.frozen 0
      have t1 := X10.out.frozen 1
      have t2 := X10.out.frozen 2
      have t3 := X10.out.frozen 3
      have t4 := X10.out.frozen 4
      go_wp2
      refine bodyPost_ret (v := .tuple #[engV x e, .bool false]) (by simp [results, Try.results69, go_sem, y0, y1, y2, y3, y4]) rfl ⟨x, by rw [HR.out], ?_, Frm.of_below (put5E_below B2.out (by omega) x e) rfl rfl⟩
      rw [HR.out]
      exact (HE.out.below B2.out).box X10.out (by simp) (fun i _ hn => put5E_far hn)
    have m0 := In.out.c0
    have m2 := In.out.c2
    simp only [hz3] at m2
    have Hz3 := Lib.hid hz3
    have Ho := Lib.hid ho
    clear hz3
    obtain ⟨c0, c1, c2, c3, c4⟩ := X5.out.five
    have HEM : Hid (∀ W, Below w2.heap.size w2 W → Calls Try.prog 86 #[pageV pl po (some ⟨pgb, pq, none⟩) 3 pc] W (Keeps (.bool (zerosB pz)) W)) := fun W hW => by
      have h := l1Empty_any pl po pz (some ⟨pgb, pq, none⟩) pc w2.heap.size W hW.size ((In.out.rd.ints lpg).below hW) (by have := Hz3.out; omega)
      rw [Hz3.out] at h
      exact h
    go_wp2_with (go_at_call 86; fail)
    refine (HEM.out _ (Below.refl _ _)).mono ?_
    rintro en w4 ⟨rfl, b4⟩
    clear c0 c1 c2 c3 c4 m0 m1 m2 HEM ho
    have X5' := Lib.hid (X5.out.below b4 l5)
    have X10' := Lib.hid (X10.out.below b4 l10)
    have B2' : Hid (Below w.heap.size w w4) := B2.out.trans (b4.mono ls2)
    have In' := Lib.hid (In.out.keep b4.size (b4.block _ In.out.lt) (b4.block _ In.out.wr.1))
    clear X5 X10 B2 In b4 l5 l10 ls2 lpg
    have X5 := X5'
    have X10 := X10'
    have B2 := B2'
    have In := In'
    clear X5' X10' B2' In'
    have l5 := X5.out.lt
    have l10 := X10.out.lt
    have ls2 := B2.out.size
    have lpg : pgb < w4.heap.size := In.out.wr.1
    cases hz : zerosB pz
    case false =>
      have HR : Hid (loadE e t k [za, zb, zc] = (e, false)) := by
        show loadE e t k [za, zb, zc] = _
        have hb : loadB e t k [za, zb, zc] = false := by rw [HLB.out, Ho.out, hz]; simp
        unfold loadE
        rw [hb]
        rfl
      obtain ⟨c0, c1, c2, c3, c4⟩ := X5.out.five
      obtain ⟨y0, y1, y2, y3, y4⟩ := X10.out.five
      have t0 := X10.out.frozen 0
      have t1 := X10.out.frozen 1
      have t2 := X10.out.frozen 2
      have t3 := X10.out.frozen 3
      have t4 := X10.out.frozen 4
      go_wp2
      refine bodyPost_ret (v := .tuple #[engV x e, .bool false]) (by simp [results, Try.results69, go_sem, y0, y1, y2, y3, y4]) rfl ⟨x, by rw [HR.out], ?_, Frm.of_below (put5E_below B2.out (by omega) x e) rfl rfl⟩
      rw [HR.out]
      exact (HE.out.below B2.out).box X10.out (by simp) (fun i _ hn => put5E_far hn)
    have Hz := Lib.hid hz
    clear hz
    have HTK : Hid (Calls Try.prog 87 #[.slice (some ⟨x.lb, 0, none⟩) e.log.length x.lc, .int .i64 t, .int .i64 (k : Int)] w4 (Keeps (.bool (tookB e.log t k)) w4)) :=
      l12Took_any e.log t k _ x.lc w4.heap.size w4 (Nat.le_refl _) HI.out.log (HE.out.below B2.out).recs (by have := log_len HI.out.log; omega)
    obtain ⟨c0, c1, c2, c3, c4⟩ := X5.out.five
    go_wp2_with (go_at_call 87; fail)
    refine HTK.out.mono ?_
    rintro en w5 ⟨rfl, b4⟩
    clear c0 c1 c2 c3 c4 HTK
    have X5' := Lib.hid (X5.out.below b4 l5)
    have X10' := Lib.hid (X10.out.below b4 l10)
    have B2' : Hid (Below w.heap.size w w5) := B2.out.trans (b4.mono ls2)
    have In' := Lib.hid (In.out.keep b4.size (b4.block _ In.out.lt) (b4.block _ In.out.wr.1))
    clear X5 X10 B2 In b4 l5 l10 ls2 lpg
    have X5 := X5'
    have X10 := X10'
    have B2 := B2'
    have In := In'
    clear X5' X10' B2' In'
    have l5 := X5.out.lt
    have l10 := X10.out.lt
    have ls2 := B2.out.size
    have lpg : pgb < w5.heap.size := In.out.wr.1
    cases htk : tookB e.log t k
    case false =>
      have HR : Hid (loadE e t k [za, zb, zc] = (e, false)) := by
        show loadE e t k [za, zb, zc] = _
        have hb : loadB e t k [za, zb, zc] = false := by rw [HLB.out, Ho.out, Hz.out, htk]; simp
        unfold loadE
        rw [hb]
        rfl
      obtain ⟨c0, c1, c2, c3, c4⟩ := X5.out.five
      obtain ⟨y0, y1, y2, y3, y4⟩ := X10.out.five
      have t0 := X10.out.frozen 0
      have t1 := X10.out.frozen 1
      have t2 := X10.out.frozen 2
      have t3 := X10.out.frozen 3
      have t4 := X10.out.frozen 4
      go_wp2
      refine bodyPost_ret (v := .tuple #[engV x e, .bool false]) (by simp [results, Try.results69, go_sem, y0, y1, y2, y3, y4]) rfl ⟨x, by rw [HR.out], ?_, Frm.of_below (put5E_below B2.out (by omega) x e) rfl rfl⟩
      rw [HR.out]
      exact (HE.out.below B2.out).box X10.out (by simp) (fun i _ hn => put5E_far hn)
    have Htk := Lib.hid htk
    clear htk
    have HLC : Hid (loadB e t k [za, zb, zc] = goodZ [za, zb, zc]) := by
      show loadB e t k [za, zb, zc] = _
      rw [HLB.out, Ho.out, Hz.out, Htk.out]
      rfl
    obtain ⟨gv, qv, rfl, hvi, hvr⟩ := HV.out (by simp)
    have HVI := Lib.hid hvi
    have HVR := Lib.hid hvr
    have lgv : gv < w.heap.size := by obtain ⟨cs, hc⟩ := hvi; exact Has.lt hc
    have HG : Hid (goodZ [za, zb, zc] = (inB za 0 9 && (inB zb 0 9 && inB zc 0 9))) := by show goodZ [za, zb, zc] = _; simp [goodZ]
    clear hvi hvr HLB
    obtain ⟨c0, c1, c2, c3, c4⟩ := X5.out.five
    obtain ⟨y0, y1, y2, y3, y4⟩ := X10.out.five
    have t0 := X10.out.frozen 0
    have t1 := X10.out.frozen 1
    have t2 := X10.out.frozen 2
    have t3 := X10.out.frozen 3
    have t4 := X10.out.frozen 4
    go_wp2_with fail
    go_loop [10] (fun i => ∃ j : Nat, j ≤ 3 ∧ i = .int .i64 (j : Int) ∧ ∀ q : Nat, q < j → inB ([za, zb, zc].getD q 0) 0 9 = true) (fun i => 3 - (intOf i).toNat)
    case atStart => exact ⟨0, by omega, rfl, fun q hq => absurd hq (by omega)⟩
    case round =>
      obtain ⟨j, hj, rfl, hgo⟩ := hrel
      have Hgo := Lib.hid hgo
      clear hgo
      by_cases hj3 : j < 3
      · have vz := (HVR.out.below B2.out lgv) j (by simpa using hj3)
        obtain ⟨zj, hzj⟩ : ∃ z, [za, zb, zc].getD j 0 = z := ⟨_, rfl⟩
        rw [hzj] at vz
        have hj3' : (j : Int) < 3 := by omega
        have hj0 : (0 : Int) ≤ (j : Int) := by omega
        cases hin : inB zj 0 9
        · have HIN := Lib.hid hin
          have HR : Hid (loadE e t k [za, zb, zc] = (e, false)) := by
            show loadE e t k [za, zb, zc] = _
            have hb : loadB e t k [za, zb, zc] = false := by
              rw [HLC.out, HG.out]
              have hjj : j = 0 ∨ j = 1 ∨ j = 2 := by omega
              rcases hjj with rfl | rfl | rfl
              · have : za = zj := hzj
                rw [this, hin]; simp
              · have : zb = zj := hzj
                rw [this, hin]; simp
              · have : zc = zj := hzj
                rw [this, hin]; simp
            unfold loadE
            rw [hb]
            rfl
          clear hin hzj
          go_wp2_with (go_at_call 43; refine (l6In_any _ _ _ _).mono ?_; rintro en w9 ⟨rfl, rfl⟩; first | rw [HIN.out])
          refine bodyPost_ret (v := .tuple #[engV x e, .bool false]) (by simp [results, Try.results69, go_sem, y0, y1, y2, y3, y4]) rfl ⟨x, by rw [HR.out], ?_, Frm.of_below (put5E_below B2.out (by omega) x e) rfl rfl⟩
          rw [HR.out]
          exact (HE.out.below B2.out).box X10.out (by simp) (fun i _ hn => put5E_far hn)
        · have HIN := Lib.hid hin
          have Hzj := Lib.hid hzj
          clear hin hzj
          go_wp2_with (go_at_call 43; refine (l6In_any _ _ _ _).mono ?_; rintro en w9 ⟨rfl, rfl⟩; first | rw [HIN.out])
          refine ⟨⟨j + 1, by omega, by go_num, fun q hq => ?_⟩, by simp [intOf]; omega⟩
          rcases Nat.lt_succ_iff_lt_or_eq.1 hq with h | rfl
          · exact Hgo.out q h
          · rw [Hzj.out]; exact HIN.out
      · have hj33 : j = 3 := by omega
        subst hj33
        have hB : loadB e t k [za, zb, zc] = true := by
          rw [HLC.out, HG.out]
          have a0 := Hgo.out 0 (by omega)
          have a1 := Hgo.out 1 (by omega)
          have a2 := Hgo.out 2 (by omega)
          simp at a0 a1 a2
          rw [a0, a1, a2]
          rfl
        have hr := mayE_in Hm.out
        have HNX := Lib.hid (next_load HI.out hr.1.1 hr.1.2 hr.2.1 hr.2.2)
        obtain ⟨res, hres⟩ : ∃ r, addE e ⟨3, t, k, 0, 0, 0, 0, 0⟩ = r := ⟨_, rfl⟩
        obtain ⟨e3, b3⟩ := res
        have HA : Hid (Calls Try.prog 85 #[engV x e, recV ⟨3, t, k, 0, 0, 0, 0, 0⟩] w5 (RetEB base x (e3, b3) w5)) := by
          have h := l12Add_any base x e ⟨3, t, k, 0, 0, 0, 0, 0⟩ w5 (Nat.le_trans hbw ls2) (HE.out.below B2.out) HI.out HNX.out
          rw [hres] at h
          exact h
        have HR : Hid (loadE e t k [za, zb, zc] = if b3 then (fillE e3 k [za, zb, zc], true) else (e3, false)) := by
          show loadE e t k [za, zb, zc] = _
          unfold loadE
          rw [hB, hres]
          rfl
        have HI3 : Hid (Inv e3) := by
          have h := add_inv HI.out HNX.out
          rw [hres] at h
          exact h
        clear hr hres HNX hB hj hj3
        go_wp2_with (go_at_call 85; fail)
        refine HA.out.mono ?_
        rintro en w6 ⟨x3, rfl, E3, F3⟩
        have n5 := (HE.out.below B2.out).ne_eng X5.out
        have n10 := (HE.out.below B2.out).ne_eng X10.out
        have Z10 := F3.has X10.out n10.1 n10.2
        have ZF := (Frm.of_below B2.out rfl rfl).trans F3
        have HV6 : Hid (IntB w6 gv ∧ Rd .i64 w6 gv qv [za, zb, zc]) := by
          have hk : w6.heap[gv]? = w5.heap[gv]? := by
            obtain ⟨cs, hc⟩ := HVI.out.keep (B2.out.block gv lgv)
            obtain ⟨c1', k1⟩ := (HE.out.below B2.out).d.has
            obtain ⟨c2', k2⟩ := (HE.out.below B2.out).m.has
            exact F3.block gv (Nat.lt_of_lt_of_le lgv ls2) (Has.ne_kind hc k1 (by decide)) (Has.ne_kind hc k2 (by decide))
          exact ⟨(HVI.out.keep (B2.out.block gv lgv)).keep hk, (HVR.out.below B2.out lgv).keep hk⟩
        have l6 : w.heap.size ≤ w6.heap.size := ZF.size
        have U10 := Lib.hid (Z10.alloc (.cells (engC x3 e3) 60))
        have U11 := Lib.hid (Has.new w6 60 (engC x3 e3))
        have UF := Lib.hid (ZF.grow (below_one w6 (.cells (engC x3 e3) 60)))
        have UE := Lib.hid (E3.below (below_one w6 (.cells (engC x3 e3) 60)))
        have hg6 : gv < w6.heap.size := Nat.lt_of_lt_of_le lgv l6
        have UV : Hid (Rd .i64 (w6.alloc (.cells (engC x3 e3) 60)) gv qv [za, zb, zc]) := HV6.out.2.below (below_one w6 _) hg6
        have l106 := Z10.lt
        clear E3 F3 n5 n10 Z10 ZF c0 c1 c2 c3 c4 y0 y1 y2 y3 y4 t0 t1 t2 t3 t4 HA X5 X10 HV6
        go_upto_region 9 with (fail)
        generalize hW7 : (w6.alloc (.cells (engC x3 e3) 60)) = w7 at *
        have hs7 : w7.heap.size = w6.heap.size + 1 := by rw [← hW7, World.size_alloc]
        have l7 : w.heap.size ≤ w7.heap.size := by omega
        have lg7 : gv < w7.heap.size := by omega
        clear hW7 hs7
        generalize hbb : w6.heap.size = b11 at *
        clear hbb
        cases b3 with
        | false =>
          have HR2 : Hid (loadE e t k [za, zb, zc] = (e3, false)) := HR.out
          obtain ⟨c0, c1, c2, c3, c4⟩ := U11.out.five
          obtain ⟨y0, y1, y2, y3, y4⟩ := U10.out.five
          have t0 := U10.out.frozen 0
          have t1 := U10.out.frozen 1
          have t2 := U10.out.frozen 2
          have t3 := U10.out.frozen 3
          have t4 := U10.out.frozen 4
          go_wp2
          refine bodyPost_ret (v := .tuple #[engV x3 e3, .bool false]) (by simp [results, Try.results69, go_sem, y0, y1, y2, y3, y4]) rfl ⟨x3, by rw [HR2.out], ?_, UF.out.put5E (by omega) x3 e3⟩
          rw [HR2.out]
          exact UE.out.box U10.out (by simp) (fun i _ hn => put5E_far hn)
        | true =>
          have HR2 : Hid (loadE e t k [za, zb, zc] = (fillE e3 k [za, zb, zc], true)) := HR.out
          obtain ⟨pg3, hin3, hsay3, hlow3⟩ := UE.out.mem HI3.out hk5
          obtain ⟨ql, qo, qb, qq, qc, qz⟩ := pg3
          have HF : Hid (fillE e3 k [za, zb, zc] = ⟨e3.disk, e3.mem.set k ((e3.log.length : Int), qo, [za, zb, zc]), e3.log, e3.safe, e3.down⟩) := by
            show fillE e3 k [za, zb, zc] = _
            unfold fillE
            rw [hsay3]
            rfl
          obtain ⟨cs, hrb⟩ := UE.out.m.has
          have Rb : Hid (Has w7 x3.mb 94 cs) := hrb
          have ne11 := UE.out.ne_eng U11.out
          have ne10 := UE.out.ne_eng U10.out
          have lmb0 := UE.out.m.lt.1
          clear hsay3 hlow3 hrb HR
          have In3 := Lib.hid hin3
          have m1 := hin3.c1
          simp only at m1
          clear hin3
          obtain ⟨c0, c1, c2, c3, c4⟩ := U11.out.five
          go_upto_region 10 with (fail)
          clear c0 c1 c2 c3 c4
          have St : Hid (LdSt w7.drew w7.drew none) := ⟨Below.refl _ _, fun _ h => (by cases h)⟩
          have D11 : Hid (Has w7.drew b11 60 (engC x3 e3)) := U11.out.drew
          have D10 : Hid (Has w7.drew (w.heap.size + 1) 60 zeroEC) := U10.out.drew
          have DE : Hid (Eng w7.drew base x3 e3) := UE.out.below (wy_drew w7)
          have DP : Hid (PgIn w7.drew x3.mb k ⟨ql, qo, qb, qq, qc, qz⟩) := In3.out.keep (Nat.le_refl _) rfl rfl
          have DV : Hid (Rd .i64 w7.drew gv qv [za, zb, zc]) := UV.out
          have m1a : (w7.alloc (.cells #[] 3)).cell? ⟨x3.mb, k * 3 + 1, none⟩ = some (.int .i64 qo) := (World.cell?_of_block (a := ⟨x3.mb, k * 3 + 1, none⟩) (Below.heap_alloc w7 _ _ In3.out.lt)).trans m1
          have m1b : (w7.alloc (.cells #[] 3)).drew.cell? ⟨x3.mb, k * 3 + 1, none⟩ = some (.int .i64 qo) := m1a
          have D11l := D11.out.lt
          have DPl := DP.out.wr.1
          have DPr := DP.out.lt
          have hk11 : Hid (∀ W, Below w7.drew.heap.size w7.drew W → W.cell? ⟨b11, 1, none⟩ = some (.slice (some ⟨x3.mb, 0, none⟩) 5 x3.mc) ∧ W.cell? ⟨b11, 2, none⟩ = some (.slice (some ⟨x3.lb, 0, none⟩) e3.log.length x3.lc)) := fun W hW => ⟨(D11.out.below hW D11.out.lt).five.2.1, (D11.out.below hW D11.out.lt).five.2.2.1⟩
          have hkp : Hid (∀ W, Below w7.drew.heap.size w7.drew W → PgIn W x3.mb k ⟨ql, qo, qb, qq, qc, qz⟩) := fun W hW => DP.out.keep hW.size (hW.block _ DP.out.lt) (hW.block _ DP.out.wr.1)
          refine wp_region_held_drew (S := (fun w' => w'.cell? ⟨b11, 1, none⟩ = some (.slice (some ⟨x3.mb, 0, none⟩) 5 x3.mc) ∧ w'.cell? ⟨b11, 2, none⟩ = some (.slice (some ⟨x3.lb, 0, none⟩) e3.log.length x3.lc))) (by kernel_rfl) ?_ (fun hHeld0 => ?_)
          · (first | (with_reducible exact hk11.out _ St.out.low) | (with_reducible exact ⟨T11.out.five.2.1, T11.out.five.2.2.1⟩) | exact hk11.out _ St.out.low)
          refine wpAnyH_take (i := 0) (oi := { dst := some 72, op := Go.Op.fieldAddr 60 (Go.Operand.tmp 11) 1, type := 0, pos := "l12_change.go:83", after := #[], guard := none }) (v := ?_) rfl (by kernel_rfl) (by kernel_rfl) (by kernel_rfl) (fun _ _ _ h => h) (Or.inl ⟨by rfl, ?_⟩) hHeld0 ?_
          rotate_left
          · (intro w hSw; (try dsimp only at hSw); go_simp; (first | done | (with_reducible rfl) | (rw [if_neg (by omega)]) | (rw [if_neg (by simp only [ByteArray.size_append]; omega)])))
          (try simp only [Act.put, List.setIfInBounds_toArray, List.set_cons_zero, List.set_cons_succ])
          refine wpAnyH_take (i := 1) (oi := { dst := some 73, op := Go.Op.load 58 (Go.Operand.tmp 72), type := 58, pos := "l12_change.go:83", after := #[{ on := 0, ground := Go.Ground.data }], guard := none }) (v := ?_) rfl (by kernel_rfl) (by kernel_rfl) (by kernel_rfl) (fun _ _ _ h => h) (Or.inl ⟨by rfl, ?_⟩) hHeld0 ?_
          rotate_left
          · (intro w hSw; (try dsimp only at hSw); go_simp; (first | done | (with_reducible rfl) | (rw [if_neg (by omega)]) | (rw [if_neg (by simp only [ByteArray.size_append]; omega)])))
          (try simp only [Act.put, List.setIfInBounds_toArray, List.set_cons_zero, List.set_cons_succ])
          refine wpAnyH_take (i := 2) (oi := { dst := some 74, op := Go.Op.move (Go.Operand.tmp 2), type := 3, pos := "l12_change.go:83", after := #[], guard := none }) (v := ?_) rfl (by kernel_rfl) (by kernel_rfl) (by kernel_rfl) (fun _ _ _ h => h) (Or.inl ⟨by rfl, ?_⟩) hHeld0 ?_
          rotate_left
          · (intro w hSw; (try dsimp only at hSw); go_simp; (first | done | (with_reducible rfl) | (rw [if_neg (by omega)]) | (rw [if_neg (by simp only [ByteArray.size_append]; omega)])))
          (try simp only [Act.put, List.setIfInBounds_toArray, List.set_cons_zero, List.set_cons_succ])
          refine wpAnyH_take (i := 3) (oi := { dst := some 75, op := Go.Op.fieldAddr 60 (Go.Operand.tmp 11) 2, type := 0, pos := "l12_change.go:83", after := #[], guard := none }) (v := ?_) rfl (by kernel_rfl) (by kernel_rfl) (by kernel_rfl) (fun _ _ _ h => h) (Or.inl ⟨by rfl, ?_⟩) hHeld0 ?_
          rotate_left
          · (intro w hSw; (try dsimp only at hSw); go_simp; (first | done | (with_reducible rfl) | (rw [if_neg (by omega)]) | (rw [if_neg (by simp only [ByteArray.size_append]; omega)])))
          (try simp only [Act.put, List.setIfInBounds_toArray, List.set_cons_zero, List.set_cons_succ])
          refine wpAnyH_take (i := 4) (oi := { dst := some 76, op := Go.Op.load 23 (Go.Operand.tmp 75), type := 23, pos := "l12_change.go:83", after := #[{ on := 3, ground := Go.Ground.data }], guard := none }) (v := ?_) rfl (by kernel_rfl) (by kernel_rfl) (by kernel_rfl) (fun _ _ _ h => h) (Or.inl ⟨by rfl, ?_⟩) hHeld0 ?_
          rotate_left
          · (intro w hSw; (try dsimp only at hSw); go_simp; (first | done | (with_reducible rfl) | (rw [if_neg (by omega)]) | (rw [if_neg (by simp only [ByteArray.size_append]; omega)])))
          (try simp only [Act.put, List.setIfInBounds_toArray, List.set_cons_zero, List.set_cons_succ])
          refine wpAnyH_take (i := 5) (oi := { dst := some 77, op := Go.Op.call { callee := Go.Callee.builtin Go.Builtin.len, args := #[Go.Operand.tmp 76], argTypes := #[23] }, type := 3, pos := "l12_change.go:83", after := #[{ on := 4, ground := Go.Ground.data }], guard := none }) (v := ?_) rfl (by kernel_rfl) (by kernel_rfl) (by kernel_rfl) (fun _ _ _ h => h) (Or.inl ⟨by rfl, ?_⟩) hHeld0 ?_
          rotate_left
          · (intro w hSw; (try dsimp only at hSw); go_simp; (first | done | (with_reducible rfl) | (rw [if_neg (by omega)]) | (rw [if_neg (by simp only [ByteArray.size_append]; omega)])))
          (try simp only [Act.put, List.setIfInBounds_toArray, List.set_cons_zero, List.set_cons_succ])
          refine wpAnyH_take (i := 6) (oi := { dst := some 78, op := Go.Op.fieldAddr 60 (Go.Operand.tmp 11) 1, type := 0, pos := "l12_change.go:83", after := #[], guard := none }) (v := ?_) rfl (by kernel_rfl) (by kernel_rfl) (by kernel_rfl) (fun _ _ _ h => h) (Or.inl ⟨by rfl, ?_⟩) hHeld0 ?_
          rotate_left
          · (intro w hSw; (try dsimp only at hSw); go_simp; (first | done | (with_reducible rfl) | (rw [if_neg (by omega)]) | (rw [if_neg (by simp only [ByteArray.size_append]; omega)])))
          (try simp only [Act.put, List.setIfInBounds_toArray, List.set_cons_zero, List.set_cons_succ])
          refine wpAnyH_take (i := 7) (oi := { dst := some 79, op := Go.Op.load 58 (Go.Operand.tmp 78), type := 58, pos := "l12_change.go:83", after := #[{ on := 6, ground := Go.Ground.data }], guard := none }) (v := ?_) rfl (by kernel_rfl) (by kernel_rfl) (by kernel_rfl) (fun _ _ _ h => h) (Or.inl ⟨by rfl, ?_⟩) hHeld0 ?_
          rotate_left
          · (intro w hSw; (try dsimp only at hSw); go_simp; (first | done | (with_reducible rfl) | (rw [if_neg (by omega)]) | (rw [if_neg (by simp only [ByteArray.size_append]; omega)])))
          (try simp only [Act.put, List.setIfInBounds_toArray, List.set_cons_zero, List.set_cons_succ])
          refine wpAnyH_take (i := 8) (oi := { dst := some 80, op := Go.Op.move (Go.Operand.tmp 2), type := 3, pos := "l12_change.go:83", after := #[], guard := none }) (v := ?_) rfl (by kernel_rfl) (by kernel_rfl) (by kernel_rfl) (fun _ _ _ h => h) (Or.inl ⟨by rfl, ?_⟩) hHeld0 ?_
          rotate_left
          · (intro w hSw; (try dsimp only at hSw); go_simp; (first | done | (with_reducible rfl) | (rw [if_neg (by omega)]) | (rw [if_neg (by simp only [ByteArray.size_append]; omega)])))
          (try simp only [Act.put, List.setIfInBounds_toArray, List.set_cons_zero, List.set_cons_succ])
          refine wpAnyH_take (i := 9) (oi := { dst := some 81, op := Go.Op.indexAddr 58 (Go.Operand.tmp 79) (Go.Operand.tmp 80), type := 0, pos := "l12_change.go:83", after := #[{ on := 7, ground := Go.Ground.data }, { on := 8, ground := Go.Ground.data }], guard := none }) (v := ?_) rfl (by kernel_rfl) (by kernel_rfl) (by kernel_rfl) (fun _ _ _ h => h) (Or.inl ⟨by rfl, ?_⟩) hHeld0 ?_
          rotate_left
          · (intro w hSw; (try dsimp only at hSw); go_simp; (first | done | (with_reducible rfl) | (rw [if_neg (by omega)]) | (rw [if_neg (by simp only [ByteArray.size_append]; omega)])))
          (try simp only [Act.put, List.setIfInBounds_toArray, List.set_cons_zero, List.set_cons_succ])
          refine wpAnyH_take (i := 10) (oi := { dst := some 82, op := Go.Op.fieldAddr 94 (Go.Operand.tmp 81) 1, type := 0, pos := "l12_change.go:83", after := #[{ on := 9, ground := Go.Ground.data }], guard := none }) (v := ?_) rfl (by kernel_rfl) (by kernel_rfl) (by kernel_rfl) (fun _ _ _ h => h) (Or.inl ⟨by rfl, ?_⟩) hHeld0 ?_
          rotate_left
          · (intro w hSw; (try dsimp only at hSw); go_simp; (first | done | (with_reducible rfl) | (rw [if_neg (by omega)]) | (rw [if_neg (by simp only [ByteArray.size_append]; omega)])))
          (try simp only [Act.put, List.setIfInBounds_toArray, List.set_cons_zero, List.set_cons_succ])
          refine wpAnyH_take (i := 13) (oi := { dst := some 85, op := Go.Op.move (Go.Operand.tmp 3), type := 31, pos := "l12_change.go:83", after := #[], guard := none }) (v := ?_) rfl (by kernel_rfl) (by kernel_rfl) (by kernel_rfl) (fun _ _ _ h => h) (Or.inl ⟨by rfl, ?_⟩) hHeld0 ?_
          rotate_left
          · (intro w hSw; (try dsimp only at hSw); go_simp; (first | done | (with_reducible rfl) | (rw [if_neg (by omega)]) | (rw [if_neg (by simp only [ByteArray.size_append]; omega)])))
          (try simp only [Act.put, List.setIfInBounds_toArray, List.set_cons_zero, List.set_cons_succ])
          refine wpAnyH_ready (rs := [11, 12]) (by kernel_rfl) (by simp) ?_
          refine AllReadyH.cons (o := { dst := some 83, op := Go.Op.load 3 (Go.Operand.tmp 82), type := 3, pos := "l12_change.go:83", after := #[{ on := 10, ground := Go.Ground.data }], guard := none }) rfl (fun K hK => ?_) (AllReadyH.cons (o := { dst := some 84, op := Go.Op.buildSlice 31 0 #[], type := 31, pos := "l12_change.go:83", after := #[], guard := none }) rfl (fun K hK => ?_) AllReadyH.nil)
          · go_simp
            skip
            (try go_wp2_with fail)
            refine hK.out _ _ ?_ (fun hHeld1 => ?_)
            · (first | (with_reducible exact hk11.out _ St.out.low) | (with_reducible exact ⟨T11.out.five.2.1, T11.out.five.2.2.1⟩) | exact hk11.out _ St.out.low)
            clear hK K hHeld0
            (try simp only [Act.put, List.setIfInBounds_toArray, List.set_cons_zero, List.set_cons_succ])
            refine wpAnyH_ready (rs := [12]) (by kernel_rfl) (by simp) ?_
            refine AllReadyH.cons (o := { dst := some 84, op := Go.Op.buildSlice 31 0 #[], type := 31, pos := "l12_change.go:83", after := #[], guard := none }) rfl (fun K hK => ?_) AllReadyH.nil
            go_simp
            have St' := Lib.hid (St.out.empty (by (try simp only [size_drew'']); rfl))
            clear St
            have St := St'
            clear St'
            have m1 := (hkp.out _ St.out.low).c1
            simp only at m1
            (try go_wp2_with fail)
            refine hK.out _ _ ?_ (fun hHeld2 => ?_)
            · (first | (with_reducible exact hk11.out _ St.out.low) | (with_reducible exact ⟨T11.out.five.2.1, T11.out.five.2.2.1⟩) | exact hk11.out _ St.out.low)
            clear hK K hHeld1
            (try simp only [Act.put, List.setIfInBounds_toArray, List.set_cons_zero, List.set_cons_succ])
            refine wpAnyH_ready (rs := [14]) (by kernel_rfl) (by simp) ?_
            refine AllReadyH.cons (o := { dst := some 86, op := Go.Op.call { callee := Go.Callee.builtin Go.Builtin.append, args := #[Go.Operand.tmp 84, Go.Operand.tmp 85], argTypes := #[31, 31] }, type := 31, pos := "l12_change.go:83", after := #[{ on := 12, ground := Go.Ground.data }, { on := 13, ground := Go.Ground.data }], guard := none }) rfl (fun K hK => ?_) AllReadyH.nil
            refine step_append_ints _ (by rfl) _ _ (by rfl) _ (by rfl) (St.out.fe _ rfl).1 [za, zb, zc] gv qv 3 cv rfl (by rfl) (DV.out.below St.out.low lg7) (by simp) (by simp) ?_
            intro b5 c5 w8 hcp
            have St' := Lib.hid (St.out.copied hcp)
            have Hat : Hid (PgAt w8 base ⟨(e3.log.length : Int), qo, b5, 0, c5, [za, zb, zc]⟩) := St.out.at_ hcp (Nat.le_trans hbw l7)
            clear St hcp m1
            have St := St'
            clear St'
            have m1 := (hkp.out _ St.out.low).c1
            simp only at m1
            have n0 := (hkp.out _ St.out.low).c0
            have n2 := (hkp.out _ St.out.low).c2
            obtain ⟨cs9, hrb9⟩ := (DE.out.below St.out.low).m.has
            have g0 := Has.frozen hrb9 (k * 3)
            have g1 := Has.frozen hrb9 (k * 3 + 1)
            have g2 := Has.frozen hrb9 (k * 3 + 2)
            clear hrb9
            have E7 := Lib.hid ((DE.out.below St.out.low).putMem HI3.out.m5 hk5 Hat.out)
            have T11 := Lib.hid ((D11.out.below St.out.low D11.out.lt).keep (put3At_far (b := x3.mb) (q := k * 3) (x := .int .i64 (e3.log.length : Int)) (y := .int .i64 qo) (z := .slice (some ⟨b5, 0, none⟩) 3 c5) ne11.2))
            have T10 := Lib.hid ((D10.out.below St.out.low D10.out.lt).keep (put3At_far (b := x3.mb) (q := k * 3) (x := .int .i64 (e3.log.length : Int)) (y := .int .i64 qo) (z := .slice (some ⟨b5, 0, none⟩) 3 c5) ne10.2))
            have T8 := Lib.hid (St.out.low)
            (try go_wp2_with fail)
            refine hK.out _ _ ?_ (fun hHeld3 => ?_)
            · (first | (with_reducible exact hk11.out _ St.out.low) | (with_reducible exact ⟨T11.out.five.2.1, T11.out.five.2.2.1⟩) | exact hk11.out _ St.out.low)
            clear hK K hHeld2
            (try simp only [Act.put, List.setIfInBounds_toArray, List.set_cons_zero, List.set_cons_succ])
            refine wpAnyH_take (i := 15) (oi := { dst := some 87, op := Go.Op.build 94 #[(0, Go.Operand.tmp 77), (1, Go.Operand.tmp 83), (2, Go.Operand.tmp 86)], type := 94, pos := "l12_change.go:83", after := #[{ on := 5, ground := Go.Ground.data }, { on := 11, ground := Go.Ground.data }, { on := 14, ground := Go.Ground.data }], guard := none }) (v := ?_) rfl (by kernel_rfl) (by kernel_rfl) (by kernel_rfl) (fun _ _ _ h => h) (Or.inl ⟨by rfl, ?_⟩) hHeld3 ?_
            rotate_left
            · (intro w hSw; (try dsimp only at hSw); go_simp; (first | done | (with_reducible rfl) | (rw [if_neg (by omega)]) | (rw [if_neg (by simp only [ByteArray.size_append]; omega)])))
            (try simp only [Act.put, List.setIfInBounds_toArray, List.set_cons_zero, List.set_cons_succ])
            refine wpAnyH_take (i := 16) (oi := { dst := some 88, op := Go.Op.indexAddr 58 (Go.Operand.tmp 73) (Go.Operand.tmp 74), type := 0, pos := "l12_change.go:83", after := #[{ on := 1, ground := Go.Ground.data }, { on := 2, ground := Go.Ground.data }, { on := 0, ground := Go.Ground.phase }, { on := 1, ground := Go.Ground.phase }, { on := 2, ground := Go.Ground.phase }, { on := 3, ground := Go.Ground.phase }, { on := 4, ground := Go.Ground.phase }, { on := 5, ground := Go.Ground.phase }, { on := 6, ground := Go.Ground.phase }, { on := 7, ground := Go.Ground.phase }, { on := 8, ground := Go.Ground.phase }, { on := 9, ground := Go.Ground.phase }, { on := 10, ground := Go.Ground.phase }, { on := 11, ground := Go.Ground.phase }, { on := 12, ground := Go.Ground.phase }, { on := 13, ground := Go.Ground.phase }, { on := 14, ground := Go.Ground.phase }, { on := 15, ground := Go.Ground.phase }], guard := none }) (v := ?_) rfl (by kernel_rfl) (by kernel_rfl) (by kernel_rfl) (fun _ _ _ h => h) (Or.inl ⟨by rfl, ?_⟩) hHeld3 ?_
            rotate_left
            · (intro w hSw; (try dsimp only at hSw); go_simp; (first | done | (with_reducible rfl) | (rw [if_neg (by omega)]) | (rw [if_neg (by simp only [ByteArray.size_append]; omega)])))
            (try simp only [Act.put, List.setIfInBounds_toArray, List.set_cons_zero, List.set_cons_succ])
            refine wpAnyH_ready (rs := [17]) (by kernel_rfl) (by simp) ?_
            refine AllReadyH.cons (o := { dst := none, op := Go.Op.store 94 (Go.Operand.tmp 88) (Go.Operand.tmp 87), type := 0, pos := "l12_change.go:83", after := #[{ on := 16, ground := Go.Ground.data }, { on := 15, ground := Go.Ground.data }, { on := 14, ground := Go.Ground.chain }, { on := 0, ground := Go.Ground.phase }, { on := 1, ground := Go.Ground.phase }, { on := 2, ground := Go.Ground.phase }, { on := 3, ground := Go.Ground.phase }, { on := 4, ground := Go.Ground.phase }, { on := 5, ground := Go.Ground.phase }, { on := 6, ground := Go.Ground.phase }, { on := 7, ground := Go.Ground.phase }, { on := 8, ground := Go.Ground.phase }, { on := 9, ground := Go.Ground.phase }, { on := 10, ground := Go.Ground.phase }, { on := 11, ground := Go.Ground.phase }, { on := 12, ground := Go.Ground.phase }, { on := 13, ground := Go.Ground.phase }, { on := 14, ground := Go.Ground.phase }, { on := 15, ground := Go.Ground.phase }], guard := none }) rfl (fun K hK => ?_) AllReadyH.nil
            go_simp
            skip
            (try go_wp2_with fail)
            refine hK.out _ _ ?_ (fun hHeld4 => ?_)
            · (first | (with_reducible exact hk11.out _ St.out.low) | (with_reducible exact ⟨T11.out.five.2.1, T11.out.five.2.2.1⟩) | exact hk11.out _ St.out.low)
            clear hK K hHeld3
            (try simp only [Act.put, List.setIfInBounds_toArray, List.set_cons_zero, List.set_cons_succ])
            refine wpAnyH_done (by kernel_rfl) ?_ _
            clear hHeld4
            have U1 : Hid (Eng (((w8.setCell ⟨x3.mb, k * 3, none⟩ (.int .i64 (e3.log.length : Int))).setCell ⟨x3.mb, k * 3 + 1, none⟩ (.int .i64 qo)).setCell ⟨x3.mb, k * 3 + 2, none⟩ (.slice (some ⟨b5, 0, none⟩) 3 c5)) base x3 ⟨e3.disk, e3.mem.set k ((e3.log.length : Int), qo, [za, zb, zc]), e3.log, e3.safe, e3.down⟩) := E7.out
            have U2 : Hid (Has (((w8.setCell ⟨x3.mb, k * 3, none⟩ (.int .i64 (e3.log.length : Int))).setCell ⟨x3.mb, k * 3 + 1, none⟩ (.int .i64 qo)).setCell ⟨x3.mb, k * 3 + 2, none⟩ (.slice (some ⟨b5, 0, none⟩) 3 c5)) b11 60 (engC x3 ⟨e3.disk, e3.mem.set k ((e3.log.length : Int), qo, [za, zb, zc]), e3.log, e3.safe, e3.down⟩)) := T11.out
            have U4 : Hid (Has (((w8.setCell ⟨x3.mb, k * 3, none⟩ (.int .i64 (e3.log.length : Int))).setCell ⟨x3.mb, k * 3 + 1, none⟩ (.int .i64 qo)).setCell ⟨x3.mb, k * 3 + 2, none⟩ (.slice (some ⟨b5, 0, none⟩) 3 c5)) (w.heap.size + 1) 60 zeroEC) := T10.out
            have U5 : Hid (Frm x w x3 (((w8.setCell ⟨x3.mb, k * 3, none⟩ (.int .i64 (e3.log.length : Int))).setCell ⟨x3.mb, k * 3 + 1, none⟩ (.int .i64 qo)).setCell ⟨x3.mb, k * 3 + 2, none⟩ (.slice (some ⟨b5, 0, none⟩) 3 c5))) := UF.out.put3 T8.out _ _ _ _
            clear E7 T11 T10 T8 St m1 n0 n2 g0 g1 g2 U10 U11 UF UE UV
            generalize (((w8.setCell ⟨x3.mb, k * 3, none⟩ (.int .i64 (e3.log.length : Int))).setCell ⟨x3.mb, k * 3 + 1, none⟩ (.int .i64 qo)).setCell ⟨x3.mb, k * 3 + 2, none⟩ (.slice (some ⟨b5, 0, none⟩) 3 c5)) = w9 at *
            obtain ⟨c0, c1, c2, c3, c4⟩ := U2.out.five
            obtain ⟨y0, y1, y2, y3, y4⟩ := U4.out.five
            have t0 := U4.out.frozen 0
            have t1 := U4.out.frozen 1
            have t2 := U4.out.frozen 2
            have t3 := U4.out.frozen 3
            have t4 := U4.out.frozen 4
            go_wp2
            refine bodyPost_ret (v := .tuple #[engV x3 ⟨e3.disk, e3.mem.set k ((e3.log.length : Int), qo, [za, zb, zc]), e3.log, e3.safe, e3.down⟩, .bool true]) (by simp [results, Try.results69, go_sem, y0, y1, y2, y3, y4]) rfl ⟨x3, by rw [HR2.out, HF.out], ?_, U5.out.put5E (by omega) x3 ⟨e3.disk, e3.mem.set k ((e3.log.length : Int), qo, [za, zb, zc]), e3.log, e3.safe, e3.down⟩⟩
            rw [HR2.out, HF.out]
            exact U1.out.box U4.out (by simp) (fun i _ hn => put5E_far (x := x3) (e := ⟨e3.disk, e3.mem.set k ((e3.log.length : Int), qo, [za, zb, zc]), e3.log, e3.safe, e3.down⟩) hn)
          · go_simp
            have St' := Lib.hid (St.out.empty (by (try simp only [size_drew'']); rfl))
            clear St
            have St := St'
            clear St'
            have m1 := (hkp.out _ St.out.low).c1
            simp only at m1
            (try go_wp2_with fail)
            refine hK.out _ _ ?_ (fun hHeld1 => ?_)
            · (first | (with_reducible exact hk11.out _ St.out.low) | (with_reducible exact ⟨T11.out.five.2.1, T11.out.five.2.2.1⟩) | exact hk11.out _ St.out.low)
            clear hK K hHeld0
            (try simp only [Act.put, List.setIfInBounds_toArray, List.set_cons_zero, List.set_cons_succ])
            refine wpAnyH_ready (rs := [11, 14]) (by kernel_rfl) (by simp) ?_
            refine AllReadyH.cons (o := { dst := some 83, op := Go.Op.load 3 (Go.Operand.tmp 82), type := 3, pos := "l12_change.go:83", after := #[{ on := 10, ground := Go.Ground.data }], guard := none }) rfl (fun K hK => ?_) (AllReadyH.cons (o := { dst := some 86, op := Go.Op.call { callee := Go.Callee.builtin Go.Builtin.append, args := #[Go.Operand.tmp 84, Go.Operand.tmp 85], argTypes := #[31, 31] }, type := 31, pos := "l12_change.go:83", after := #[{ on := 12, ground := Go.Ground.data }, { on := 13, ground := Go.Ground.data }], guard := none }) rfl (fun K hK => ?_) AllReadyH.nil)
            · go_simp
              skip
              (try go_wp2_with fail)
              refine hK.out _ _ ?_ (fun hHeld2 => ?_)
              · (first | (with_reducible exact hk11.out _ St.out.low) | (with_reducible exact ⟨T11.out.five.2.1, T11.out.five.2.2.1⟩) | exact hk11.out _ St.out.low)
              clear hK K hHeld1
              (try simp only [Act.put, List.setIfInBounds_toArray, List.set_cons_zero, List.set_cons_succ])
              refine wpAnyH_ready (rs := [14]) (by kernel_rfl) (by simp) ?_
              refine AllReadyH.cons (o := { dst := some 86, op := Go.Op.call { callee := Go.Callee.builtin Go.Builtin.append, args := #[Go.Operand.tmp 84, Go.Operand.tmp 85], argTypes := #[31, 31] }, type := 31, pos := "l12_change.go:83", after := #[{ on := 12, ground := Go.Ground.data }, { on := 13, ground := Go.Ground.data }], guard := none }) rfl (fun K hK => ?_) AllReadyH.nil
              refine step_append_ints _ (by rfl) _ _ (by rfl) _ (by rfl) (St.out.fe _ rfl).1 [za, zb, zc] gv qv 3 cv rfl (by rfl) (DV.out.below St.out.low lg7) (by simp) (by simp) ?_
              intro b5 c5 w8 hcp
              have St' := Lib.hid (St.out.copied hcp)
              have Hat : Hid (PgAt w8 base ⟨(e3.log.length : Int), qo, b5, 0, c5, [za, zb, zc]⟩) := St.out.at_ hcp (Nat.le_trans hbw l7)
              clear St hcp m1
              have St := St'
              clear St'
              have m1 := (hkp.out _ St.out.low).c1
              simp only at m1
              have n0 := (hkp.out _ St.out.low).c0
              have n2 := (hkp.out _ St.out.low).c2
              obtain ⟨cs9, hrb9⟩ := (DE.out.below St.out.low).m.has
              have g0 := Has.frozen hrb9 (k * 3)
              have g1 := Has.frozen hrb9 (k * 3 + 1)
              have g2 := Has.frozen hrb9 (k * 3 + 2)
              clear hrb9
              have E7 := Lib.hid ((DE.out.below St.out.low).putMem HI3.out.m5 hk5 Hat.out)
              have T11 := Lib.hid ((D11.out.below St.out.low D11.out.lt).keep (put3At_far (b := x3.mb) (q := k * 3) (x := .int .i64 (e3.log.length : Int)) (y := .int .i64 qo) (z := .slice (some ⟨b5, 0, none⟩) 3 c5) ne11.2))
              have T10 := Lib.hid ((D10.out.below St.out.low D10.out.lt).keep (put3At_far (b := x3.mb) (q := k * 3) (x := .int .i64 (e3.log.length : Int)) (y := .int .i64 qo) (z := .slice (some ⟨b5, 0, none⟩) 3 c5) ne10.2))
              have T8 := Lib.hid (St.out.low)
              (try go_wp2_with fail)
              refine hK.out _ _ ?_ (fun hHeld3 => ?_)
              · (first | (with_reducible exact hk11.out _ St.out.low) | (with_reducible exact ⟨T11.out.five.2.1, T11.out.five.2.2.1⟩) | exact hk11.out _ St.out.low)
              clear hK K hHeld2
              (try simp only [Act.put, List.setIfInBounds_toArray, List.set_cons_zero, List.set_cons_succ])
              refine wpAnyH_take (i := 15) (oi := { dst := some 87, op := Go.Op.build 94 #[(0, Go.Operand.tmp 77), (1, Go.Operand.tmp 83), (2, Go.Operand.tmp 86)], type := 94, pos := "l12_change.go:83", after := #[{ on := 5, ground := Go.Ground.data }, { on := 11, ground := Go.Ground.data }, { on := 14, ground := Go.Ground.data }], guard := none }) (v := ?_) rfl (by kernel_rfl) (by kernel_rfl) (by kernel_rfl) (fun _ _ _ h => h) (Or.inl ⟨by rfl, ?_⟩) hHeld3 ?_
              rotate_left
              · (intro w hSw; (try dsimp only at hSw); go_simp; (first | done | (with_reducible rfl) | (rw [if_neg (by omega)]) | (rw [if_neg (by simp only [ByteArray.size_append]; omega)])))
              (try simp only [Act.put, List.setIfInBounds_toArray, List.set_cons_zero, List.set_cons_succ])
              refine wpAnyH_take (i := 16) (oi := { dst := some 88, op := Go.Op.indexAddr 58 (Go.Operand.tmp 73) (Go.Operand.tmp 74), type := 0, pos := "l12_change.go:83", after := #[{ on := 1, ground := Go.Ground.data }, { on := 2, ground := Go.Ground.data }, { on := 0, ground := Go.Ground.phase }, { on := 1, ground := Go.Ground.phase }, { on := 2, ground := Go.Ground.phase }, { on := 3, ground := Go.Ground.phase }, { on := 4, ground := Go.Ground.phase }, { on := 5, ground := Go.Ground.phase }, { on := 6, ground := Go.Ground.phase }, { on := 7, ground := Go.Ground.phase }, { on := 8, ground := Go.Ground.phase }, { on := 9, ground := Go.Ground.phase }, { on := 10, ground := Go.Ground.phase }, { on := 11, ground := Go.Ground.phase }, { on := 12, ground := Go.Ground.phase }, { on := 13, ground := Go.Ground.phase }, { on := 14, ground := Go.Ground.phase }, { on := 15, ground := Go.Ground.phase }], guard := none }) (v := ?_) rfl (by kernel_rfl) (by kernel_rfl) (by kernel_rfl) (fun _ _ _ h => h) (Or.inl ⟨by rfl, ?_⟩) hHeld3 ?_
              rotate_left
              · (intro w hSw; (try dsimp only at hSw); go_simp; (first | done | (with_reducible rfl) | (rw [if_neg (by omega)]) | (rw [if_neg (by simp only [ByteArray.size_append]; omega)])))
              (try simp only [Act.put, List.setIfInBounds_toArray, List.set_cons_zero, List.set_cons_succ])
              refine wpAnyH_ready (rs := [17]) (by kernel_rfl) (by simp) ?_
              refine AllReadyH.cons (o := { dst := none, op := Go.Op.store 94 (Go.Operand.tmp 88) (Go.Operand.tmp 87), type := 0, pos := "l12_change.go:83", after := #[{ on := 16, ground := Go.Ground.data }, { on := 15, ground := Go.Ground.data }, { on := 14, ground := Go.Ground.chain }, { on := 0, ground := Go.Ground.phase }, { on := 1, ground := Go.Ground.phase }, { on := 2, ground := Go.Ground.phase }, { on := 3, ground := Go.Ground.phase }, { on := 4, ground := Go.Ground.phase }, { on := 5, ground := Go.Ground.phase }, { on := 6, ground := Go.Ground.phase }, { on := 7, ground := Go.Ground.phase }, { on := 8, ground := Go.Ground.phase }, { on := 9, ground := Go.Ground.phase }, { on := 10, ground := Go.Ground.phase }, { on := 11, ground := Go.Ground.phase }, { on := 12, ground := Go.Ground.phase }, { on := 13, ground := Go.Ground.phase }, { on := 14, ground := Go.Ground.phase }, { on := 15, ground := Go.Ground.phase }], guard := none }) rfl (fun K hK => ?_) AllReadyH.nil
              go_simp
              skip
              (try go_wp2_with fail)
              refine hK.out _ _ ?_ (fun hHeld4 => ?_)
              · (first | (with_reducible exact hk11.out _ St.out.low) | (with_reducible exact ⟨T11.out.five.2.1, T11.out.five.2.2.1⟩) | exact hk11.out _ St.out.low)
              clear hK K hHeld3
              (try simp only [Act.put, List.setIfInBounds_toArray, List.set_cons_zero, List.set_cons_succ])
              refine wpAnyH_done (by kernel_rfl) ?_ _
              clear hHeld4
              have U1 : Hid (Eng (((w8.setCell ⟨x3.mb, k * 3, none⟩ (.int .i64 (e3.log.length : Int))).setCell ⟨x3.mb, k * 3 + 1, none⟩ (.int .i64 qo)).setCell ⟨x3.mb, k * 3 + 2, none⟩ (.slice (some ⟨b5, 0, none⟩) 3 c5)) base x3 ⟨e3.disk, e3.mem.set k ((e3.log.length : Int), qo, [za, zb, zc]), e3.log, e3.safe, e3.down⟩) := E7.out
              have U2 : Hid (Has (((w8.setCell ⟨x3.mb, k * 3, none⟩ (.int .i64 (e3.log.length : Int))).setCell ⟨x3.mb, k * 3 + 1, none⟩ (.int .i64 qo)).setCell ⟨x3.mb, k * 3 + 2, none⟩ (.slice (some ⟨b5, 0, none⟩) 3 c5)) b11 60 (engC x3 ⟨e3.disk, e3.mem.set k ((e3.log.length : Int), qo, [za, zb, zc]), e3.log, e3.safe, e3.down⟩)) := T11.out
              have U4 : Hid (Has (((w8.setCell ⟨x3.mb, k * 3, none⟩ (.int .i64 (e3.log.length : Int))).setCell ⟨x3.mb, k * 3 + 1, none⟩ (.int .i64 qo)).setCell ⟨x3.mb, k * 3 + 2, none⟩ (.slice (some ⟨b5, 0, none⟩) 3 c5)) (w.heap.size + 1) 60 zeroEC) := T10.out
              have U5 : Hid (Frm x w x3 (((w8.setCell ⟨x3.mb, k * 3, none⟩ (.int .i64 (e3.log.length : Int))).setCell ⟨x3.mb, k * 3 + 1, none⟩ (.int .i64 qo)).setCell ⟨x3.mb, k * 3 + 2, none⟩ (.slice (some ⟨b5, 0, none⟩) 3 c5))) := UF.out.put3 T8.out _ _ _ _
              clear E7 T11 T10 T8 St m1 n0 n2 g0 g1 g2 U10 U11 UF UE UV
              generalize (((w8.setCell ⟨x3.mb, k * 3, none⟩ (.int .i64 (e3.log.length : Int))).setCell ⟨x3.mb, k * 3 + 1, none⟩ (.int .i64 qo)).setCell ⟨x3.mb, k * 3 + 2, none⟩ (.slice (some ⟨b5, 0, none⟩) 3 c5)) = w9 at *
              obtain ⟨c0, c1, c2, c3, c4⟩ := U2.out.five
              obtain ⟨y0, y1, y2, y3, y4⟩ := U4.out.five
              have t0 := U4.out.frozen 0
              have t1 := U4.out.frozen 1
              have t2 := U4.out.frozen 2
              have t3 := U4.out.frozen 3
              have t4 := U4.out.frozen 4
              go_wp2
              refine bodyPost_ret (v := .tuple #[engV x3 ⟨e3.disk, e3.mem.set k ((e3.log.length : Int), qo, [za, zb, zc]), e3.log, e3.safe, e3.down⟩, .bool true]) (by simp [results, Try.results69, go_sem, y0, y1, y2, y3, y4]) rfl ⟨x3, by rw [HR2.out, HF.out], ?_, U5.out.put5E (by omega) x3 ⟨e3.disk, e3.mem.set k ((e3.log.length : Int), qo, [za, zb, zc]), e3.log, e3.safe, e3.down⟩⟩
              rw [HR2.out, HF.out]
              exact U1.out.box U4.out (by simp) (fun i _ hn => put5E_far (x := x3) (e := ⟨e3.disk, e3.mem.set k ((e3.log.length : Int), qo, [za, zb, zc]), e3.log, e3.safe, e3.down⟩) hn)
            · refine step_append_ints _ (by rfl) _ _ (by rfl) _ (by rfl) (St.out.fe _ rfl).1 [za, zb, zc] gv qv 3 cv rfl (by rfl) (DV.out.below St.out.low lg7) (by simp) (by simp) ?_
              intro b5 c5 w8 hcp
              have St' := Lib.hid (St.out.copied hcp)
              have Hat : Hid (PgAt w8 base ⟨(e3.log.length : Int), qo, b5, 0, c5, [za, zb, zc]⟩) := St.out.at_ hcp (Nat.le_trans hbw l7)
              clear St hcp m1
              have St := St'
              clear St'
              have m1 := (hkp.out _ St.out.low).c1
              simp only at m1
              have n0 := (hkp.out _ St.out.low).c0
              have n2 := (hkp.out _ St.out.low).c2
              obtain ⟨cs9, hrb9⟩ := (DE.out.below St.out.low).m.has
              have g0 := Has.frozen hrb9 (k * 3)
              have g1 := Has.frozen hrb9 (k * 3 + 1)
              have g2 := Has.frozen hrb9 (k * 3 + 2)
              clear hrb9
              have E7 := Lib.hid ((DE.out.below St.out.low).putMem HI3.out.m5 hk5 Hat.out)
              have T11 := Lib.hid ((D11.out.below St.out.low D11.out.lt).keep (put3At_far (b := x3.mb) (q := k * 3) (x := .int .i64 (e3.log.length : Int)) (y := .int .i64 qo) (z := .slice (some ⟨b5, 0, none⟩) 3 c5) ne11.2))
              have T10 := Lib.hid ((D10.out.below St.out.low D10.out.lt).keep (put3At_far (b := x3.mb) (q := k * 3) (x := .int .i64 (e3.log.length : Int)) (y := .int .i64 qo) (z := .slice (some ⟨b5, 0, none⟩) 3 c5) ne10.2))
              have T8 := Lib.hid (St.out.low)
              (try go_wp2_with fail)
              refine hK.out _ _ ?_ (fun hHeld2 => ?_)
              · (first | (with_reducible exact hk11.out _ St.out.low) | (with_reducible exact ⟨T11.out.five.2.1, T11.out.five.2.2.1⟩) | exact hk11.out _ St.out.low)
              clear hK K hHeld1
              (try simp only [Act.put, List.setIfInBounds_toArray, List.set_cons_zero, List.set_cons_succ])
              refine wpAnyH_ready (rs := [11]) (by kernel_rfl) (by simp) ?_
              refine AllReadyH.cons (o := { dst := some 83, op := Go.Op.load 3 (Go.Operand.tmp 82), type := 3, pos := "l12_change.go:83", after := #[{ on := 10, ground := Go.Ground.data }], guard := none }) rfl (fun K hK => ?_) AllReadyH.nil
              go_simp
              skip
              (try go_wp2_with fail)
              refine hK.out _ _ ?_ (fun hHeld3 => ?_)
              · (first | (with_reducible exact hk11.out _ St.out.low) | (with_reducible exact ⟨T11.out.five.2.1, T11.out.five.2.2.1⟩) | exact hk11.out _ St.out.low)
              clear hK K hHeld2
              (try simp only [Act.put, List.setIfInBounds_toArray, List.set_cons_zero, List.set_cons_succ])
              refine wpAnyH_take (i := 15) (oi := { dst := some 87, op := Go.Op.build 94 #[(0, Go.Operand.tmp 77), (1, Go.Operand.tmp 83), (2, Go.Operand.tmp 86)], type := 94, pos := "l12_change.go:83", after := #[{ on := 5, ground := Go.Ground.data }, { on := 11, ground := Go.Ground.data }, { on := 14, ground := Go.Ground.data }], guard := none }) (v := ?_) rfl (by kernel_rfl) (by kernel_rfl) (by kernel_rfl) (fun _ _ _ h => h) (Or.inl ⟨by rfl, ?_⟩) hHeld3 ?_
              rotate_left
              · (intro w hSw; (try dsimp only at hSw); go_simp; (first | done | (with_reducible rfl) | (rw [if_neg (by omega)]) | (rw [if_neg (by simp only [ByteArray.size_append]; omega)])))
              (try simp only [Act.put, List.setIfInBounds_toArray, List.set_cons_zero, List.set_cons_succ])
              refine wpAnyH_take (i := 16) (oi := { dst := some 88, op := Go.Op.indexAddr 58 (Go.Operand.tmp 73) (Go.Operand.tmp 74), type := 0, pos := "l12_change.go:83", after := #[{ on := 1, ground := Go.Ground.data }, { on := 2, ground := Go.Ground.data }, { on := 0, ground := Go.Ground.phase }, { on := 1, ground := Go.Ground.phase }, { on := 2, ground := Go.Ground.phase }, { on := 3, ground := Go.Ground.phase }, { on := 4, ground := Go.Ground.phase }, { on := 5, ground := Go.Ground.phase }, { on := 6, ground := Go.Ground.phase }, { on := 7, ground := Go.Ground.phase }, { on := 8, ground := Go.Ground.phase }, { on := 9, ground := Go.Ground.phase }, { on := 10, ground := Go.Ground.phase }, { on := 11, ground := Go.Ground.phase }, { on := 12, ground := Go.Ground.phase }, { on := 13, ground := Go.Ground.phase }, { on := 14, ground := Go.Ground.phase }, { on := 15, ground := Go.Ground.phase }], guard := none }) (v := ?_) rfl (by kernel_rfl) (by kernel_rfl) (by kernel_rfl) (fun _ _ _ h => h) (Or.inl ⟨by rfl, ?_⟩) hHeld3 ?_
              rotate_left
              · (intro w hSw; (try dsimp only at hSw); go_simp; (first | done | (with_reducible rfl) | (rw [if_neg (by omega)]) | (rw [if_neg (by simp only [ByteArray.size_append]; omega)])))
              (try simp only [Act.put, List.setIfInBounds_toArray, List.set_cons_zero, List.set_cons_succ])
              refine wpAnyH_ready (rs := [17]) (by kernel_rfl) (by simp) ?_
              refine AllReadyH.cons (o := { dst := none, op := Go.Op.store 94 (Go.Operand.tmp 88) (Go.Operand.tmp 87), type := 0, pos := "l12_change.go:83", after := #[{ on := 16, ground := Go.Ground.data }, { on := 15, ground := Go.Ground.data }, { on := 14, ground := Go.Ground.chain }, { on := 0, ground := Go.Ground.phase }, { on := 1, ground := Go.Ground.phase }, { on := 2, ground := Go.Ground.phase }, { on := 3, ground := Go.Ground.phase }, { on := 4, ground := Go.Ground.phase }, { on := 5, ground := Go.Ground.phase }, { on := 6, ground := Go.Ground.phase }, { on := 7, ground := Go.Ground.phase }, { on := 8, ground := Go.Ground.phase }, { on := 9, ground := Go.Ground.phase }, { on := 10, ground := Go.Ground.phase }, { on := 11, ground := Go.Ground.phase }, { on := 12, ground := Go.Ground.phase }, { on := 13, ground := Go.Ground.phase }, { on := 14, ground := Go.Ground.phase }, { on := 15, ground := Go.Ground.phase }], guard := none }) rfl (fun K hK => ?_) AllReadyH.nil
              go_simp
              skip
              (try go_wp2_with fail)
              refine hK.out _ _ ?_ (fun hHeld4 => ?_)
              · (first | (with_reducible exact hk11.out _ St.out.low) | (with_reducible exact ⟨T11.out.five.2.1, T11.out.five.2.2.1⟩) | exact hk11.out _ St.out.low)
              clear hK K hHeld3
              (try simp only [Act.put, List.setIfInBounds_toArray, List.set_cons_zero, List.set_cons_succ])
              refine wpAnyH_done (by kernel_rfl) ?_ _
              clear hHeld4
              have U1 : Hid (Eng (((w8.setCell ⟨x3.mb, k * 3, none⟩ (.int .i64 (e3.log.length : Int))).setCell ⟨x3.mb, k * 3 + 1, none⟩ (.int .i64 qo)).setCell ⟨x3.mb, k * 3 + 2, none⟩ (.slice (some ⟨b5, 0, none⟩) 3 c5)) base x3 ⟨e3.disk, e3.mem.set k ((e3.log.length : Int), qo, [za, zb, zc]), e3.log, e3.safe, e3.down⟩) := E7.out
              have U2 : Hid (Has (((w8.setCell ⟨x3.mb, k * 3, none⟩ (.int .i64 (e3.log.length : Int))).setCell ⟨x3.mb, k * 3 + 1, none⟩ (.int .i64 qo)).setCell ⟨x3.mb, k * 3 + 2, none⟩ (.slice (some ⟨b5, 0, none⟩) 3 c5)) b11 60 (engC x3 ⟨e3.disk, e3.mem.set k ((e3.log.length : Int), qo, [za, zb, zc]), e3.log, e3.safe, e3.down⟩)) := T11.out
              have U4 : Hid (Has (((w8.setCell ⟨x3.mb, k * 3, none⟩ (.int .i64 (e3.log.length : Int))).setCell ⟨x3.mb, k * 3 + 1, none⟩ (.int .i64 qo)).setCell ⟨x3.mb, k * 3 + 2, none⟩ (.slice (some ⟨b5, 0, none⟩) 3 c5)) (w.heap.size + 1) 60 zeroEC) := T10.out
              have U5 : Hid (Frm x w x3 (((w8.setCell ⟨x3.mb, k * 3, none⟩ (.int .i64 (e3.log.length : Int))).setCell ⟨x3.mb, k * 3 + 1, none⟩ (.int .i64 qo)).setCell ⟨x3.mb, k * 3 + 2, none⟩ (.slice (some ⟨b5, 0, none⟩) 3 c5))) := UF.out.put3 T8.out _ _ _ _
              clear E7 T11 T10 T8 St m1 n0 n2 g0 g1 g2 U10 U11 UF UE UV
              generalize (((w8.setCell ⟨x3.mb, k * 3, none⟩ (.int .i64 (e3.log.length : Int))).setCell ⟨x3.mb, k * 3 + 1, none⟩ (.int .i64 qo)).setCell ⟨x3.mb, k * 3 + 2, none⟩ (.slice (some ⟨b5, 0, none⟩) 3 c5)) = w9 at *
              obtain ⟨c0, c1, c2, c3, c4⟩ := U2.out.five
              obtain ⟨y0, y1, y2, y3, y4⟩ := U4.out.five
              have t0 := U4.out.frozen 0
              have t1 := U4.out.frozen 1
              have t2 := U4.out.frozen 2
              have t3 := U4.out.frozen 3
              have t4 := U4.out.frozen 4
              go_wp2
              refine bodyPost_ret (v := .tuple #[engV x3 ⟨e3.disk, e3.mem.set k ((e3.log.length : Int), qo, [za, zb, zc]), e3.log, e3.safe, e3.down⟩, .bool true]) (by simp [results, Try.results69, go_sem, y0, y1, y2, y3, y4]) rfl ⟨x3, by rw [HR2.out, HF.out], ?_, U5.out.put5E (by omega) x3 ⟨e3.disk, e3.mem.set k ((e3.log.length : Int), qo, [za, zb, zc]), e3.log, e3.safe, e3.down⟩⟩
              rw [HR2.out, HF.out]
              exact U1.out.box U4.out (by simp) (fun i _ hn => put5E_far (x := x3) (e := ⟨e3.disk, e3.mem.set k ((e3.log.length : Int), qo, [za, zb, zc]), e3.log, e3.safe, e3.down⟩) hn)

end Go.Proofs.Ytejbmjdipfcblaa.Base
