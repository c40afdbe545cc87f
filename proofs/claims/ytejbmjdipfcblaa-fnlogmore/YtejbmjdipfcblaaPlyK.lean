/-
  Contracts of the model's EngineNew and l71Play. Only that a play hands on an engine of its own that keeps what holds throughout is said, not which one. Conditions: the reader stands at a place that is not too far.
-/
import Derived.Test.YtejbmjdipfcblaaEv71K
namespace Go.Proofs.Ytejbmjdipfcblaa.Base
open Go.RowKit

theorem PgAt.ne_ev {w : World} {base g : Nat} {p : Pg} {cs : Array Value} (h : PgAt w base p) (hr : Has w g 72 cs) : p.g ≠ g := fun e => by
  obtain ⟨c, t, fz, hk, -, -, -, hne⟩ := h.kind
  rw [e] at hk
  unfold Has at hr
  rw [hr] at hk
  injection hk with hk
  injection hk with h1 h2
  exact hne h2.symm
theorem Ps5.new {w : World} {base b c : Nat} {ps : List Pg} (h : OwnPs w base (.slice (some ⟨b, 0, none⟩) 5 c) ps) (h5 : ps.length = 5) (hz : ∀ p ∈ ps, p.says = (0, 0, [0, 0, 0])) : Ps5 w base b c (List.replicate 5 (0, 0, [0, 0, 0])) := by
  refine ⟨ps, ?_, h⟩
  rw [List.eq_replicate_iff]
  refine ⟨by rw [List.length_map, h5], fun q hq => ?_⟩
  obtain ⟨p, hp, rfl⟩ := List.mem_map.1 hq
  exact hz p hp

set_option maxRecDepth 100000 in
set_option maxHeartbeats 2000000 in
theorem engineNew_any (w : World) : Calls Try.prog 48 #[] w (fun en w' => ∃ x, en = .returned (engV x newE) ∧ Eng w' w.heap.size x newE ∧ Below w.heap.size w w') := by
  have X0 := Lib.hid (Has.new w 60 zeroEC)
  have B0 := Lib.hid (below_one w (.cells zeroEC 60))
  go_enter Try.func48, Try.ntmps48
  go_upto_region 1 with (fail)
  generalize (w.alloc (.cells zeroEC 60)) = w1 at *
  have l1 := X0.out.lt
  go_wp2_with fail
  refine (l11Pages_any _).mono ?_
  rintro en w2 ⟨v, ps, rfl, h5, b2, o2, hz, -⟩
  obtain ⟨db, dc, rfl⟩ := o2.five h5
  have X2 := Lib.hid (X0.out.below b2 X0.out.lt)
  have B2 : Hid (Below w.heap.size w w2) := B0.out.trans (b2.mono (by omega))
  have P2 := Lib.hid (Ps5.new o2 h5 hz)
  have s2 := b2.size
  clear b2 o2 hz X0 B0
  go_wp2_with fail
  refine (l11Pages_any _).mono ?_
  rintro en w3 ⟨v, qs, rfl, h5', b3, o3, hz, -⟩
  obtain ⟨mb, mc, rfl⟩ := o3.five h5'
  have X3 := Lib.hid (X2.out.below b3 X2.out.lt)
  have B3 : Hid (Below w.heap.size w w3) := B2.out.trans (b3.mono (by omega))
  have P3 := Lib.hid (P2.out.below b3)
  have Q3 := Lib.hid (Ps5.new o3 h5' hz)
  have hdb := P2.out.lt.2
  have hmb := o3.row
  have s3 := b3.size
  have l2 := X2.out.lt
  clear b3 o3 hz X2 B2 P2 hmb
  have hne : db ≠ mb := by
    have := Q3.out.lt.1
    omega
  have R4 : Hid (OwnRs (w3.alloc (.cells #[] 27)) w.heap.size (.slice (some ⟨w3.heap.size, 0, none⟩) 0 0) []) := OwnRs.empty (Has.new w3 _ _) (by omega)
  have X4 := Lib.hid (X3.out.alloc (.cells #[] 27))
  have E4 : Hid (Eng (w3.alloc (.cells #[] 27)) w.heap.size ⟨db, dc, mb, mc, w3.heap.size, 0⟩ newE) :=
    ⟨(P3.out.below (below_one w3 _)).down (by omega), (Q3.out.below (below_one w3 _)).down (by omega), R4.out, hne⟩
  have B4 : Hid (Below w.heap.size w (w3.alloc (.cells #[] 27))) := B3.out.alloc (by omega) _
  obtain ⟨y0, y1, y2, y3, y4⟩ := X4.out.five
  obtain ⟨q0, q1, q2, q3, q4⟩ := X3.out.five
  have t0 := X4.out.frozen 0
  have t1 := X4.out.frozen 1
  have t2 := X4.out.frozen 2
  have t3 := X4.out.frozen 3
  have t4 := X4.out.frozen 4
  go_wp2
  refine bodyPost_ret (v := engV ⟨db, dc, mb, mc, w3.heap.size, 0⟩ newE) (by simp [results, Try.results48, go_sem, y0, y1, y2, y3, y4]; first | rfl | exact ⟨rfl, rfl, rfl⟩) rfl ⟨⟨db, dc, mb, mc, w3.heap.size, 0⟩, rfl, ?_, put5E_below B4.out (Nat.le_refl _) ⟨db, dc, mb, mc, w3.heap.size, 0⟩ newE⟩
  exact E4.out.box X4.out (by simp) (fun i _ hn => put5E_far (x := ⟨db, dc, mb, mc, w3.heap.size, 0⟩) (e := newE) hn)

theorem infoEvent : (Try.prog.info? 72).map (fun i => (i.zero, i.size, i.bytes)) = some (some (.agg #[.int .i64 0, .int .i64 0, .int .i64 0, .int .i64 0, .int .i64 0, .slice none 0 0]), 6, 64) := by kernel_rfl
/-- a row of events of the call's own, not nil -/
structure OwnEv (w : World) (base : Nat) (v : Value) (n : Nat) : Prop where
  row : ∃ xs, w.ownsRow base 72 6 v n xs
  has : ∃ g cap, v = .slice (some ⟨g, 0, none⟩) n cap ∧ base ≤ g ∧ ∃ cs, Has w g 72 cs
section
variable {w w' : World} {base n : Nat} {v : Value}
theorem OwnEv.empty {g : Nat} (h : Has w g 72 #[]) (hb : base ≤ g) : OwnEv w base (.slice (some ⟨g, 0, none⟩) 0 0) 0 :=
  ⟨⟨[], rfl, .inr ⟨g, 0, #[], rfl, hb, h, by simp, by simp [maxLen], by simp, by simp⟩⟩, g, 0, rfl, hb, _, h⟩
theorem OwnEv.keep (h : OwnEv w base v n) (k : ∀ i, i < w.heap.size → base ≤ i → (∃ cs, Has w i 72 cs) → w'.heap[i]? = w.heap[i]?) : OwnEv w' base v n := by
  obtain ⟨xs, hr⟩ := h.row
  obtain ⟨g, cap, rfl, hb, cs, hc⟩ := h.has
  have e := k g (Has.lt hc) hb ⟨cs, hc⟩
  refine ⟨⟨xs, hr.1, ?_⟩, g, cap, rfl, hb, cs, Has.keep hc e⟩
  rcases hr.2 with ⟨h0, _⟩ | ⟨g', cap', cur, e', hlow, hhas, rest⟩
  · simp at h0
  · injection e' with e1 e2 e3
    injection e1 with e1
    injection e1 with e1
    subst e1 e3
    exact .inr ⟨g, cap, cur, rfl, hlow, e.trans hhas, rest⟩
theorem OwnEv.below (h : OwnEv w base v n) (k : Below w.heap.size w w') : OwnEv w' base v n := h.keep fun i hi _ _ => k.block i hi
theorem OwnEv.grown {row : Option Nat} (h : OwnEv w base v n) (k : w.grownBy w' row) (hr : ∀ g, row = some g → g < base) : OwnEv w' base v n := h.keep fun i hi hb _ => k.block i hi (fun e => by have := hr i e.symm; omega)
end
/-- 'append(events, v)' -/
theorem wp_append_ev {ops : Array Oper} {rest : List Oper} {o : Oper} {a : Act} {Q : Exit → Act → World → Prop} (w : World) (hgd : o.guard = none) (s x : Operand)
    (ho : o.op = .call { callee := .builtin .append, args := #[s, x], argTypes := #[57, 57] }) (base : Nat) (v : Value) (n : Nat) (hs : a.eval s = v) (hown : OwnEv w base v n)
    (ad : Nat) (ev : Ev) (av : Option Addr) (cv : Nat) (hx : a.eval x = .slice (some ⟨ad, 0, none⟩) 1 1) (hc : Has w ad 72 (evC ev av cv)) (hn : n ≤ 1000000) (hbase : base ≤ w.heap.size)
    (h : ∀ v' w', OwnEv w' base v' (n + 1) → w.grownBy w' v.ownBlock → wpList Try.prog ops Q rest (a.put o.dst v') w') :
    wpList Try.prog ops Q (o :: rest) a w := by
  obtain ⟨i0, hi, hz0, hs0, hb0⟩ := info_parts infoEvent
  obtain ⟨xs, hr⟩ := hown.row
  obtain ⟨gg, cp, hvv, -⟩ := hown.has
  refine wpList_append_own w hgd s x 57 ho base 72 i0 _ 6 64 Try.underlying57 hi hz0 hs0 hb0 rfl (by omega) v n xs hs hr ⟨ad, 0, none⟩ 1 1 (evC ev av cv).toList hx rfl ?_ ?_ (by simp [maxLen]; omega) (by omega) hbase (fun v' w' h1 h2 h3 => h v' w' ⟨⟨_, h1⟩, ?_⟩ h2)
  · intro j u hu
    rw [Go.WideShapes.add_plain, Nat.zero_add, hc.cell]
    simpa using hu
  · intro u hu
    simp only [List.mem_cons, List.not_mem_nil, or_false] at hu
    rcases hu with rfl | rfl | rfl | rfl | rfl | rfl <;> rfl
  · rcases h1.2 with ⟨e, _⟩ | ⟨g', cap', cur, e', hlow, hhas, rest⟩
    · exact absurd (h3.1 e).1 (by rw [hvv]; simp)
    · exact ⟨g', cap', e', hlow, cur, hhas⟩
/-- what a play leaves -/
def PlayRet (g : Nat) (a : Option Addr) (bs : List Int) (cap B : Nat) (m : Int) (w : World) (en : Ending) (w' : World) : Prop :=
  ∃ ev x e, en = .returned (.tuple #[ev, engV x e]) ∧ Eng w' w.heap.size x e ∧ Inv e ∧ w.grownBy w' (some g) ∧ ∃ p', p' ≤ m ∧ Rdr w' g a bs cap p' B
/-- where a play stands -/
structure PlSt (w0 wx : World) (g : Nat) (a : Option Addr) (bs : List Int) (cap : Nat) (p : Int) (B : Nat) (ev : Value) (n bq : Nat) (y : Ad) (e : EE) : Prop where
  rdr : Rdr wx g a bs cap p B
  b3 : Has wx w0.heap.size 60 zeroEC
  b4 : Has wx bq 60 (engC y e)
  lq : w0.heap.size + 1 ≤ bq
  en : Eng wx w0.heap.size y e
  inv : Inv e
  row : OwnEv wx w0.heap.size ev n
  grown : w0.grownBy wx (some g)
  lg : g < w0.heap.size
section
variable {w0 wx wy : World} {g : Nat} {a : Option Addr} {bs : List Int} {cap : Nat} {p : Int} {B : Nat} {ev : Value} {n bq : Nat} {y : Ad} {e : EE}
theorem grown_base {x y z : World} {r : Option Nat} (h : x.grownBy y r) (k : Below x.heap.size y z) : x.grownBy z r :=
  ⟨k.os.trans h.os, k.tape.trans h.tape, k.output.trans h.output, Nat.le_trans h.size k.size, fun i hi hn => (k.block i hi).trans (h.block i hi hn)⟩
theorem PlSt.below (h : PlSt w0 wx g a bs cap p B ev n bq y e) (k : Below wx.heap.size wx wy) : PlSt w0 wy g a bs cap p B ev n bq y e :=
  ⟨h.rdr.below k h.rdr.has.lt, h.b3.below k h.b3.lt, h.b4.below k h.b4.lt, h.lq, h.en.below k, h.inv, h.row.below k, grown_two h.grown (grown_below k _), h.lg⟩
theorem PlSt.pick {p' : Int} (h : PlSt w0 wx g a bs cap p B ev n bq y e) (k : wx.grownBy wy (some g)) (hr : Rdr wy g a bs cap p' B) : PlSt w0 wy g a bs cap p' B ev n bq y e := by
  have hl := h.lg
  have hg : ∀ q, some g = some q → q < w0.heap.size := fun q hq => by injection hq; omega
  exact ⟨hr, h.b3.grown k (fun e => by first | (injection e; done) | (injection e; omega) | omega), h.b4.grown k (fun e => by have := h.lq; first | (injection e; done) | (injection e; omega) | omega), h.lq, h.en.grown k hg, h.inv, h.row.grown k hg, grown_two h.grown k, h.lg⟩
theorem PlSt.append {v' : Value} (h : PlSt w0 wx g a bs cap p B ev n bq y e) (hv : OwnEv wy w0.heap.size v' (n + 1)) (k : wx.grownBy wy ev.ownBlock) : PlSt w0 wy g a bs cap p B v' (n + 1) bq y e := by
  obtain ⟨b, c, rfl, hb, cs, hc⟩ := h.row.has
  have k : wx.grownBy wy (some b) := k
  have hl := h.lg
  obtain ⟨c1, k1⟩ := h.en.d.has
  obtain ⟨c2, k2⟩ := h.en.m.has
  obtain ⟨c3, k3⟩ := h.en.l.has
  have hgb : g ≠ b := by omega
  refine ⟨h.rdr.keep (k.block g h.rdr.has.lt (fun e => hgb (by injection e))) (fun i hi => k.block i (by have := h.rdr.apart; have := h.rdr.has.lt; omega) (fun e => by have := h.rdr.apart; first | (injection e; done) | (injection e; omega) | omega)), h.b3.grown k (fun e => Has.ne_kind h.b3 hc (by decide) (by injection e)), h.b4.grown k (fun e => Has.ne_kind h.b4 hc (by decide) (by injection e)), h.lq, ?_, h.inv, hv, ?_, h.lg⟩
  · exact h.en.out k.size (fun i hi hn => k.block i hi (fun e => hn (by injection e with e <;> exact e.symm))) (Ne.symm (Has.ne_kind k1 hc (by decide))) (Ne.symm (Has.ne_kind k2 hc (by decide))) (Ne.symm (Has.ne_kind k3 hc (by decide))) (fun p hp => hp.ne_ev hc)
  · exact grown_base h.grown (below_grown k hb h.grown.size)
theorem PlSt.turn {y' : Ad} {e' : EE} (h : PlSt w0 wx g a bs cap p B ev n bq y e) (he : Eng wy w0.heap.size y' e') (hi : Inv e') (k : Frm y wx y' wy) :
    PlSt w0 (put5E wy bq y' e') g a bs cap p B ev n bq y' e' ∧ Has wy bq 60 (engC y e) := by
  have hl := h.lg
  have hq := h.lq
  have n3 := h.en.ne_eng h.b3
  have n4 := h.en.ne_eng h.b4
  have hd := h.en.d.lt.1
  have hm := h.en.m.lt.1
  have hB := h.rdr.apart
  have hw : w0.heap.size ≤ wx.heap.size := h.grown.size
  have kb : Below w0.heap.size wx wy := k.below hd hm hw
  have Z3 := k.has h.b3 n3.1 n3.2
  have Z4 := k.has h.b4 n4.1 n4.2
  obtain ⟨c1, k1⟩ := h.en.d.has
  obtain ⟨c2, k2⟩ := h.en.m.has
  have kp : Below w0.heap.size wx (put5E wy bq y' e') := put5E_below kb (by omega) y' e'
  refine ⟨⟨h.rdr.below kp hl, Z3.keep (put5E_far (by omega)), put5E_has Z4 y' e', h.lq, he.box Z4 (by simp) (fun i _ hn => put5E_far hn), hi, ?_, grown_base h.grown kp, h.lg⟩, Z4⟩
  refine h.row.keep fun i hi' _ hce => ?_
  obtain ⟨ci, hci⟩ := hce
  rw [put5E_far (fun e => Has.ne_kind hci h.b4 (by decide) e)]
  exact k.block i hi' (Has.ne_kind hci k1 (by decide)) (Has.ne_kind hci k2 (by decide))
end

set_option maxRecDepth 100000 in
set_option maxHeartbeats 4000000 in
theorem l71Play_any (g : Nat) (a : Option Addr) (bs : List Int) (cap : Nat) (p : Int) (B : Nat) (w : World) (hr : Rdr w g a bs cap p B) (hp : p ≤ 10000000) :
    Calls Try.prog 39 #[.pointer (some ⟨g, 0, none⟩)] w (PlayRet g a bs cap B (p + 1000) w) := by
  have lg := hr.has.lt
  have HR := Lib.hid hr
  have X3 := Lib.hid (Has.new w 60 zeroEC)
  have B3 := Lib.hid (below_one w (.cells zeroEC 60))
  clear hr
  go_enter Try.func39, Try.ntmps39
  go_upto_region 1 with (fail)
  generalize (w.alloc (.cells zeroEC 60)) = w1 at *
  go_wp2_with fail
  refine (engineNew_any _).mono ?_
  rintro en w2 ⟨y, rfl, e2, b2⟩
  have lw := X3.out.lt
  have sw := b2.size
  have R2 : Rdr w2 g a bs cap p B := (HR.out.below B3.out lg).below b2 (by omega)
  have X32 := X3.out.below b2 X3.out.lt
  have BB : Below w.heap.size w w2 := B3.out.trans (b2.mono (by omega))
  have k2 := below_two w2 (.cells (engC y newE) 60) (.cells #[] 72)
  have S0 : Hid (PlSt w ((w2.alloc (.cells (engC y newE) 60)).alloc (.cells #[] 72)) g a bs cap p B (.slice (some ⟨w2.heap.size + 1, 0, none⟩) 0 0) 0 w2.heap.size y newE) := by
    refine ⟨R2.below k2 (by omega), X32.below k2 X32.lt, (Has.new w2 _ _).alloc _, by omega, (e2.below k2).down (by omega), new_inv, ?_, grown_below (BB.trans (k2.mono (by omega))) _, lg⟩
    have h := Has.new (w2.alloc (.cells (engC y newE) 60)) 72 #[]
    rw [World.size_alloc] at h
    exact OwnEv.empty h (by omega)
  clear R2 X32 BB k2 e2 b2 X3 B3 HR
  go_upto_region 3 with (fail)
  generalize ((w2.alloc (.cells (engC y newE) 60)).alloc (.cells #[] 72)) = w3 at *
  generalize (.slice (some ⟨w2.heap.size + 1, 0, none⟩) 0 0 : Value) = ev0 at *
  generalize hbq : w2.heap.size = bq at *
  clear hbq sw lw
  go_wp2_with fail
  refine (pick_any 37 g a bs cap _ B _ S0.out.rdr (by omega) (by omega) (by omega)).mono ?_
  rintro en w4 ⟨zn, rfl, znl, znm, hgr, -, hr⟩
  have znh := znm (by omega)
  have S := Lib.hid (S0.out.pick hgr hr)
  clear znm hgr hr S0
  obtain ⟨kn, rfl⟩ := Int.eq_ofNat_of_zero_le znl
  go_wp2_with fail
  go_loopw [5, 6] (fun ev iv wx => ∃ (k n : Nat) (p' : Int) (y : Ad) (e : EE), iv = .int .i64 (k : Int) ∧ k ≤ 36 ∧ n + k ≤ 36 ∧ p' ≤ p + 1 + 20 * (36 - k) ∧ PlSt w wx g a bs cap p' B ev n bq y e) (fun _ iv _ => (intOf iv).toNat)
  case atStart => exact ⟨kn, 0, _, y, newE, rfl, by omega, by omega, by omega, S.out⟩
  case round =>
    clear S
    obtain ⟨k, n, p', y, e, rfl, hk, hnk, hp', hS⟩ := hrel
    have S := Lib.hid hS
    have hbw := hS.grown.size
    clear hS
    obtain ⟨c0, c1, c2, c3, c4⟩ := S.out.b4.five
    cases k with
    | zero =>
      go_wp2_with fail
      refine (l11Copy_any w.heap.size y e _ S.out.en S.out.inv).mono ?_
      rintro en w5 ⟨y5, rfl, E5, b5⟩
      have S5 := Lib.hid (S.out.below b5)
      have HE5 := Lib.hid (E5.down hbw)
      clear b5 E5 S c0 c1 c2 c3 c4
      obtain ⟨q0, q1, q2, q3, q4⟩ := S5.out.b3.five
      have t0 := S5.out.b3.frozen 0
      have t1 := S5.out.b3.frozen 1
      have t2 := S5.out.b3.frozen 2
      have t3 := S5.out.b3.frozen 3
      have t4 := S5.out.b3.frozen 4
      go_wp2
      have hB := S5.out.rdr.apart
      have hgl := S5.out.lg
      refine bodyPost_ret (v := .tuple #[u5, engV y5 e]) (by simp [results, Try.results39, go_sem, q0, q1, q2, q3, q4]) rfl ⟨_, y5, e, rfl, HE5.out.box S5.out.b3 (by simp) (fun i _ hn => put5E_far (x := y5) (e := e) hn), S5.out.inv, ?_, p', by omega, S5.out.rdr.keep (put5E_far (x := y5) (e := e) (by omega)) (fun i hi => put5E_far (x := y5) (e := e) (by omega))⟩
      exact grown_far (grown_far (grown_far (grown_far (grown_far S5.out.grown (Nat.le_refl _) _) (Nat.le_refl _) _) (Nat.le_refl _) _) (Nat.le_refl _) _) (Nat.le_refl _) _
    | succ k =>
      go_wp2_with fail
      refine (l71Event_any g a bs cap p' B w.heap.size y e _ S.out.rdr lg hbw S.out.en S.out.inv (by omega)).mono ?_
      rintro en w5 ⟨v, av, cv, rfl, hv, hvx, hgr, p2, hp2, hr2⟩
      have S4 := S.out.pick hgr hr2
      have S5 := Lib.hid (S4.below (below_one w5 (.cells (evC v av cv) 72)))
      have X7 := Lib.hid (Has.new w5 72 (evC v av cv))
      have V5 := Lib.hid (hv.below (below_one w5 (.cells (evC v av cv) 72)))
      obtain ⟨rb, rc, hev, hrb, cs, hrc⟩ := S4.row.has
      have lrb := Has.lt hrc
      have Hrc := Lib.hid ((show Has w5 rb 72 cs from hrc).alloc (.cells (evC v av cv) 72))
      clear S4 hv hgr hr2 S c0 c1 c2 c3 c4 hrc
      subst hev
      go_upto_region 7 with (fail)
      generalize (w5.alloc (.cells (evC v av cv) 72)) = w6 at *
      generalize hb7 : w5.heap.size = b7 at *
      clear hb7
      obtain ⟨d0, d1, d2, d3, d4, d5⟩ := sixE X7.out
      have S6 := Lib.hid (S5.out.below (below_one w6 (.cells (evC v av cv) 72)))
      have X7a := Lib.hid (X7.out.alloc (.cells (evC v av cv) 72))
      have X8 := Lib.hid (Has.new w6 72 (evC v av cv))
      have V6 := Lib.hid (V5.out.below (below_one w6 (.cells (evC v av cv) 72)))
      have Hrc6 := Lib.hid (Hrc.out.alloc (.cells (evC v av cv) 72))
      have hb6 := S6.out.grown.size
      have hI := S5.out.inv
      have HI := Lib.hid hI
      obtain ⟨e9, he9⟩ : ∃ e9, doE e v = e9 := ⟨_, rfl⟩
      have HI9 : Hid (Inv e9) := by show Inv e9; rw [← he9]; exact do_inv hI
      have HDO : Hid (∀ W, w.heap.size ≤ W.heap.size → Eng W w.heap.size y e → Vals W av v.zs → Calls Try.prog 50 #[engV y e, evV v av cv] W (RetE w.heap.size y e9 W)) := fun W h1 h2 h3 => by
        have h := l22Do_any w.heap.size y e v av cv W h1 h2 HI.out h3 hvx
        rw [he9] at h
        exact h
      clear hI he9
      go_wp2_with (first
        | (at_builtin; refine wp_append_ev _ rfl (.tmp 19) (.tmp 21) rfl w.heap.size _ n rfl S6.out.row _ v av cv rfl X8.out (by omega) hb6 ?_; intro v' w7 h1 h2; have h3 := S6.out.append h1 h2; have S7 := Lib.hid h3; have h2' : (w6.alloc (.cells (evC v av cv) 72)).grownBy w7 (some rb) := h2; have hx7 := X7a.out.grown h2' (fun e => by first | (injection e; done) | (injection e; omega) | omega); have X7b := Lib.hid hx7; have V7 := Lib.hid (V6.out.keep (fun i hi hI => h2'.block i hi (fun e => by obtain ⟨ci, hci⟩ := hI; exact Has.ne_kind hci Hrc6.out (by decide) (by injection e)))); clear d0 d1 d2 d3 d4 d5; obtain ⟨d0, d1, d2, d3, d4, d5⟩ := sixE hx7; obtain ⟨c0, c1, c2, c3, c4⟩ := h3.b4.five; clear h1 h2 h2' h3 hx7)
        | (go_at_call 50; fail))
      refine (HDO.out _ S7.out.grown.size S7.out.en V7.out).mono ?_
      rintro en w8 ⟨y2, rfl, E8, F8⟩
      have hT := S7.out.turn E8 HI9.out F8
      have S8 := Lib.hid hT.1
      have z4 := hT.2
      clear hT E8 F8 c0 c1 c2 c3 c4 d0 d1 d2 d3 d4 d5
      obtain ⟨z0, z1, z2, z3, z4'⟩ := z4.five
      have g0 := z4.frozen 0
      have g1 := z4.frozen 1
      have g2 := z4.frozen 2
      have g3 := z4.frozen 3
      have g4 := z4.frozen 4
      clear z4
      go_wp2
      exact ⟨⟨k, n + 1, p2, y2, e9, rfl, by omega, by omega, by omega, S8.out⟩, by simp [intOf] <;> omega⟩
end Go.Proofs.Ytejbmjdipfcblaa.Base
