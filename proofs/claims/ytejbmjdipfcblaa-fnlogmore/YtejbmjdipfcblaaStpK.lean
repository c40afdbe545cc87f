/-
  Contract of the model's l13Step. Conditions: the engine lies in memory and keeps what holds throughout a play; the transaction is open.
-/
import Derived.Test.YtejbmjdipfcblaaAddK
import Derived.Deep.QuietTactic
import Derived.Deep.DeepCutAuto
namespace Go.Proofs.Ytejbmjdipfcblaa.Base
open Go.RowKit

theorem size_drew' (W : World) : W.drew.heap.size = W.heap.size := rfl
/-- the record that undoes r -/
def backR (r : R) (prev : Int) : R := ⟨6, r.t, r.p, r.s, 0, r.o, prev, r.v⟩
set_option maxHeartbeats 1000000 in
theorem l2Back_any (r : R) (prev : Int) (w : World) : Calls Try.prog 97 #[recV r, .int .i64 prev] w (Keeps (recV (backR r prev)) w) := by
  go_enter Try.func97, Try.ntmps97
  go_wp2
  refine bodyPost_ret (v := recV (backR r prev)) (by simp [results, Try.results97, go_sem, backR]) rfl ⟨rfl, ?_⟩
  go_grown

/-- where a function stands that adds a record to its engine -/
structure SpSt (w0 wx : World) (base : Nat) (x : Ad) (e : EE) (nb : Option Nat) (rs : Option (Ad × EE)) : Prop where
  b2 : Has wx w0.heap.size 60 (engC x e)
  b4 : Has wx (w0.heap.size + 1) 60 zeroEC
  fb : ∀ b, nb = some b → Has wx b 60 zeroEC ∧ w0.heap.size + 2 ≤ b
  fr : Frm x w0 (rs.getD (x, e)).1 wx
  en : Eng wx base (rs.getD (x, e)).1 (rs.getD (x, e)).2
  lg : (∃ cs, Has wx x.lb 27 cs) ∧ RdR wx x.lb 0 e.log
section
variable {w0 wx wy : World} {base : Nat} {x : Ad} {e : EE} {nb : Option Nat} {rs : Option (Ad × EE)}
theorem SpSt.grow (h : SpSt w0 wx base x e nb rs) (k : Below wx.heap.size wx wy) : SpSt w0 wy base x e nb rs := by
  obtain ⟨⟨cs, hc⟩, hr⟩ := h.lg
  exact ⟨h.b2.below k h.b2.lt, h.b4.below k h.b4.lt, fun b hb => ⟨(h.fb b hb).1.below k (h.fb b hb).1.lt, (h.fb b hb).2⟩, h.fr.grow k, h.en.below k, ⟨cs, Has.below hc k (Has.lt hc)⟩, hr.below k (Has.lt hc)⟩
theorem SpSt.drewN (h : SpSt w0 wx base x e nb rs) (n : Nat) : SpSt w0 (wx.drewN n) base x e nb rs := h.grow ⟨rfl, rfl, rfl, Nat.le_refl _, fun _ _ => rfl⟩
theorem SpSt.box {n : Nat} (h : SpSt w0 wx base x e none rs) (hn : wx.heap.size = n) : SpSt w0 (wx.alloc (.cells zeroEC 60)) base x e (some n) rs := by
  subst hn
  have g := h.grow (below_one wx (.cells zeroEC 60))
  have l4 := h.b4.lt
  refine ⟨g.b2, g.b4, fun b hb => ?_, g.fr, g.en, g.lg⟩
  injection hb with hb
  subst hb
  exact ⟨Has.new wx _ _, by omega⟩
theorem SpSt.add {y : Ad} {e' : EE} (h : SpSt w0 wx base x e nb none) (he : Eng wy base y e') (k : Frm x wx y wy) : SpSt w0 wy base x e nb (some (y, e')) := by
  have n2 := Eng.ne_eng h.en h.b2
  have n4 := Eng.ne_eng h.en h.b4
  obtain ⟨⟨cs, hc⟩, hr⟩ := h.lg
  have nl := Eng.ne_rec h.en hc
  refine ⟨k.has h.b2 n2.1 n2.2, k.has h.b4 n4.1 n4.2, fun b hb => ?_, h.fr.trans k, he, ⟨cs, k.has hc nl.1 nl.2⟩, hr.keep (k.block _ (Has.lt hc) nl.1 nl.2)⟩
  have hb' := h.fb b hb
  have n9 := Eng.ne_eng h.en hb'.1
  exact ⟨k.has hb'.1 n9.1 n9.2, hb'.2⟩
theorem SpSt.put {y : Ad} {e' : EE} {b : Nat} (h : SpSt w0 wx base x e nb (some (y, e'))) (hb : Has wx b 60 zeroEC) (hl : w0.heap.size + 2 ≤ b) :
    SpSt w0 (put5E wx b y e') base x e none (some (y, e')) ∧ Has (put5E wx b y e') b 60 (engC y e') := by
  obtain ⟨⟨cs, hc⟩, hr⟩ := h.lg
  have nl : x.lb ≠ b := Has.ne_kind hc hb (by decide)
  refine ⟨⟨h.b2.keep (put5E_far (by omega)), h.b4.keep (put5E_far (by omega)), fun _ hn => (by cases hn), h.fr.put5E (by omega) _ _, h.en.box hb (by simp) (fun i _ hn => put5E_far hn), ⟨cs, Has.keep hc (put5E_far nl)⟩, hr.keep (put5E_far nl)⟩, put5E_has hb _ _⟩
theorem SpSt.size (h : SpSt w0 wx base x e nb rs) : w0.heap.size ≤ wx.heap.size := h.fr.size
end

set_option maxRecDepth 100000 in
set_option maxHeartbeats 4000000 in
theorem l13Step_any (base : Nat) (x : Ad) (e : EE) (t : Int) (w : World) (hbw : base ≤ w.heap.size) (he : Eng w base x e) (hi : Inv e) (t1 : 1 ≤ t) (t3 : t ≤ 3) (hlo : lastN e.log t e.log.length ≠ 0) :
    Calls Try.prog 88 #[engV x e, .int .i64 t] w (RetE base x (stepE e t) w) := by
  have HE := Lib.hid he
  have HI := Lib.hid hi
  have hl150 := log_len hi.log
  obtain ⟨res, hres⟩ : ∃ r, addE e (stepR e t) = r := ⟨_, rfl⟩
  obtain ⟨e3, b3⟩ := res
  have HR : Hid (stepE e t = e3) := by show stepE e t = e3; unfold stepE; rw [hres]
  have HNX := Lib.hid (stepE_next hi t1 t3 hlo).1
  obtain ⟨q, hq⟩ : ∃ q, stepR e t = q := ⟨_, rfl⟩
  have HA : Hid (∀ W, base ≤ W.heap.size → Eng W base x e → Calls Try.prog 85 #[engV x e, recV q] W (RetEB base x (e3, b3) W)) := fun W hW hE => by
    have h := l12Add_any base x e (stepR e t) W hW hE HI.out HNX.out
    rw [hres, hq] at h
    exact h
  have HQ : Hid (q = match backC e.log (lastN e.log t e.log.length) with
    | 0 => ⟨5, t, 0, 0, 0, 0, 0, 0⟩
    | b + 1 => ⟨6, (recAt e.log b).t, (recAt e.log b).p, (recAt e.log b).s, 0, (recAt e.log b).o, (lastN e.log t e.log.length : Int), (recAt e.log b).v⟩) := hq.symm
  clear hres HNX hq hlo
  have h2 : Has ((w.alloc (.cells (engC x e) 60)).alloc (.cells zeroEC 60)) w.heap.size 60 (engC x e) := (Has.new w _ _).alloc _
  have h4 : Has ((w.alloc (.cells (engC x e) 60)).alloc (.cells zeroEC 60)) (w.heap.size + 1) 60 zeroEC := by
    have := Has.new (w.alloc (.cells (engC x e) 60)) 60 zeroEC
    rwa [World.size_alloc] at this
  have B1 : Below w.heap.size w ((w.alloc (.cells (engC x e) 60)).alloc (.cells zeroEC 60)) := below_two _ _ _
  have E1 := he.below B1
  have S1 : Hid (SpSt w ((w.alloc (.cells (engC x e) 60)).alloc (.cells zeroEC 60)) base x e none none) := ⟨h2, h4, fun _ h => (by cases h), .of_below B1 rfl rfl, E1, E1.l.has, E1.l.rd.2.1⟩
  have hle := lastN_le e.log t e.log.length
  have HL : Hid (∀ W, RdR W x.lb 0 e.log → x.lb < W.heap.size → Calls Try.prog 33 #[.slice (some ⟨x.lb, 0, none⟩) e.log.length x.lc, .int .i64 t] W fun en w' => en = .returned (.int .i64 (lastN e.log t e.log.length)) ∧ W = w') := fun W h hl => l3Last_any e.log e.log.length t _ x.lc W.heap.size W (Nat.le_refl _) (h.recs hl) (by omega)
  have hgood := good_of_log hi.log
  have HB : Hid (∀ W, RdR W x.lb 0 e.log → x.lb < W.heap.size → Calls Try.prog 96 #[.slice (some ⟨x.lb, 0, none⟩) e.log.length x.lc, .int .i64 (lastN e.log t e.log.length)] W (Keeps (.int .i64 (backC e.log (lastN e.log t e.log.length))) W)) := fun W h hl => l11Back_any e.log _ x.lc W.heap.size _ W (Nat.le_refl _) (h.recs hl) hgood hle (by omega)
  have hbl := backC_le hgood.falls _ hle
  generalize hbk : backC e.log (lastN e.log t e.log.length) = bk at *
  generalize lastN e.log t e.log.length = la at *
  clear he hi h2 h4 B1 E1 hbk hgood
  go_enter Try.func88, Try.ntmps88
  go_upto_region 1 with (fail)
  generalize ((w.alloc (.cells (engC x e) 60)).alloc (.cells zeroEC 60)) = w1 at *
  obtain ⟨c0, c1, c2, c3, c4⟩ := S1.out.b2.five
  have hxl : x.lb < w1.heap.size := by obtain ⟨⟨cs, hc⟩, -⟩ := S1.out.lg; exact Has.lt hc
  go_wp2_with fail
  refine (HL.out _ S1.out.lg.2 hxl).mono ?_
  rintro en w2 ⟨rfl, rfl⟩
  go_wp2_with fail
  refine (HB.out _ S1.out.lg.2 hxl).mono ?_
  rintro en w2 ⟨rfl, b2⟩
  have S2 := Lib.hid (S1.out.grow b2)
  clear b2 S1 c0 c1 c2 c3 c4 hxl HL HB
  obtain ⟨c0, c1, c2, c3, c4⟩ := S2.out.b2.five
  cases bk with
  | zero =>
    have HQ0 : Hid (q = ⟨5, t, 0, 0, 0, 0, 0, 0⟩) := HQ.out
    clear HQ
    obtain ⟨qk, qt, qp, qs, qo, qn, qv, qx⟩ := q
    have hq0 := HQ0.out
    simp only [R.mk.injEq] at hq0
    obtain ⟨rfl, rfl, rfl, rfl, rfl, rfl, rfl, rfl⟩ := hq0
    clear HQ0
    have hb2 : base ≤ w2.heap.size := Nat.le_trans hbw S2.out.size
    go_wp2_with fail
    refine (HA.out _ hb2 S2.out.en).mono ?_
    rintro en w3 ⟨y, rfl, E3, F3⟩
    have S3 := Lib.hid (S2.out.add E3 F3)
    clear E3 F3 S2 c0 c1 c2 c3 c4 HA
    have S4 := Lib.hid (S3.out.grow (below_one w3 (.cells (engC y e3) 60)))
    have X9 := Lib.hid (Has.new w3 60 (engC y e3))
    have l3 := S3.out.b4.lt
    go_upto_region 5 with (fail)
    generalize (w3.alloc (.cells (engC y e3) 60)) = w4 at *
    obtain ⟨c0, c1, c2, c3, c4⟩ := X9.out.five
    obtain ⟨y0, y1, y2, y3, y4⟩ := S4.out.b4.five
    have t0 := S4.out.b4.frozen 0
    have t1 := S4.out.b4.frozen 1
    have t2 := S4.out.b4.frozen 2
    have t3 := S4.out.b4.frozen 3
    have t4 := S4.out.b4.frozen 4
    go_wp2
    refine bodyPost_ret (v := engV y e3) (by simp [results, Try.results88, go_sem, y0, y1, y2, y3, y4]) rfl ⟨y, by rw [HR.out], ?_, S4.out.fr.put5E (by omega) y e3⟩
    rw [HR.out]
    exact S4.out.en.box S4.out.b4 (by simp) (fun i _ hn => put5E_far hn)
  | succ b =>
    have hbL : b < e.log.length := by omega
    have b0 : (0 : Int) ≤ (b : Int) := by omega
    have bL : (b : Int) < (e.log.length : Int) := by omega
    obtain ⟨r, hr⟩ : ∃ r, recAt e.log b = r := ⟨_, rfl⟩
    have HQ1 : Hid (q = backR r la) := by subst hr; exact HQ.out
    have HRA : Hid (∀ W, RdR W x.lb 0 e.log → At W x.lb (0 + b * 8) r) := fun W hW => by rw [← hr]; exact hW b hbL
    clear hr HQ
    go_upto_region 6 with (fail)
    clear c0 c1 c2 c3 c4
    go_cut [9] (fun v wx => ∃ b : Nat, v = .pointer (some ⟨b, 0, none⟩) ∧ ∃ y, SpSt w wx base x e none (some (y, e3)) ∧ Has wx b 60 (engC y e3))
    case first =>
      have wb : IntKind.i64.wrap (b : Int) = (b : Int) := IntWalk.i64_in _ (by omega)
      have hb2 : base ≤ w2.drew.heap.size := Nat.le_trans hbw S2.out.size
      have St : Hid (SpSt w w2.drew base x e none none) := S2.out.drewN 1
      have D0 := HRA.out _ S2.out.lg.2
      rw [Nat.zero_add] at D0
      have HRZ : Hid (∀ W, RdR W x.lb 0 e.log → W.cell? ⟨x.lb, b * 8, none⟩ = some (.int .i64 r.k) ∧ W.cell? ⟨x.lb, b * 8 + 1, none⟩ = some (.int .i64 r.t) ∧ W.cell? ⟨x.lb, b * 8 + 2, none⟩ = some (.int .i64 r.p) ∧ W.cell? ⟨x.lb, b * 8 + 3, none⟩ = some (.int .i64 r.s) ∧ W.cell? ⟨x.lb, b * 8 + 4, none⟩ = some (.int .i64 r.o) ∧ W.cell? ⟨x.lb, b * 8 + 5, none⟩ = some (.int .i64 r.n) ∧ W.cell? ⟨x.lb, b * 8 + 6, none⟩ = some (.int .i64 r.v) ∧ W.cell? ⟨x.lb, b * 8 + 7, none⟩ = some (.int .i64 r.x)) := fun W hW => by
        have h := HRA.out W hW
        rw [Nat.zero_add] at h
        exact ⟨h.k, h.t, h.p, h.s, h.o, h.n, h.v, h.x⟩
      have hSt : Hid (∀ W nb rs, SpSt w W base x e nb rs → (W.cell? ⟨w.heap.size, 0, none⟩ = some (.slice (some ⟨x.db, 0, none⟩) 5 x.dc) ∧ W.cell? ⟨w.heap.size, 1, none⟩ = some (.slice (some ⟨x.mb, 0, none⟩) 5 x.mc) ∧ W.cell? ⟨w.heap.size, 2, none⟩ = some (.slice (some ⟨x.lb, 0, none⟩) e.log.length x.lc) ∧ W.cell? ⟨w.heap.size, 3, none⟩ = some (.int .i64 e.safe) ∧ W.cell? ⟨w.heap.size, 4, none⟩ = some (.bool e.down)) ∧ W.cell? ⟨x.lb, b * 8, none⟩ = some (.int .i64 r.k) ∧ W.cell? ⟨x.lb, b * 8 + 1, none⟩ = some (.int .i64 r.t) ∧ W.cell? ⟨x.lb, b * 8 + 2, none⟩ = some (.int .i64 r.p) ∧ W.cell? ⟨x.lb, b * 8 + 3, none⟩ = some (.int .i64 r.s) ∧ W.cell? ⟨x.lb, b * 8 + 4, none⟩ = some (.int .i64 r.o) ∧ W.cell? ⟨x.lb, b * 8 + 5, none⟩ = some (.int .i64 r.n) ∧ W.cell? ⟨x.lb, b * 8 + 6, none⟩ = some (.int .i64 r.v) ∧ W.cell? ⟨x.lb, b * 8 + 7, none⟩ = some (.int .i64 r.x)) := fun W nb rs h => ⟨h.b2.five, HRZ.out W h.lg.2⟩
      clear D0 S2 HRA HRZ
      refine wp_region_held_drew (S := (fun w' => (w'.cell? ⟨w.heap.size, 0, none⟩ = some (.slice (some ⟨x.db, 0, none⟩) 5 x.dc) ∧ w'.cell? ⟨w.heap.size, 1, none⟩ = some (.slice (some ⟨x.mb, 0, none⟩) 5 x.mc) ∧ w'.cell? ⟨w.heap.size, 2, none⟩ = some (.slice (some ⟨x.lb, 0, none⟩) e.log.length x.lc) ∧ w'.cell? ⟨w.heap.size, 3, none⟩ = some (.int .i64 e.safe) ∧ w'.cell? ⟨w.heap.size, 4, none⟩ = some (.bool e.down)) ∧ w'.cell? ⟨x.lb, b * 8, none⟩ = some (.int .i64 r.k) ∧ w'.cell? ⟨x.lb, b * 8 + 1, none⟩ = some (.int .i64 r.t) ∧ w'.cell? ⟨x.lb, b * 8 + 2, none⟩ = some (.int .i64 r.p) ∧ w'.cell? ⟨x.lb, b * 8 + 3, none⟩ = some (.int .i64 r.s) ∧ w'.cell? ⟨x.lb, b * 8 + 4, none⟩ = some (.int .i64 r.o) ∧ w'.cell? ⟨x.lb, b * 8 + 5, none⟩ = some (.int .i64 r.n) ∧ w'.cell? ⟨x.lb, b * 8 + 6, none⟩ = some (.int .i64 r.v) ∧ w'.cell? ⟨x.lb, b * 8 + 7, none⟩ = some (.int .i64 r.x))) (by kernel_rfl) ?_ (fun hHeld0 => ?_)
      · (first | (with_reducible exact hSt.out _ _ _ St.out) | exact hSt.out _ _ _ T9.out.1 | exact hSt.out _ _ _ St.out)
      refine wpAnyH_take (i := 0) (oi := { dst := some 30, op := Go.Op.load 60 (Go.Operand.tmp 2), type := 60, pos := "l13_end.go:36", after := #[], guard := none }) (v := ?_) rfl (by kernel_rfl) (by kernel_rfl) (by kernel_rfl) (fun _ _ _ h => h) (Or.inl ⟨by rfl, ?_⟩) hHeld0 ?_
      rotate_left
      · (intro w hSw; (try dsimp only at hSw); go_simp; (first | done | (with_reducible rfl) | (rw [if_neg (by omega)]) | (rw [if_neg (by simp only [ByteArray.size_append]; omega)])))
      (try simp only [Act.put, List.setIfInBounds_toArray, List.set_cons_zero, List.set_cons_succ])
      refine wpAnyH_take (i := 1) (oi := { dst := some 31, op := Go.Op.fieldAddr 60 (Go.Operand.tmp 2) 2, type := 0, pos := "l13_end.go:36", after := #[], guard := none }) (v := ?_) rfl (by kernel_rfl) (by kernel_rfl) (by kernel_rfl) (fun _ _ _ h => h) (Or.inl ⟨by rfl, ?_⟩) hHeld0 ?_
      rotate_left
      · (intro w hSw; (try dsimp only at hSw); go_simp; (first | done | (with_reducible rfl) | (rw [if_neg (by omega)]) | (rw [if_neg (by simp only [ByteArray.size_append]; omega)])))
      (try simp only [Act.put, List.setIfInBounds_toArray, List.set_cons_zero, List.set_cons_succ])
      refine wpAnyH_take (i := 2) (oi := { dst := some 32, op := Go.Op.load 23 (Go.Operand.tmp 31), type := 23, pos := "l13_end.go:36", after := #[{ on := 1, ground := Go.Ground.data }], guard := none }) (v := ?_) rfl (by kernel_rfl) (by kernel_rfl) (by kernel_rfl) (fun _ _ _ h => h) (Or.inl ⟨by rfl, ?_⟩) hHeld0 ?_
      rotate_left
      · (intro w hSw; (try dsimp only at hSw); go_simp; (first | done | (with_reducible rfl) | (rw [if_neg (by omega)]) | (rw [if_neg (by simp only [ByteArray.size_append]; omega)])))
      (try simp only [Act.put, List.setIfInBounds_toArray, List.set_cons_zero, List.set_cons_succ])
      refine wpAnyH_take (i := 3) (oi := { dst := some 33, op := Go.Op.move (Go.Operand.tmp 6), type := 3, pos := "l13_end.go:36", after := #[], guard := none }) (v := ?_) rfl (by kernel_rfl) (by kernel_rfl) (by kernel_rfl) (fun _ _ _ h => h) (Or.inl ⟨by rfl, ?_⟩) hHeld0 ?_
      rotate_left
      · (intro w hSw; (try dsimp only at hSw); go_simp; (first | done | (with_reducible rfl) | (rw [if_neg (by omega)]) | (rw [if_neg (by simp only [ByteArray.size_append]; omega)])))
      (try simp only [Act.put, List.setIfInBounds_toArray, List.set_cons_zero, List.set_cons_succ])
      refine wpAnyH_take (i := 4) (oi := { dst := some 34, op := Go.Op.binOp Go.BinOp.sub 3 (Go.Operand.tmp 33) (Go.Operand.const (Go.Value.int Go.IntKind.i64 1)) 3, type := 3, pos := "l13_end.go:36", after := #[{ on := 3, ground := Go.Ground.data }], guard := none }) (v := ?_) rfl (by kernel_rfl) (by kernel_rfl) (by kernel_rfl) (fun _ _ _ h => h) (Or.inl ⟨by rfl, ?_⟩) hHeld0 ?_
      rotate_left
      · (intro w hSw; (try dsimp only at hSw); go_simp; (first | done | (with_reducible rfl) | (rw [if_neg (by omega)]) | (rw [if_neg (by simp only [ByteArray.size_append]; omega)])))
      (try simp only [Act.put, List.setIfInBounds_toArray, List.set_cons_zero, List.set_cons_succ])
      refine wpAnyH_take (i := 5) (oi := { dst := some 35, op := Go.Op.indexAddr 23 (Go.Operand.tmp 32) (Go.Operand.tmp 34), type := 0, pos := "l13_end.go:36", after := #[{ on := 2, ground := Go.Ground.data }, { on := 4, ground := Go.Ground.data }], guard := none }) (v := ?_) rfl (by kernel_rfl) (by kernel_rfl) (by kernel_rfl) (fun _ _ _ h => h) (Or.inl ⟨by rfl, ?_⟩) hHeld0 ?_
      rotate_left
      · (intro w hSw; (try dsimp only at hSw); go_simp; (first | done | (with_reducible rfl) | (rw [if_neg (by omega)]) | (rw [if_neg (by simp only [ByteArray.size_append]; omega)])))
      (try simp only [Act.put, List.setIfInBounds_toArray, List.set_cons_zero, List.set_cons_succ])
      refine wpAnyH_take (i := 6) (oi := { dst := some 36, op := Go.Op.load 27 (Go.Operand.tmp 35), type := 27, pos := "l13_end.go:36", after := #[{ on := 5, ground := Go.Ground.data }], guard := none }) (v := ?_) rfl (by kernel_rfl) (by kernel_rfl) (by kernel_rfl) (fun _ _ _ h => h) (Or.inl ⟨by rfl, ?_⟩) hHeld0 ?_
      rotate_left
      · (intro w hSw; (try dsimp only at hSw); go_simp; (first | done | (with_reducible rfl) | (rw [if_neg (by omega)]) | (rw [if_neg (by simp only [ByteArray.size_append]; omega)])))
      (try simp only [Act.put, List.setIfInBounds_toArray, List.set_cons_zero, List.set_cons_succ])
      refine wpAnyH_take (i := 7) (oi := { dst := some 37, op := Go.Op.move (Go.Operand.tmp 5), type := 3, pos := "l13_end.go:36", after := #[], guard := none }) (v := ?_) rfl (by kernel_rfl) (by kernel_rfl) (by kernel_rfl) (fun _ _ _ h => h) (Or.inl ⟨by rfl, ?_⟩) hHeld0 ?_
      rotate_left
      · (intro w hSw; (try dsimp only at hSw); go_simp; (first | done | (with_reducible rfl) | (rw [if_neg (by omega)]) | (rw [if_neg (by simp only [ByteArray.size_append]; omega)])))
      (try simp only [Act.put, List.setIfInBounds_toArray, List.set_cons_zero, List.set_cons_succ])
      refine wpAnyH_ready (rs := [8, 13]) (by kernel_rfl) (by simp) ?_
      refine AllReadyH.cons (o := { dst := some 38, op := Go.Op.call { callee := Go.Callee.value (Go.Operand.func 97), args := #[Go.Operand.tmp 36, Go.Operand.tmp 37], argTypes := #[27, 3] }, type := 27, pos := "l13_end.go:36", after := #[{ on := 6, ground := Go.Ground.data }, { on := 7, ground := Go.Ground.data }], guard := none }) rfl (fun K hK => ?_) (AllReadyH.cons (o := { dst := some 9, op := Go.Op.alloc 60, type := 0, pos := "l13_end.go:36", after := #[], guard := none }) rfl (fun K hK => ?_) AllReadyH.nil)
      · go_simp
        refine (l2Back_any r (la : Int) _).mono ?_
        rintro en wy ⟨rfl, b2⟩
        have St' := Lib.hid (St.out.grow b2)
        clear St b2
        have St := St'
        clear St'
        (try go_wp2_with fail)
        refine hK.out _ _ ?_ (fun hHeld1 => ?_)
        · (first | (with_reducible exact hSt.out _ _ _ St.out) | exact hSt.out _ _ _ T9.out.1 | exact hSt.out _ _ _ St.out)
        clear hK K hHeld0
        (try simp only [Act.put, List.setIfInBounds_toArray, List.set_cons_zero, List.set_cons_succ])
        refine wpAnyH_ready (rs := [9, 13]) (by kernel_rfl) (by simp) ?_
        refine AllReadyH.cons (o := { dst := some 39, op := Go.Op.call { callee := Go.Callee.value (Go.Operand.func 85), args := #[Go.Operand.tmp 30, Go.Operand.tmp 38], argTypes := #[60, 27] }, type := 96, pos := "l13_end.go:36", after := #[{ on := 0, ground := Go.Ground.data }, { on := 8, ground := Go.Ground.data }, { on := 8, ground := Go.Ground.chain }], guard := none }) rfl (fun K hK => ?_) (AllReadyH.cons (o := { dst := some 9, op := Go.Op.alloc 60, type := 0, pos := "l13_end.go:36", after := #[], guard := none }) rfl (fun K hK => ?_) AllReadyH.nil)
        · go_simp
          rw [← HQ1.out]
          refine (HA.out _ (Nat.le_trans hbw St.out.size) St.out.en).mono ?_
          rintro en wz ⟨y, rfl, E3, F3⟩
          have St' := Lib.hid (St.out.add E3 F3)
          clear St E3 F3
          have St := St'
          clear St'
          first | (obtain ⟨z0, z1, z2, z3, z4⟩ := (St.out.fb _ rfl).1.five; have u0 := (St.out.fb _ rfl).1.frozen 0; have u1 := (St.out.fb _ rfl).1.frozen 1; have u2 := (St.out.fb _ rfl).1.frozen 2; have u3 := (St.out.fb _ rfl).1.frozen 3; have u4 := (St.out.fb _ rfl).1.frozen 4) | skip
          (try go_wp2_with fail)
          refine hK.out _ _ ?_ (fun hHeld2 => ?_)
          · (first | (with_reducible exact hSt.out _ _ _ St.out) | exact hSt.out _ _ _ T9.out.1 | exact hSt.out _ _ _ St.out)
          clear hK K hHeld1
          (try simp only [Act.put, List.setIfInBounds_toArray, List.set_cons_zero, List.set_cons_succ])
          refine wpAnyH_take (i := 10) (oi := { dst := some 29, op := Go.Op.move (Go.Operand.tmp 39), type := 96, pos := "l13_end.go:36", after := #[{ on := 9, ground := Go.Ground.data }], guard := none }) (v := ?_) rfl (by kernel_rfl) (by kernel_rfl) (by kernel_rfl) (fun _ _ _ h => h) (Or.inl ⟨by rfl, ?_⟩) hHeld2 ?_
          rotate_left
          · (intro w hSw; (try dsimp only at hSw); go_simp; (first | done | (with_reducible rfl) | (rw [if_neg (by omega)]) | (rw [if_neg (by simp only [ByteArray.size_append]; omega)])))
          (try simp only [Act.put, List.setIfInBounds_toArray, List.set_cons_zero, List.set_cons_succ])
          refine wpAnyH_take (i := 11) (oi := { dst := some 40, op := Go.Op.extract (Go.Operand.tmp 29) 0, type := 60, pos := "l13_end.go:36", after := #[{ on := 10, ground := Go.Ground.data }], guard := none }) (v := ?_) rfl (by kernel_rfl) (by kernel_rfl) (by kernel_rfl) (fun _ _ _ h => h) (Or.inl ⟨by rfl, ?_⟩) hHeld2 ?_
          rotate_left
          · (intro w hSw; (try dsimp only at hSw); go_simp; (first | done | (with_reducible rfl) | (rw [if_neg (by omega)]) | (rw [if_neg (by simp only [ByteArray.size_append]; omega)])))
          (try simp only [Act.put, List.setIfInBounds_toArray, List.set_cons_zero, List.set_cons_succ])
          refine wpAnyH_take (i := 12) (oi := { dst := some 41, op := Go.Op.extract (Go.Operand.tmp 29) 1, type := 4, pos := "l13_end.go:36", after := #[{ on := 10, ground := Go.Ground.data }, { on := 14, ground := Go.Ground.gcOnly Go.Departure.lateStores }], guard := none }) (v := ?_) rfl (by kernel_rfl) (by kernel_rfl) (by kernel_rfl) (fun _ _ _ h => h) (Or.inl ⟨by rfl, ?_⟩) hHeld2 ?_
          rotate_left
          · (intro w hSw; (try dsimp only at hSw); go_simp; (first | done | (with_reducible rfl) | (rw [if_neg (by omega)]) | (rw [if_neg (by simp only [ByteArray.size_append]; omega)])))
          (try simp only [Act.put, List.setIfInBounds_toArray, List.set_cons_zero, List.set_cons_succ])
          refine wpAnyH_ready (rs := [13]) (by kernel_rfl) (by simp) ?_
          refine AllReadyH.cons (o := { dst := some 9, op := Go.Op.alloc 60, type := 0, pos := "l13_end.go:36", after := #[], guard := none }) rfl (fun K hK => ?_) AllReadyH.nil
          go_simp
          have Sb := St
          have St' := Lib.hid (St.out.box (by (try simp only [size_drew']); rfl))
          clear St
          have St := St'
          clear St'
          (try go_wp2_with fail)
          refine hK.out _ _ ?_ (fun hHeld3 => ?_)
          · (first | (with_reducible exact hSt.out _ _ _ St.out) | exact hSt.out _ _ _ T9.out.1 | exact hSt.out _ _ _ St.out)
          clear hK K hHeld2
          (try simp only [Act.put, List.setIfInBounds_toArray, List.set_cons_zero, List.set_cons_succ])
          refine wpAnyH_ready (rs := [14]) (by kernel_rfl) (by simp) ?_
          refine AllReadyH.cons (o := { dst := none, op := Go.Op.store 60 (Go.Operand.tmp 9) (Go.Operand.tmp 40), type := 0, pos := "l13_end.go:36", after := #[{ on := 13, ground := Go.Ground.data }, { on := 11, ground := Go.Ground.data }, { on := 9, ground := Go.Ground.chain }, { on := 0, ground := Go.Ground.phase }, { on := 1, ground := Go.Ground.phase }, { on := 2, ground := Go.Ground.phase }, { on := 3, ground := Go.Ground.phase }, { on := 4, ground := Go.Ground.phase }, { on := 5, ground := Go.Ground.phase }, { on := 6, ground := Go.Ground.phase }, { on := 7, ground := Go.Ground.phase }, { on := 8, ground := Go.Ground.phase }, { on := 9, ground := Go.Ground.phase }, { on := 10, ground := Go.Ground.phase }, { on := 11, ground := Go.Ground.phase }, { on := 12, ground := Go.Ground.textOnly Go.Departure.lateStores }, { on := 13, ground := Go.Ground.phase }], guard := none }) rfl (fun K hK => ?_) AllReadyH.nil
          go_simp
          first | (have T9 : Hid (SpSt w (wz.alloc (.cells (engC y e3) 60)) base x e none (some (y, e3)) ∧ Has (wz.alloc (.cells (engC y e3) 60)) wz.heap.size 60 (engC y e3)) := ⟨Sb.out.grow (below_one _ _), Has.new _ _ _⟩) | (have T9 := Lib.hid (St.out.put (St.out.fb _ rfl).1 (St.out.fb _ rfl).2))
          (try go_wp2_with fail)
          refine hK.out _ _ ?_ (fun hHeld4 => ?_)
          · (first | (with_reducible exact hSt.out _ _ _ St.out) | exact hSt.out _ _ _ T9.out.1 | exact hSt.out _ _ _ St.out)
          clear hK K hHeld3
          (try simp only [Act.put, List.setIfInBounds_toArray, List.set_cons_zero, List.set_cons_succ])
          refine wpAnyH_take (i := 15) (oi := { dst := some 10, op := Go.Op.assign (Go.Operand.tmp 41), type := 4, pos := "l13_end.go:36", after := #[{ on := 12, ground := Go.Ground.data }, { on := 14, ground := Go.Ground.chain }, { on := 0, ground := Go.Ground.phase }, { on := 1, ground := Go.Ground.phase }, { on := 2, ground := Go.Ground.phase }, { on := 3, ground := Go.Ground.phase }, { on := 4, ground := Go.Ground.phase }, { on := 5, ground := Go.Ground.phase }, { on := 6, ground := Go.Ground.phase }, { on := 7, ground := Go.Ground.phase }, { on := 8, ground := Go.Ground.phase }, { on := 9, ground := Go.Ground.phase }, { on := 10, ground := Go.Ground.phase }, { on := 11, ground := Go.Ground.phase }, { on := 12, ground := Go.Ground.phase }, { on := 13, ground := Go.Ground.phase }, { on := 14, ground := Go.Ground.phase }], guard := none }) (v := ?_) rfl (by kernel_rfl) (by kernel_rfl) (by kernel_rfl) (fun _ _ _ h => h) (Or.inl ⟨by rfl, ?_⟩) hHeld4 ?_
          rotate_left
          · (intro w hSw; (try dsimp only at hSw); go_simp; (first | done | (with_reducible rfl) | (rw [if_neg (by omega)]) | (rw [if_neg (by simp only [ByteArray.size_append]; omega)])))
          (try simp only [Act.put, List.setIfInBounds_toArray, List.set_cons_zero, List.set_cons_succ])
          refine wpAnyH_done (by kernel_rfl) ?_ _
          clear hHeld4
          go_wp2_with fail
          go_meet
          exact ⟨_, rfl, _, T9.out.1, T9.out.2⟩
        · go_simp
          have Sb := St
          have St' := Lib.hid (St.out.box (by (try simp only [size_drew']); rfl))
          clear St
          have St := St'
          clear St'
          (try go_wp2_with fail)
          refine hK.out _ _ ?_ (fun hHeld2 => ?_)
          · (first | (with_reducible exact hSt.out _ _ _ St.out) | exact hSt.out _ _ _ T9.out.1 | exact hSt.out _ _ _ St.out)
          clear hK K hHeld1
          (try simp only [Act.put, List.setIfInBounds_toArray, List.set_cons_zero, List.set_cons_succ])
          refine wpAnyH_ready (rs := [9]) (by kernel_rfl) (by simp) ?_
          refine AllReadyH.cons (o := { dst := some 39, op := Go.Op.call { callee := Go.Callee.value (Go.Operand.func 85), args := #[Go.Operand.tmp 30, Go.Operand.tmp 38], argTypes := #[60, 27] }, type := 96, pos := "l13_end.go:36", after := #[{ on := 0, ground := Go.Ground.data }, { on := 8, ground := Go.Ground.data }, { on := 8, ground := Go.Ground.chain }], guard := none }) rfl (fun K hK => ?_) AllReadyH.nil
          go_simp
          rw [← HQ1.out]
          refine (HA.out _ (Nat.le_trans hbw St.out.size) St.out.en).mono ?_
          rintro en wz ⟨y, rfl, E3, F3⟩
          have St' := Lib.hid (St.out.add E3 F3)
          clear St E3 F3
          have St := St'
          clear St'
          first | (obtain ⟨z0, z1, z2, z3, z4⟩ := (St.out.fb _ rfl).1.five; have u0 := (St.out.fb _ rfl).1.frozen 0; have u1 := (St.out.fb _ rfl).1.frozen 1; have u2 := (St.out.fb _ rfl).1.frozen 2; have u3 := (St.out.fb _ rfl).1.frozen 3; have u4 := (St.out.fb _ rfl).1.frozen 4) | skip
          (try go_wp2_with fail)
          refine hK.out _ _ ?_ (fun hHeld3 => ?_)
          · (first | (with_reducible exact hSt.out _ _ _ St.out) | exact hSt.out _ _ _ T9.out.1 | exact hSt.out _ _ _ St.out)
          clear hK K hHeld2
          (try simp only [Act.put, List.setIfInBounds_toArray, List.set_cons_zero, List.set_cons_succ])
          refine wpAnyH_take (i := 10) (oi := { dst := some 29, op := Go.Op.move (Go.Operand.tmp 39), type := 96, pos := "l13_end.go:36", after := #[{ on := 9, ground := Go.Ground.data }], guard := none }) (v := ?_) rfl (by kernel_rfl) (by kernel_rfl) (by kernel_rfl) (fun _ _ _ h => h) (Or.inl ⟨by rfl, ?_⟩) hHeld3 ?_
          rotate_left
          · (intro w hSw; (try dsimp only at hSw); go_simp; (first | done | (with_reducible rfl) | (rw [if_neg (by omega)]) | (rw [if_neg (by simp only [ByteArray.size_append]; omega)])))
          (try simp only [Act.put, List.setIfInBounds_toArray, List.set_cons_zero, List.set_cons_succ])
          refine wpAnyH_take (i := 11) (oi := { dst := some 40, op := Go.Op.extract (Go.Operand.tmp 29) 0, type := 60, pos := "l13_end.go:36", after := #[{ on := 10, ground := Go.Ground.data }], guard := none }) (v := ?_) rfl (by kernel_rfl) (by kernel_rfl) (by kernel_rfl) (fun _ _ _ h => h) (Or.inl ⟨by rfl, ?_⟩) hHeld3 ?_
          rotate_left
          · (intro w hSw; (try dsimp only at hSw); go_simp; (first | done | (with_reducible rfl) | (rw [if_neg (by omega)]) | (rw [if_neg (by simp only [ByteArray.size_append]; omega)])))
          (try simp only [Act.put, List.setIfInBounds_toArray, List.set_cons_zero, List.set_cons_succ])
          refine wpAnyH_take (i := 12) (oi := { dst := some 41, op := Go.Op.extract (Go.Operand.tmp 29) 1, type := 4, pos := "l13_end.go:36", after := #[{ on := 10, ground := Go.Ground.data }, { on := 14, ground := Go.Ground.gcOnly Go.Departure.lateStores }], guard := none }) (v := ?_) rfl (by kernel_rfl) (by kernel_rfl) (by kernel_rfl) (fun _ _ _ h => h) (Or.inl ⟨by rfl, ?_⟩) hHeld3 ?_
          rotate_left
          · (intro w hSw; (try dsimp only at hSw); go_simp; (first | done | (with_reducible rfl) | (rw [if_neg (by omega)]) | (rw [if_neg (by simp only [ByteArray.size_append]; omega)])))
          (try simp only [Act.put, List.setIfInBounds_toArray, List.set_cons_zero, List.set_cons_succ])
          refine wpAnyH_ready (rs := [14]) (by kernel_rfl) (by simp) ?_
          refine AllReadyH.cons (o := { dst := none, op := Go.Op.store 60 (Go.Operand.tmp 9) (Go.Operand.tmp 40), type := 0, pos := "l13_end.go:36", after := #[{ on := 13, ground := Go.Ground.data }, { on := 11, ground := Go.Ground.data }, { on := 9, ground := Go.Ground.chain }, { on := 0, ground := Go.Ground.phase }, { on := 1, ground := Go.Ground.phase }, { on := 2, ground := Go.Ground.phase }, { on := 3, ground := Go.Ground.phase }, { on := 4, ground := Go.Ground.phase }, { on := 5, ground := Go.Ground.phase }, { on := 6, ground := Go.Ground.phase }, { on := 7, ground := Go.Ground.phase }, { on := 8, ground := Go.Ground.phase }, { on := 9, ground := Go.Ground.phase }, { on := 10, ground := Go.Ground.phase }, { on := 11, ground := Go.Ground.phase }, { on := 12, ground := Go.Ground.textOnly Go.Departure.lateStores }, { on := 13, ground := Go.Ground.phase }], guard := none }) rfl (fun K hK => ?_) AllReadyH.nil
          go_simp
          first | (have T9 : Hid (SpSt w (wz.alloc (.cells (engC y e3) 60)) base x e none (some (y, e3)) ∧ Has (wz.alloc (.cells (engC y e3) 60)) wz.heap.size 60 (engC y e3)) := ⟨Sb.out.grow (below_one _ _), Has.new _ _ _⟩) | (have T9 := Lib.hid (St.out.put (St.out.fb _ rfl).1 (St.out.fb _ rfl).2))
          (try go_wp2_with fail)
          refine hK.out _ _ ?_ (fun hHeld4 => ?_)
          · (first | (with_reducible exact hSt.out _ _ _ St.out) | exact hSt.out _ _ _ T9.out.1 | exact hSt.out _ _ _ St.out)
          clear hK K hHeld3
          (try simp only [Act.put, List.setIfInBounds_toArray, List.set_cons_zero, List.set_cons_succ])
          refine wpAnyH_take (i := 15) (oi := { dst := some 10, op := Go.Op.assign (Go.Operand.tmp 41), type := 4, pos := "l13_end.go:36", after := #[{ on := 12, ground := Go.Ground.data }, { on := 14, ground := Go.Ground.chain }, { on := 0, ground := Go.Ground.phase }, { on := 1, ground := Go.Ground.phase }, { on := 2, ground := Go.Ground.phase }, { on := 3, ground := Go.Ground.phase }, { on := 4, ground := Go.Ground.phase }, { on := 5, ground := Go.Ground.phase }, { on := 6, ground := Go.Ground.phase }, { on := 7, ground := Go.Ground.phase }, { on := 8, ground := Go.Ground.phase }, { on := 9, ground := Go.Ground.phase }, { on := 10, ground := Go.Ground.phase }, { on := 11, ground := Go.Ground.phase }, { on := 12, ground := Go.Ground.phase }, { on := 13, ground := Go.Ground.phase }, { on := 14, ground := Go.Ground.phase }], guard := none }) (v := ?_) rfl (by kernel_rfl) (by kernel_rfl) (by kernel_rfl) (fun _ _ _ h => h) (Or.inl ⟨by rfl, ?_⟩) hHeld4 ?_
          rotate_left
          · (intro w hSw; (try dsimp only at hSw); go_simp; (first | done | (with_reducible rfl) | (rw [if_neg (by omega)]) | (rw [if_neg (by simp only [ByteArray.size_append]; omega)])))
          (try simp only [Act.put, List.setIfInBounds_toArray, List.set_cons_zero, List.set_cons_succ])
          refine wpAnyH_done (by kernel_rfl) ?_ _
          clear hHeld4
          go_wp2_with fail
          go_meet
          exact ⟨_, rfl, _, T9.out.1, T9.out.2⟩
      · go_simp
        have Sb := St
        have St' := Lib.hid (St.out.box (by (try simp only [size_drew']); rfl))
        clear St
        have St := St'
        clear St'
        (try go_wp2_with fail)
        refine hK.out _ _ ?_ (fun hHeld1 => ?_)
        · (first | (with_reducible exact hSt.out _ _ _ St.out) | exact hSt.out _ _ _ T9.out.1 | exact hSt.out _ _ _ St.out)
        clear hK K hHeld0
        (try simp only [Act.put, List.setIfInBounds_toArray, List.set_cons_zero, List.set_cons_succ])
        refine wpAnyH_ready (rs := [8]) (by kernel_rfl) (by simp) ?_
        refine AllReadyH.cons (o := { dst := some 38, op := Go.Op.call { callee := Go.Callee.value (Go.Operand.func 97), args := #[Go.Operand.tmp 36, Go.Operand.tmp 37], argTypes := #[27, 3] }, type := 27, pos := "l13_end.go:36", after := #[{ on := 6, ground := Go.Ground.data }, { on := 7, ground := Go.Ground.data }], guard := none }) rfl (fun K hK => ?_) AllReadyH.nil
        go_simp
        refine (l2Back_any r (la : Int) _).mono ?_
        rintro en wy ⟨rfl, b2⟩
        have St' := Lib.hid (St.out.grow b2)
        clear St b2
        have St := St'
        clear St'
        (try go_wp2_with fail)
        refine hK.out _ _ ?_ (fun hHeld2 => ?_)
        · (first | (with_reducible exact hSt.out _ _ _ St.out) | exact hSt.out _ _ _ T9.out.1 | exact hSt.out _ _ _ St.out)
        clear hK K hHeld1
        (try simp only [Act.put, List.setIfInBounds_toArray, List.set_cons_zero, List.set_cons_succ])
        refine wpAnyH_ready (rs := [9]) (by kernel_rfl) (by simp) ?_
        refine AllReadyH.cons (o := { dst := some 39, op := Go.Op.call { callee := Go.Callee.value (Go.Operand.func 85), args := #[Go.Operand.tmp 30, Go.Operand.tmp 38], argTypes := #[60, 27] }, type := 96, pos := "l13_end.go:36", after := #[{ on := 0, ground := Go.Ground.data }, { on := 8, ground := Go.Ground.data }, { on := 8, ground := Go.Ground.chain }], guard := none }) rfl (fun K hK => ?_) AllReadyH.nil
        go_simp
        rw [← HQ1.out]
        refine (HA.out _ (Nat.le_trans hbw St.out.size) St.out.en).mono ?_
        rintro en wz ⟨y, rfl, E3, F3⟩
        have St' := Lib.hid (St.out.add E3 F3)
        clear St E3 F3
        have St := St'
        clear St'
        first | (obtain ⟨z0, z1, z2, z3, z4⟩ := (St.out.fb _ rfl).1.five; have u0 := (St.out.fb _ rfl).1.frozen 0; have u1 := (St.out.fb _ rfl).1.frozen 1; have u2 := (St.out.fb _ rfl).1.frozen 2; have u3 := (St.out.fb _ rfl).1.frozen 3; have u4 := (St.out.fb _ rfl).1.frozen 4) | skip
        (try go_wp2_with fail)
        refine hK.out _ _ ?_ (fun hHeld3 => ?_)
        · (first | (with_reducible exact hSt.out _ _ _ St.out) | exact hSt.out _ _ _ T9.out.1 | exact hSt.out _ _ _ St.out)
        clear hK K hHeld2
        (try simp only [Act.put, List.setIfInBounds_toArray, List.set_cons_zero, List.set_cons_succ])
        refine wpAnyH_take (i := 10) (oi := { dst := some 29, op := Go.Op.move (Go.Operand.tmp 39), type := 96, pos := "l13_end.go:36", after := #[{ on := 9, ground := Go.Ground.data }], guard := none }) (v := ?_) rfl (by kernel_rfl) (by kernel_rfl) (by kernel_rfl) (fun _ _ _ h => h) (Or.inl ⟨by rfl, ?_⟩) hHeld3 ?_
        rotate_left
        · (intro w hSw; (try dsimp only at hSw); go_simp; (first | done | (with_reducible rfl) | (rw [if_neg (by omega)]) | (rw [if_neg (by simp only [ByteArray.size_append]; omega)])))
        (try simp only [Act.put, List.setIfInBounds_toArray, List.set_cons_zero, List.set_cons_succ])
        refine wpAnyH_take (i := 11) (oi := { dst := some 40, op := Go.Op.extract (Go.Operand.tmp 29) 0, type := 60, pos := "l13_end.go:36", after := #[{ on := 10, ground := Go.Ground.data }], guard := none }) (v := ?_) rfl (by kernel_rfl) (by kernel_rfl) (by kernel_rfl) (fun _ _ _ h => h) (Or.inl ⟨by rfl, ?_⟩) hHeld3 ?_
        rotate_left
        · (intro w hSw; (try dsimp only at hSw); go_simp; (first | done | (with_reducible rfl) | (rw [if_neg (by omega)]) | (rw [if_neg (by simp only [ByteArray.size_append]; omega)])))
        (try simp only [Act.put, List.setIfInBounds_toArray, List.set_cons_zero, List.set_cons_succ])
        refine wpAnyH_take (i := 12) (oi := { dst := some 41, op := Go.Op.extract (Go.Operand.tmp 29) 1, type := 4, pos := "l13_end.go:36", after := #[{ on := 10, ground := Go.Ground.data }, { on := 14, ground := Go.Ground.gcOnly Go.Departure.lateStores }], guard := none }) (v := ?_) rfl (by kernel_rfl) (by kernel_rfl) (by kernel_rfl) (fun _ _ _ h => h) (Or.inl ⟨by rfl, ?_⟩) hHeld3 ?_
        rotate_left
        · (intro w hSw; (try dsimp only at hSw); go_simp; (first | done | (with_reducible rfl) | (rw [if_neg (by omega)]) | (rw [if_neg (by simp only [ByteArray.size_append]; omega)])))
        (try simp only [Act.put, List.setIfInBounds_toArray, List.set_cons_zero, List.set_cons_succ])
        refine wpAnyH_ready (rs := [14]) (by kernel_rfl) (by simp) ?_
        refine AllReadyH.cons (o := { dst := none, op := Go.Op.store 60 (Go.Operand.tmp 9) (Go.Operand.tmp 40), type := 0, pos := "l13_end.go:36", after := #[{ on := 13, ground := Go.Ground.data }, { on := 11, ground := Go.Ground.data }, { on := 9, ground := Go.Ground.chain }, { on := 0, ground := Go.Ground.phase }, { on := 1, ground := Go.Ground.phase }, { on := 2, ground := Go.Ground.phase }, { on := 3, ground := Go.Ground.phase }, { on := 4, ground := Go.Ground.phase }, { on := 5, ground := Go.Ground.phase }, { on := 6, ground := Go.Ground.phase }, { on := 7, ground := Go.Ground.phase }, { on := 8, ground := Go.Ground.phase }, { on := 9, ground := Go.Ground.phase }, { on := 10, ground := Go.Ground.phase }, { on := 11, ground := Go.Ground.phase }, { on := 12, ground := Go.Ground.textOnly Go.Departure.lateStores }, { on := 13, ground := Go.Ground.phase }], guard := none }) rfl (fun K hK => ?_) AllReadyH.nil
        go_simp
        first | (have T9 : Hid (SpSt w (wz.alloc (.cells (engC y e3) 60)) base x e none (some (y, e3)) ∧ Has (wz.alloc (.cells (engC y e3) 60)) wz.heap.size 60 (engC y e3)) := ⟨Sb.out.grow (below_one _ _), Has.new _ _ _⟩) | (have T9 := Lib.hid (St.out.put (St.out.fb _ rfl).1 (St.out.fb _ rfl).2))
        (try go_wp2_with fail)
        refine hK.out _ _ ?_ (fun hHeld4 => ?_)
        · (first | (with_reducible exact hSt.out _ _ _ St.out) | exact hSt.out _ _ _ T9.out.1 | exact hSt.out _ _ _ St.out)
        clear hK K hHeld3
        (try simp only [Act.put, List.setIfInBounds_toArray, List.set_cons_zero, List.set_cons_succ])
        refine wpAnyH_take (i := 15) (oi := { dst := some 10, op := Go.Op.assign (Go.Operand.tmp 41), type := 4, pos := "l13_end.go:36", after := #[{ on := 12, ground := Go.Ground.data }, { on := 14, ground := Go.Ground.chain }, { on := 0, ground := Go.Ground.phase }, { on := 1, ground := Go.Ground.phase }, { on := 2, ground := Go.Ground.phase }, { on := 3, ground := Go.Ground.phase }, { on := 4, ground := Go.Ground.phase }, { on := 5, ground := Go.Ground.phase }, { on := 6, ground := Go.Ground.phase }, { on := 7, ground := Go.Ground.phase }, { on := 8, ground := Go.Ground.phase }, { on := 9, ground := Go.Ground.phase }, { on := 10, ground := Go.Ground.phase }, { on := 11, ground := Go.Ground.phase }, { on := 12, ground := Go.Ground.phase }, { on := 13, ground := Go.Ground.phase }, { on := 14, ground := Go.Ground.phase }], guard := none }) (v := ?_) rfl (by kernel_rfl) (by kernel_rfl) (by kernel_rfl) (fun _ _ _ h => h) (Or.inl ⟨by rfl, ?_⟩) hHeld4 ?_
        rotate_left
        · (intro w hSw; (try dsimp only at hSw); go_simp; (first | done | (with_reducible rfl) | (rw [if_neg (by omega)]) | (rw [if_neg (by simp only [ByteArray.size_append]; omega)])))
        (try simp only [Act.put, List.setIfInBounds_toArray, List.set_cons_zero, List.set_cons_succ])
        refine wpAnyH_done (by kernel_rfl) ?_ _
        clear hHeld4
        go_wp2_with fail
        go_meet
        exact ⟨_, rfl, _, T9.out.1, T9.out.2⟩
    case rest =>
      obtain ⟨b9, rfl, y, hs4, hx9⟩ := hcut
      have S4 := Lib.hid hs4
      have X9 := Lib.hid hx9
      have l4 := hs4.b4.lt
      clear hs4 hx9
      obtain ⟨c0, c1, c2, c3, c4⟩ := X9.out.five
      obtain ⟨y0, y1, y2, y3, y4⟩ := S4.out.b4.five
      have t0 := S4.out.b4.frozen 0
      have t1 := S4.out.b4.frozen 1
      have t2 := S4.out.b4.frozen 2
      have t3 := S4.out.b4.frozen 3
      have t4 := S4.out.b4.frozen 4
      go_wp2
      refine bodyPost_ret (v := engV y e3) (by simp [results, Try.results88, go_sem, y0, y1, y2, y3, y4]) rfl ⟨y, by rw [HR.out], ?_, S4.out.fr.put5E (by omega) y e3⟩
      rw [HR.out]
      exact S4.out.en.box S4.out.b4 (by simp) (fun i _ hn => put5E_far hn)
end Go.Proofs.Ytejbmjdipfcblaa.Base
