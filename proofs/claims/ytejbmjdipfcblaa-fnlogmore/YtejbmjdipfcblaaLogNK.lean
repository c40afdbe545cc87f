/-
  Contract of the program's lastNumbersOf. Conditions: the slice leads to records.
-/
import Derived.Test.YtejbmjdipfcblaaLogsK
import Derived.Deep.DeepCutAuto
namespace Go.Proofs.Ytejbmjdipfcblaa.Base
open Go.RowKit

/-- the last record of one in a log; 0 of what is none -/
def lastB (rs : List R) (t : Int) : Int := if logB rs then (lastN rs t rs.length : Int) else 0
/-- what lastNumbersOf leaves -/
def LastOf (rs : List R) (w : World) (e : Ending) (w' : World) : Prop :=
  e = .returned (.tuple #[.agg #[.int .i64 0, .int .i64 (lastB rs 1), .int .i64 (lastB rs 2), .int .i64 (lastB rs 3)], .bool (logB rs)]) ∧ Below w.heap.size w w'

/-- the memory of lastNumbersOf in a round: its result, its table, the record at hand, the records -/
structure StL (w : World) (g o : Nat) (rs : List R) (rb : Nat) (r : R) (f : Nat → Int) (w1 : World) : Prop where
  below : Below w.heap.size w w1
  gl : g < w.heap.size
  lo : w.heap.size + 2 ≤ rb
  res : Has w1 w.heap.size 44 #[.int .i64 0, .int .i64 0, .int .i64 0, .int .i64 0]
  tab : TabF w1 (w.heap.size + 1) f
  wr : Wr w1 (w.heap.size + 1) 0 4
  box : Has w1 rb 27 #[.int .i64 r.k, .int .i64 r.t, .int .i64 r.p, .int .i64 r.s, .int .i64 r.o, .int .i64 r.n, .int .i64 r.v, .int .i64 r.x]
  rd : RdR w1 g o rs
section
variable {w w1 w2 : World} {g o rb : Nat} {rs : List R} {r : R} {f : Nat → Int}
theorem StL.next (h : StL w g o rs rb r f w1) (b : Below w1.heap.size w1 w2) : StL w g o rs rb r f w2 := by
  have l1 := h.box.lt
  have l2 := h.lo
  have l3 := h.gl
  exact ⟨h.below.trans (b.mono (by omega)), h.gl, h.lo, h.res.below b (by omega), h.tab.keep (b.block _ (by omega)), h.wr.below b (by omega), h.box.below b (by omega), h.rd.below b (by omega)⟩
theorem StL.drew (h : StL w g o rs rb r f w1) : StL w g o rs rb r f w1.drew := h.next (Below.refl _ _).drew
theorem StL.set (h : StL w g o rs rb r f w1) (t : Nat) (ht : t < 4) (u : Int) : StL w g o rs rb r (upd f t u) (w1.setCell ⟨w.heap.size + 1, t, none⟩ (.int .i64 u)) := by
  have l2 := h.lo
  have l3 := h.gl
  refine ⟨h.below.setCell (by simp) _, h.gl, h.lo, h.res.far (by simp) _, h.tab.set t ht u, h.wr.set _ _, h.box.far (by simp; omega) _, h.rd.keep ?_⟩
  exact Below.heap_setCell _ _ _ _ (by simp; omega)
theorem StL.set4 (h : StL w g o rs rb r f w1) (f' : Nat → Int) : StL w g o rs rb r f' ((((w1.setCell ⟨w.heap.size + 1, 0, none⟩ (.int .i64 (f' 0))).setCell ⟨w.heap.size + 1, 1, none⟩ (.int .i64 (f' 1))).setCell ⟨w.heap.size + 1, 2, none⟩ (.int .i64 (f' 2))).setCell ⟨w.heap.size + 1, 3, none⟩ (.int .i64 (f' 3))) := by
  have h4 := (((h.set 0 (by omega) (f' 0)).set 1 (by omega) (f' 1)).set 2 (by omega) (f' 2)).set 3 (by omega) (f' 3)
  exact ⟨h4.below, h4.gl, h4.lo, h4.res, h.tab.four f', h4.wr, h4.box, h4.rd⟩
end

/-- the table behind one record more -/
theorem tab_next (rs : List R) (k t : Nat) (r : R) (h : recAt rs k = r) (ht : r.t = (t : Int)) (j : Nat) :
    aftF (fun j => (lastN rs (j : Int) k : Int)) t r ((k : Int) + 1) j = (lastN rs (j : Int) (k + 1) : Int) := by
  subst h
  rw [show lastN rs (j : Int) (k + 1) = if (recAt rs k).t = (j : Int) then (if endR (recAt rs k) = true then 0 else k + 1) else lastN rs (j : Int) k from rfl]
  unfold aftF
  by_cases e : j = t
  · subst e
    rw [if_pos ht]
    cases he : endR (recAt rs k) <;> simp [upd]
  · have : ¬ (recAt rs k).t = (j : Int) := by omega
    rw [if_neg this]
    simp [upd, e]

theorem lastN_zero (rs : List R) (t : Int) (ht : t < 1 ∨ 3 < t) : ∀ n, (∀ j, j < n → stepB rs j = true) → lastN rs t n = 0
  | 0, _ => rfl
  | n + 1, h => by
    have hs := h n (by omega)
    unfold stepB at hs
    rw [Bool.and_eq_true] at hs
    have hb := okR_tx _ hs.1
    unfold lastN
    rw [if_neg (by omega)]
    exact lastN_zero rs t ht n (fun j hj => h j (by omega))

theorem step_next (rs : List R) (k : Nat) (r : R) :
    (decide (r.x ≤ (k : Int)) && ((r.x == 0) || ((recAt rs (r.x - 1).toNat).t == r.t))) = nextB rs k r := by
  unfold nextB
  by_cases h : r.x = 0
  · have : decide (r.x ≤ (k : Int)) = true := by rw [decide_eq_true_eq]; omega
    rw [this, h]
    simp
  · have : (r.x == 0) = false := by simpa using h
    rw [this]
    simp

set_option maxHeartbeats 4000000 in
theorem lastNumbersOf_any (rs : List R) (a : Option Addr) (cap B : Nat) (w : World) (hB : B ≤ w.heap.size) (hz : Recs w B a rs) (hc : rs.length ≤ cap) (mx : rs.length ≤ 1000000000) :
    Calls Try.prog 31 #[.slice a rs.length cap] w (LastOf rs w) := by
  have Hz := Lib.hid hz
  clear hz
  by_cases hl : rs.length ≤ 150
  · go_enter Try.func31, Try.ntmps31
    go_wp2
    go_loopw [13] (fun i w1 => ∃ k : Nat, k ≤ rs.length ∧ i = .int .i64 k ∧ Below w.heap.size w w1 ∧ w.heap.size + 2 ≤ w1.heap.size ∧ Has w1 w.heap.size 44 #[.int .i64 0, .int .i64 0, .int .i64 0, .int .i64 0] ∧ TabF w1 (w.heap.size + 1) (fun j => (lastN rs (j : Int) k : Int)) ∧ Wr w1 (w.heap.size + 1) 0 4 ∧ ∀ j, j < k → stepB rs j = true) (fun i _ => rs.length - (intOf i).toNat)
    case atStart =>
      have q1 := (Has.new w 44 #[.int .i64 0, .int .i64 0, .int .i64 0, .int .i64 0])
      have q2 := (Has.new (w.alloc (.cells #[.int .i64 0, .int .i64 0, .int .i64 0, .int .i64 0] 44)) 44 #[.int .i64 0, .int .i64 0, .int .i64 0, .int .i64 0])
      rw [World.size_alloc] at q2
      refine ⟨0, Nat.zero_le _, rfl, below_two _ _ _, by simp, q1.alloc _, fun t ht => ?_, q2.wr _ _, fun j hj => absurd hj (by omega)⟩
      rw [q2.cell]
      match t, ht with
      | 0, _ => rfl
      | 1, _ => rfl
      | 2, _ => rfl
      | 3, _ => rfl
    case round =>
      obtain ⟨k, hk, rfl, hb, hs, hh, ht, hw, hgood⟩ := hrel
      have Hg := Lib.hid hgood
      have Hb := Lib.hid hb
      have Hh := Lib.hid hh
      have Ht := Lib.hid ht
      have Hw := Lib.hid hw
      clear hgood hb hh ht hw
      by_cases hlt : k < rs.length
      · obtain ⟨g, o, rfl, hgB, hr⟩ := Hz.out (by omega)
        have hgw : g < w.heap.size := by omega
        have Hr := Lib.hid (hr.below (Hb.out.mono hB) hgB)
        clear hr
        have hA := Hr.out k hlt
        obtain ⟨r, hrk⟩ : ∃ r, recAt rs k = r := ⟨_, rfl⟩
        rw [hrk] at hA
        obtain ⟨l, hl'⟩ : ∃ l, lastN rs r.t k = l := ⟨_, rfl⟩
        have Hp := Lib.hid (step_parts rs k r l hrk hl')
        have Hl := Lib.hid hl'
        have Hk := Lib.hid hrk
        clear hrk hl'
        obtain ⟨c0, c1, c2, c3, c4, c5, c6, c7⟩ := hA
        have hkc : k ≤ cap := by omega
        have S1 : Hid (StL w g o rs wr.heap.size r (fun j => (lastN rs (j : Int) k : Int)) (wr.alloc (.cells #[.int .i64 r.k, .int .i64 r.t, .int .i64 r.p, .int .i64 r.s, .int .i64 r.o, .int .i64 r.n, .int .i64 r.v, .int .i64 r.x] 27))) :=
          ⟨Hb.out.alloc (by omega) _, hgw, hs, Hh.out.alloc _, Ht.out.keep (Below.heap_alloc _ _ _ (by omega)), Hw.out.below (below_one _ _) (by omega), Has.new _ _ _, Hr.out.keep (Below.heap_alloc _ _ _ (by omega))⟩
        clear Hb Hh Ht Hw Hr
        go_upto_region 7 with (fail)
        clear c0 c1 c2 c3 c4 c5 c6 c7
        generalize (wr.alloc (.cells #[.int .i64 r.k, .int .i64 r.t, .int .i64 r.p, .int .i64 r.s, .int .i64 r.o, .int .i64 r.n, .int .i64 r.v, .int .i64 r.x] 27)) = w1 at *
        obtain ⟨c0, c1, c2, c3, c4, c5, c6, c7⟩ := eight S1.out.box
        cases hok : okR r
        · have Hok := Lib.hid hok
          have Hx : Hid (stepB rs k = false) := by
            show stepB rs k = false
            rw [Hp.out, hok]
            rfl
          clear hok
          refine wp_region_held_drew (S := (fun w' => w'.cell? ⟨wr.heap.size, 0, none⟩ = some (.int .i64 r.k) ∧ w'.cell? ⟨wr.heap.size, 1, none⟩ = some (.int .i64 r.t) ∧ w'.cell? ⟨wr.heap.size, 2, none⟩ = some (.int .i64 r.p) ∧ w'.cell? ⟨wr.heap.size, 3, none⟩ = some (.int .i64 r.s) ∧ w'.cell? ⟨wr.heap.size, 4, none⟩ = some (.int .i64 r.o) ∧ w'.cell? ⟨wr.heap.size, 5, none⟩ = some (.int .i64 r.n) ∧ w'.cell? ⟨wr.heap.size, 6, none⟩ = some (.int .i64 r.v) ∧ w'.cell? ⟨wr.heap.size, 7, none⟩ = some (.int .i64 r.x))) (by kernel_rfl) ?_ (fun hHeld0 => ?_)
          · (first | (with_reducible exact ⟨c0, c1, c2, c3, c4, c5, c6, c7⟩) | (with_reducible exact ⟨d0, d1, d2, d3, d4, d5, d6, d7⟩) | (with_reducible exact ⟨e0, e1, e2, e3, e4, e5, e6, e7⟩) | exact ⟨c0, c1, c2, c3, c4, c5, c6, c7⟩)
          refine wpAnyH_take (i := 0) (oi := { dst := some 18, op := Go.Op.load 27 (Go.Operand.tmp 6), type := 27, pos := "l3_log.go:70", after := #[], guard := none }) (v := ?_) rfl (by kernel_rfl) (by kernel_rfl) (by kernel_rfl) (fun _ _ _ h => h) (Or.inl ⟨by rfl, ?_⟩) hHeld0 ?_
          rotate_left
          · (intro w hSw; (try dsimp only at hSw); go_simp; (first | done | (with_reducible rfl) | (rw [if_neg (by omega)]) | (rw [if_neg (by simp only [ByteArray.size_append]; omega)])))
          (try simp only [Act.put, List.setIfInBounds_toArray, List.set_cons_zero, List.set_cons_succ])
          refine wpAnyH_ready (rs := [1]) (by kernel_rfl) (by simp) ?_
          refine AllReadyH.cons (o := { dst := some 19, op := Go.Op.call { callee := Go.Callee.value (Go.Operand.func 40), args := #[Go.Operand.tmp 18], argTypes := #[27] }, type := 4, pos := "l3_log.go:70", after := #[{ on := 0, ground := Go.Ground.data }], guard := none }) rfl (fun K hK => ?_) AllReadyH.nil
          go_simp
          (with_reducible refine (recOk_any r _).mono ?_)
          rintro e w2 ⟨rfl, b2⟩
          rw [Hok.out]
          have S2 := Lib.hid (S1.out.drew.next b2)
          obtain ⟨d0, d1, d2, d3, d4, d5, d6, d7⟩ := eight S2.out.box
          clear b2
          (try go_wp2_with fail)
          refine hK.out _ _ ?_ (fun hHeld1 => ?_)
          · (first | (with_reducible exact ⟨c0, c1, c2, c3, c4, c5, c6, c7⟩) | (with_reducible exact ⟨d0, d1, d2, d3, d4, d5, d6, d7⟩) | (with_reducible exact ⟨e0, e1, e2, e3, e4, e5, e6, e7⟩) | exact ⟨c0, c1, c2, c3, c4, c5, c6, c7⟩)
          clear hK K hHeld0
          (try simp only [Act.put, List.setIfInBounds_toArray, List.set_cons_zero, List.set_cons_succ])
          refine wpAnyH_take (i := 2) (oi := { dst := some 20, op := Go.Op.unOp Go.UnOp.not 4 (Go.Operand.tmp 19), type := 4, pos := "l3_log.go:70", after := #[{ on := 1, ground := Go.Ground.data }], guard := none }) (v := ?_) rfl (by kernel_rfl) (by kernel_rfl) (by kernel_rfl) (fun _ _ _ h => h) (Or.inl ⟨by rfl, ?_⟩) hHeld1 ?_
          rotate_left
          · (intro w hSw; (try dsimp only at hSw); go_simp; (first | done | (with_reducible rfl) | (rw [if_neg (by omega)]) | (rw [if_neg (by simp only [ByteArray.size_append]; omega)])))
          (try simp only [Act.put, List.setIfInBounds_toArray, List.set_cons_zero, List.set_cons_succ])
          refine wpAnyH_take (i := 3) (oi := { dst := some 21, op := Go.Op.move (Go.Operand.tmp 20), type := 4, pos := "l3_log.go:70", after := #[{ on := 2, ground := Go.Ground.data }, { on := 1, ground := Go.Ground.chain }], guard := none }) (v := ?_) rfl (by kernel_rfl) (by kernel_rfl) (by kernel_rfl) (fun _ _ _ h => h) (Or.inl ⟨by rfl, ?_⟩) hHeld1 ?_
          rotate_left
          · (intro w hSw; (try dsimp only at hSw); go_simp; (first | done | (with_reducible rfl) | (rw [if_neg (by omega)]) | (rw [if_neg (by simp only [ByteArray.size_append]; omega)])))
          (try simp only [Act.put, List.setIfInBounds_toArray, List.set_cons_zero, List.set_cons_succ])
          refine skipH (i := 4) (oi := { dst := some 22, op := Go.Op.fieldAddr 27 (Go.Operand.tmp 6) 6, type := 0, pos := "l3_log.go:70", after := #[{ on := 3, ground := Go.Ground.guard }], guard := some (3, false) }) rfl (by kernel_rfl) (by kernel_rfl) (by kernel_rfl) (fun _ _ _ h => h) (by rfl) hHeld1 ?_
          (try simp only [Act.put, List.setIfInBounds_toArray, List.set_cons_zero, List.set_cons_succ])
          refine skipH (i := 5) (oi := { dst := some 23, op := Go.Op.load 3 (Go.Operand.tmp 22), type := 3, pos := "l3_log.go:70", after := #[{ on := 4, ground := Go.Ground.data }, { on := 3, ground := Go.Ground.guard }], guard := some (3, false) }) rfl (by kernel_rfl) (by kernel_rfl) (by kernel_rfl) (fun _ _ _ h => h) (by rfl) hHeld1 ?_
          (try simp only [Act.put, List.setIfInBounds_toArray, List.set_cons_zero, List.set_cons_succ])
          refine skipH (i := 6) (oi := { dst := some 24, op := Go.Op.fieldAddr 27 (Go.Operand.tmp 6) 1, type := 0, pos := "l3_log.go:70", after := #[{ on := 3, ground := Go.Ground.guard }], guard := some (3, false) }) rfl (by kernel_rfl) (by kernel_rfl) (by kernel_rfl) (fun _ _ _ h => h) (by rfl) hHeld1 ?_
          (try simp only [Act.put, List.setIfInBounds_toArray, List.set_cons_zero, List.set_cons_succ])
          refine skipH (i := 7) (oi := { dst := some 25, op := Go.Op.load 3 (Go.Operand.tmp 24), type := 3, pos := "l3_log.go:70", after := #[{ on := 6, ground := Go.Ground.data }, { on := 3, ground := Go.Ground.guard }], guard := some (3, false) }) rfl (by kernel_rfl) (by kernel_rfl) (by kernel_rfl) (fun _ _ _ h => h) (by rfl) hHeld1 ?_
          (try simp only [Act.put, List.setIfInBounds_toArray, List.set_cons_zero, List.set_cons_succ])
          refine skipH (i := 8) (oi := { dst := some 26, op := Go.Op.indexAddr 44 (Go.Operand.tmp 4) (Go.Operand.tmp 25), type := 0, pos := "l3_log.go:70", after := #[{ on := 7, ground := Go.Ground.data }, { on := 3, ground := Go.Ground.guard }], guard := some (3, false) }) rfl (by kernel_rfl) (by kernel_rfl) (by kernel_rfl) (fun _ _ _ h => h) (by rfl) hHeld1 ?_
          (try simp only [Act.put, List.setIfInBounds_toArray, List.set_cons_zero, List.set_cons_succ])
          refine skipH (i := 9) (oi := { dst := some 27, op := Go.Op.load 3 (Go.Operand.tmp 26), type := 3, pos := "l3_log.go:70", after := #[{ on := 8, ground := Go.Ground.data }, { on := 3, ground := Go.Ground.guard }], guard := some (3, false) }) rfl (by kernel_rfl) (by kernel_rfl) (by kernel_rfl) (fun _ _ _ h => h) (by rfl) hHeld1 ?_
          (try simp only [Act.put, List.setIfInBounds_toArray, List.set_cons_zero, List.set_cons_succ])
          refine skipH (i := 10) (oi := { dst := some 28, op := Go.Op.binOp Go.BinOp.neq 3 (Go.Operand.tmp 23) (Go.Operand.tmp 27) 3, type := 4, pos := "l3_log.go:70", after := #[{ on := 5, ground := Go.Ground.data }, { on := 9, ground := Go.Ground.data }, { on := 3, ground := Go.Ground.guard }], guard := some (3, false) }) rfl (by kernel_rfl) (by kernel_rfl) (by kernel_rfl) (fun _ _ _ h => h) (by rfl) hHeld1 ?_
          (try simp only [Act.put, List.setIfInBounds_toArray, List.set_cons_zero, List.set_cons_succ])
          refine wpAnyH_take (i := 11) (oi := { dst := some 29, op := Go.Op.pick (Go.Operand.tmp 21) (Go.Operand.const (Go.Value.bool true)) (Go.Operand.tmp 28), type := 4, pos := "l3_log.go:70", after := #[{ on := 3, ground := Go.Ground.data }, { on := 10, ground := Go.Ground.data }], guard := none }) (v := ?_) rfl (by kernel_rfl) (by kernel_rfl) (by kernel_rfl) (fun _ _ _ h => h) (Or.inl ⟨by rfl, ?_⟩) hHeld1 ?_
          rotate_left
          · (intro w hSw; (try dsimp only at hSw); go_simp; (first | done | (with_reducible rfl) | (rw [if_neg (by omega)]) | (rw [if_neg (by simp only [ByteArray.size_append]; omega)])))
          (try simp only [Act.put, List.setIfInBounds_toArray, List.set_cons_zero, List.set_cons_succ])
          refine wpAnyH_take (i := 12) (oi := { dst := some 30, op := Go.Op.move (Go.Operand.tmp 29), type := 4, pos := "l3_log.go:70", after := #[{ on := 11, ground := Go.Ground.data }, { on := 3, ground := Go.Ground.chain }], guard := none }) (v := ?_) rfl (by kernel_rfl) (by kernel_rfl) (by kernel_rfl) (fun _ _ _ h => h) (Or.inl ⟨by rfl, ?_⟩) hHeld1 ?_
          rotate_left
          · (intro w hSw; (try dsimp only at hSw); go_simp; (first | done | (with_reducible rfl) | (rw [if_neg (by omega)]) | (rw [if_neg (by simp only [ByteArray.size_append]; omega)])))
          (try simp only [Act.put, List.setIfInBounds_toArray, List.set_cons_zero, List.set_cons_succ])
          refine skipH (i := 13) (oi := { dst := some 31, op := Go.Op.move (Go.Operand.tmp 0), type := 23, pos := "l3_log.go:70", after := #[{ on := 12, ground := Go.Ground.guard }], guard := some (12, false) }) rfl (by kernel_rfl) (by kernel_rfl) (by kernel_rfl) (fun _ _ _ h => h) (by rfl) hHeld1 ?_
          (try simp only [Act.put, List.setIfInBounds_toArray, List.set_cons_zero, List.set_cons_succ])
          refine skipH (i := 14) (oi := { dst := some 32, op := Go.Op.move (Go.Operand.tmp 5), type := 3, pos := "l3_log.go:70", after := #[{ on := 12, ground := Go.Ground.guard }], guard := some (12, false) }) rfl (by kernel_rfl) (by kernel_rfl) (by kernel_rfl) (fun _ _ _ h => h) (by rfl) hHeld1 ?_
          (try simp only [Act.put, List.setIfInBounds_toArray, List.set_cons_zero, List.set_cons_succ])
          refine skipH (i := 15) (oi := { dst := some 33, op := Go.Op.slice 23 (Go.Operand.tmp 31) none (some (Go.Operand.tmp 32)) none, type := 23, pos := "l3_log.go:70", after := #[{ on := 13, ground := Go.Ground.data }, { on := 14, ground := Go.Ground.data }, { on := 12, ground := Go.Ground.guard }], guard := some (12, false) }) rfl (by kernel_rfl) (by kernel_rfl) (by kernel_rfl) (fun _ _ _ h => h) (by rfl) hHeld1 ?_
          (try simp only [Act.put, List.setIfInBounds_toArray, List.set_cons_zero, List.set_cons_succ])
          refine skipH (i := 16) (oi := { dst := some 34, op := Go.Op.load 27 (Go.Operand.tmp 6), type := 27, pos := "l3_log.go:70", after := #[{ on := 12, ground := Go.Ground.guard }], guard := some (12, false) }) rfl (by kernel_rfl) (by kernel_rfl) (by kernel_rfl) (fun _ _ _ h => h) (by rfl) hHeld1 ?_
          (try simp only [Act.put, List.setIfInBounds_toArray, List.set_cons_zero, List.set_cons_succ])
          refine skipH (i := 17) (oi := { dst := some 35, op := Go.Op.call { callee := Go.Callee.value (Go.Operand.func 41), args := #[Go.Operand.tmp 33, Go.Operand.tmp 34], argTypes := #[23, 27] }, type := 4, pos := "l3_log.go:70", after := #[{ on := 15, ground := Go.Ground.data }, { on := 16, ground := Go.Ground.data }, { on := 12, ground := Go.Ground.chain }, { on := 12, ground := Go.Ground.guard }], guard := some (12, false) }) rfl (by kernel_rfl) (by kernel_rfl) (by kernel_rfl) (fun _ _ _ h => h) (by rfl) hHeld1 ?_
          (try simp only [Act.put, List.setIfInBounds_toArray, List.set_cons_zero, List.set_cons_succ])
          refine skipH (i := 18) (oi := { dst := some 36, op := Go.Op.unOp Go.UnOp.not 4 (Go.Operand.tmp 35), type := 4, pos := "l3_log.go:70", after := #[{ on := 17, ground := Go.Ground.data }, { on := 12, ground := Go.Ground.guard }], guard := some (12, false) }) rfl (by kernel_rfl) (by kernel_rfl) (by kernel_rfl) (fun _ _ _ h => h) (by rfl) hHeld1 ?_
          (try simp only [Act.put, List.setIfInBounds_toArray, List.set_cons_zero, List.set_cons_succ])
          refine wpAnyH_take (i := 19) (oi := { dst := some 37, op := Go.Op.pick (Go.Operand.tmp 30) (Go.Operand.const (Go.Value.bool true)) (Go.Operand.tmp 36), type := 4, pos := "l3_log.go:70", after := #[{ on := 12, ground := Go.Ground.data }, { on := 18, ground := Go.Ground.data }], guard := none }) (v := ?_) rfl (by kernel_rfl) (by kernel_rfl) (by kernel_rfl) (fun _ _ _ h => h) (Or.inl ⟨by rfl, ?_⟩) hHeld1 ?_
          rotate_left
          · (intro w hSw; (try dsimp only at hSw); go_simp; (first | done | (with_reducible rfl) | (rw [if_neg (by omega)]) | (rw [if_neg (by simp only [ByteArray.size_append]; omega)])))
          (try simp only [Act.put, List.setIfInBounds_toArray, List.set_cons_zero, List.set_cons_succ])
          refine wpAnyH_done (by kernel_rfl) ?_ _
          clear hHeld1
          have Hbad := Lib.hid (logB_bad rs k hlt Hx.out)
          obtain ⟨r0, r1, r2, r3⟩ := four S2.out.res
          have f0 := S2.out.res.frozen 0
          have f1 := S2.out.res.frozen 1
          have f2 := S2.out.res.frozen 2
          have f3 := S2.out.res.frozen 3
          go_wp2
          refine bodyPost_ret (v := .tuple #[.agg #[.int .i64 0, .int .i64 0, .int .i64 0, .int .i64 0], .bool false]) (by simp [results, Try.results31, go_sem, r0, r1, r2, r3]) rfl ⟨by simp [lastB, Hbad.out], ?_⟩
          exact (((S2.out.below.setCell (by simp) _).setCell (by simp) _).setCell (by simp) _).setCell (by simp) _
        · obtain ⟨zk, zt, zp, zs, zo, zn, zv, zx⟩ := r
          have htx := okR_tx _ hok
          obtain ⟨x0, x1⟩ := okR_next _ hok
          simp only at htx x0 x1
          obtain ⟨t, rfl⟩ : ∃ t : Nat, zt = (t : Int) := ⟨zt.toNat, by omega⟩
          have ht4 : t < 4 := by omega
          have ht4' : (t : Int) < 4 := by omega
          have h1t : 1 ≤ t := by omega
          have h3t : t ≤ 3 := by omega
          have Hok := Lib.hid hok
          clear hok htx
          have ct : w1.cell? ⟨w.heap.size + 1, t, none⟩ = some (.int .i64 (l : Int)) := by rw [← Hl.out]; exact S1.out.tab t ht4
          by_cases hv : zv = (l : Int)
          · have bv : (zv != (l : Int)) = false := by simp [hv]
            cases hn : nextB rs k ⟨zk, (t : Int), zp, zs, zo, zn, zv, zx⟩
            · have Hn := Lib.hid hn
              have Hx : Hid (stepB rs k = false) := by
                show stepB rs k = false
                rw [Hp.out, step_next]
                simp [hn]
              clear hn hv
              refine wp_region_held_drew (S := (fun w' => w'.cell? ⟨wr.heap.size, 0, none⟩ = some (.int .i64 zk) ∧ w'.cell? ⟨wr.heap.size, 1, none⟩ = some (.int .i64 (t : Int)) ∧ w'.cell? ⟨wr.heap.size, 2, none⟩ = some (.int .i64 zp) ∧ w'.cell? ⟨wr.heap.size, 3, none⟩ = some (.int .i64 zs) ∧ w'.cell? ⟨wr.heap.size, 4, none⟩ = some (.int .i64 zo) ∧ w'.cell? ⟨wr.heap.size, 5, none⟩ = some (.int .i64 zn) ∧ w'.cell? ⟨wr.heap.size, 6, none⟩ = some (.int .i64 zv) ∧ w'.cell? ⟨wr.heap.size, 7, none⟩ = some (.int .i64 zx) ∧ w'.cell? ⟨w.heap.size + 1, t, none⟩ = some (.int .i64 (l : Int)))) (by kernel_rfl) ?_ (fun hHeld0 => ?_)
              · (first | (with_reducible exact ⟨c0, c1, c2, c3, c4, c5, c6, c7, ct⟩) | (with_reducible exact ⟨d0, d1, d2, d3, d4, d5, d6, d7, dt⟩) | (with_reducible exact ⟨e0, e1, e2, e3, e4, e5, e6, e7, et⟩) | exact ⟨c0, c1, c2, c3, c4, c5, c6, c7, ct⟩)
              refine wpAnyH_take (i := 0) (oi := { dst := some 18, op := Go.Op.load 27 (Go.Operand.tmp 6), type := 27, pos := "l3_log.go:70", after := #[], guard := none }) (v := ?_) rfl (by kernel_rfl) (by kernel_rfl) (by kernel_rfl) (fun _ _ _ h => h) (Or.inl ⟨by rfl, ?_⟩) hHeld0 ?_
              rotate_left
              · (intro w hSw; (try dsimp only at hSw); go_simp; (first | done | (with_reducible rfl) | (rw [if_neg (by omega)]) | (rw [if_neg (by simp only [ByteArray.size_append]; omega)])))
              (try simp only [Act.put, List.setIfInBounds_toArray, List.set_cons_zero, List.set_cons_succ])
              refine wpAnyH_ready (rs := [1]) (by kernel_rfl) (by simp) ?_
              refine AllReadyH.cons (o := { dst := some 19, op := Go.Op.call { callee := Go.Callee.value (Go.Operand.func 40), args := #[Go.Operand.tmp 18], argTypes := #[27] }, type := 4, pos := "l3_log.go:70", after := #[{ on := 0, ground := Go.Ground.data }], guard := none }) rfl (fun K hK => ?_) AllReadyH.nil
              go_simp
              (with_reducible refine (recOk_any ⟨zk, (t : Int), zp, zs, zo, zn, zv, zx⟩ _).mono ?_)
              rintro e w2 ⟨rfl, b2⟩
              rw [Hok.out]
              have S2 := Lib.hid (S1.out.drew.next b2)
              obtain ⟨d0, d1, d2, d3, d4, d5, d6, d7⟩ := eight S2.out.box
              have dt : w2.cell? ⟨w.heap.size + 1, t, none⟩ = some (.int .i64 (l : Int)) := by rw [← Hl.out]; exact S2.out.tab t ht4
              clear b2
              (try go_wp2_with fail)
              refine hK.out _ _ ?_ (fun hHeld1 => ?_)
              · (first | (with_reducible exact ⟨c0, c1, c2, c3, c4, c5, c6, c7, ct⟩) | (with_reducible exact ⟨d0, d1, d2, d3, d4, d5, d6, d7, dt⟩) | (with_reducible exact ⟨e0, e1, e2, e3, e4, e5, e6, e7, et⟩) | exact ⟨c0, c1, c2, c3, c4, c5, c6, c7, ct⟩)
              clear hK K hHeld0
              (try simp only [Act.put, List.setIfInBounds_toArray, List.set_cons_zero, List.set_cons_succ])
              refine wpAnyH_take (i := 2) (oi := { dst := some 20, op := Go.Op.unOp Go.UnOp.not 4 (Go.Operand.tmp 19), type := 4, pos := "l3_log.go:70", after := #[{ on := 1, ground := Go.Ground.data }], guard := none }) (v := ?_) rfl (by kernel_rfl) (by kernel_rfl) (by kernel_rfl) (fun _ _ _ h => h) (Or.inl ⟨by rfl, ?_⟩) hHeld1 ?_
              rotate_left
              · (intro w hSw; (try dsimp only at hSw); go_simp; (first | done | (with_reducible rfl) | (rw [if_neg (by omega)]) | (rw [if_neg (by simp only [ByteArray.size_append]; omega)])))
              (try simp only [Act.put, List.setIfInBounds_toArray, List.set_cons_zero, List.set_cons_succ])
              refine wpAnyH_take (i := 3) (oi := { dst := some 21, op := Go.Op.move (Go.Operand.tmp 20), type := 4, pos := "l3_log.go:70", after := #[{ on := 2, ground := Go.Ground.data }, { on := 1, ground := Go.Ground.chain }], guard := none }) (v := ?_) rfl (by kernel_rfl) (by kernel_rfl) (by kernel_rfl) (fun _ _ _ h => h) (Or.inl ⟨by rfl, ?_⟩) hHeld1 ?_
              rotate_left
              · (intro w hSw; (try dsimp only at hSw); go_simp; (first | done | (with_reducible rfl) | (rw [if_neg (by omega)]) | (rw [if_neg (by simp only [ByteArray.size_append]; omega)])))
              (try simp only [Act.put, List.setIfInBounds_toArray, List.set_cons_zero, List.set_cons_succ])
              refine wpAnyH_take (i := 4) (oi := { dst := some 22, op := Go.Op.fieldAddr 27 (Go.Operand.tmp 6) 6, type := 0, pos := "l3_log.go:70", after := #[{ on := 3, ground := Go.Ground.guard }], guard := some (3, false) }) (v := ?_) rfl (by kernel_rfl) (by kernel_rfl) (by kernel_rfl) (fun _ _ _ h => h) (Or.inl ⟨by rfl, ?_⟩) hHeld1 ?_
              rotate_left
              · (intro w hSw; (try dsimp only at hSw); go_simp; (first | done | (with_reducible rfl) | (rw [if_neg (by omega)]) | (rw [if_neg (by simp only [ByteArray.size_append]; omega)])))
              (try simp only [Act.put, List.setIfInBounds_toArray, List.set_cons_zero, List.set_cons_succ])
              refine wpAnyH_take (i := 5) (oi := { dst := some 23, op := Go.Op.load 3 (Go.Operand.tmp 22), type := 3, pos := "l3_log.go:70", after := #[{ on := 4, ground := Go.Ground.data }, { on := 3, ground := Go.Ground.guard }], guard := some (3, false) }) (v := ?_) rfl (by kernel_rfl) (by kernel_rfl) (by kernel_rfl) (fun _ _ _ h => h) (Or.inl ⟨by rfl, ?_⟩) hHeld1 ?_
              rotate_left
              · (intro w hSw; (try dsimp only at hSw); go_simp; (first | done | (with_reducible rfl) | (rw [if_neg (by omega)]) | (rw [if_neg (by simp only [ByteArray.size_append]; omega)])))
              (try simp only [Act.put, List.setIfInBounds_toArray, List.set_cons_zero, List.set_cons_succ])
              refine wpAnyH_take (i := 6) (oi := { dst := some 24, op := Go.Op.fieldAddr 27 (Go.Operand.tmp 6) 1, type := 0, pos := "l3_log.go:70", after := #[{ on := 3, ground := Go.Ground.guard }], guard := some (3, false) }) (v := ?_) rfl (by kernel_rfl) (by kernel_rfl) (by kernel_rfl) (fun _ _ _ h => h) (Or.inl ⟨by rfl, ?_⟩) hHeld1 ?_
              rotate_left
              · (intro w hSw; (try dsimp only at hSw); go_simp; (first | done | (with_reducible rfl) | (rw [if_neg (by omega)]) | (rw [if_neg (by simp only [ByteArray.size_append]; omega)])))
              (try simp only [Act.put, List.setIfInBounds_toArray, List.set_cons_zero, List.set_cons_succ])
              refine wpAnyH_take (i := 7) (oi := { dst := some 25, op := Go.Op.load 3 (Go.Operand.tmp 24), type := 3, pos := "l3_log.go:70", after := #[{ on := 6, ground := Go.Ground.data }, { on := 3, ground := Go.Ground.guard }], guard := some (3, false) }) (v := ?_) rfl (by kernel_rfl) (by kernel_rfl) (by kernel_rfl) (fun _ _ _ h => h) (Or.inl ⟨by rfl, ?_⟩) hHeld1 ?_
              rotate_left
              · (intro w hSw; (try dsimp only at hSw); go_simp; (first | done | (with_reducible rfl) | (rw [if_neg (by omega)]) | (rw [if_neg (by simp only [ByteArray.size_append]; omega)])))
              (try simp only [Act.put, List.setIfInBounds_toArray, List.set_cons_zero, List.set_cons_succ])
              refine wpAnyH_take (i := 8) (oi := { dst := some 26, op := Go.Op.indexAddr 44 (Go.Operand.tmp 4) (Go.Operand.tmp 25), type := 0, pos := "l3_log.go:70", after := #[{ on := 7, ground := Go.Ground.data }, { on := 3, ground := Go.Ground.guard }], guard := some (3, false) }) (v := ?_) rfl (by kernel_rfl) (by kernel_rfl) (by kernel_rfl) (fun _ _ _ h => h) (Or.inl ⟨by rfl, ?_⟩) hHeld1 ?_
              rotate_left
              · (intro w hSw; (try dsimp only at hSw); go_simp; (first | done | (with_reducible rfl) | (rw [if_neg (by omega)]) | (rw [if_neg (by simp only [ByteArray.size_append]; omega)])))
              (try simp only [Act.put, List.setIfInBounds_toArray, List.set_cons_zero, List.set_cons_succ])
              refine wpAnyH_take (i := 9) (oi := { dst := some 27, op := Go.Op.load 3 (Go.Operand.tmp 26), type := 3, pos := "l3_log.go:70", after := #[{ on := 8, ground := Go.Ground.data }, { on := 3, ground := Go.Ground.guard }], guard := some (3, false) }) (v := ?_) rfl (by kernel_rfl) (by kernel_rfl) (by kernel_rfl) (fun _ _ _ h => h) (Or.inl ⟨by rfl, ?_⟩) hHeld1 ?_
              rotate_left
              · (intro w hSw; (try dsimp only at hSw); go_simp; (first | done | (with_reducible rfl) | (rw [if_neg (by omega)]) | (rw [if_neg (by simp only [ByteArray.size_append]; omega)])))
              (try simp only [Act.put, List.setIfInBounds_toArray, List.set_cons_zero, List.set_cons_succ])
              refine wpAnyH_take (i := 10) (oi := { dst := some 28, op := Go.Op.binOp Go.BinOp.neq 3 (Go.Operand.tmp 23) (Go.Operand.tmp 27) 3, type := 4, pos := "l3_log.go:70", after := #[{ on := 5, ground := Go.Ground.data }, { on := 9, ground := Go.Ground.data }, { on := 3, ground := Go.Ground.guard }], guard := some (3, false) }) (v := ?_) rfl (by kernel_rfl) (by kernel_rfl) (by kernel_rfl) (fun _ _ _ h => h) (Or.inl ⟨by rfl, ?_⟩) hHeld1 ?_
              rotate_left
              · (intro w hSw; (try dsimp only at hSw); go_simp; (first | done | (with_reducible rfl) | (rw [if_neg (by omega)]) | (rw [if_neg (by simp only [ByteArray.size_append]; omega)])))
              (try simp only [Act.put, List.setIfInBounds_toArray, List.set_cons_zero, List.set_cons_succ])
              refine wpAnyH_take (i := 11) (oi := { dst := some 29, op := Go.Op.pick (Go.Operand.tmp 21) (Go.Operand.const (Go.Value.bool true)) (Go.Operand.tmp 28), type := 4, pos := "l3_log.go:70", after := #[{ on := 3, ground := Go.Ground.data }, { on := 10, ground := Go.Ground.data }], guard := none }) (v := ?_) rfl (by kernel_rfl) (by kernel_rfl) (by kernel_rfl) (fun _ _ _ h => h) (Or.inl ⟨by rfl, ?_⟩) hHeld1 ?_
              rotate_left
              · (intro w hSw; (try dsimp only at hSw); go_simp; (first | done | (with_reducible rfl) | (rw [if_neg (by omega)]) | (rw [if_neg (by simp only [ByteArray.size_append]; omega)])))
              (try simp only [Act.put, List.setIfInBounds_toArray, List.set_cons_zero, List.set_cons_succ])
              refine wpAnyH_take (i := 12) (oi := { dst := some 30, op := Go.Op.move (Go.Operand.tmp 29), type := 4, pos := "l3_log.go:70", after := #[{ on := 11, ground := Go.Ground.data }, { on := 3, ground := Go.Ground.chain }], guard := none }) (v := ?_) rfl (by kernel_rfl) (by kernel_rfl) (by kernel_rfl) (fun _ _ _ h => h) (Or.inl ⟨by rfl, ?_⟩) hHeld1 ?_
              rotate_left
              · (intro w hSw; (try dsimp only at hSw); go_simp; (first | done | (with_reducible rfl) | (rw [if_neg (by omega)]) | (rw [if_neg (by simp only [ByteArray.size_append]; omega)])))
              (try simp only [Act.put, List.setIfInBounds_toArray, List.set_cons_zero, List.set_cons_succ])
              refine wpAnyH_take (i := 13) (oi := { dst := some 31, op := Go.Op.move (Go.Operand.tmp 0), type := 23, pos := "l3_log.go:70", after := #[{ on := 12, ground := Go.Ground.guard }], guard := some (12, false) }) (v := ?_) rfl (by kernel_rfl) (by kernel_rfl) (by kernel_rfl) (fun _ _ _ h => h) (Or.inl ⟨by rfl, ?_⟩) hHeld1 ?_
              rotate_left
              · (intro w hSw; (try dsimp only at hSw); go_simp; (first | done | (with_reducible rfl) | (rw [if_neg (by omega)]) | (rw [if_neg (by simp only [ByteArray.size_append]; omega)])))
              (try simp only [Act.put, List.setIfInBounds_toArray, List.set_cons_zero, List.set_cons_succ])
              refine wpAnyH_take (i := 14) (oi := { dst := some 32, op := Go.Op.move (Go.Operand.tmp 5), type := 3, pos := "l3_log.go:70", after := #[{ on := 12, ground := Go.Ground.guard }], guard := some (12, false) }) (v := ?_) rfl (by kernel_rfl) (by kernel_rfl) (by kernel_rfl) (fun _ _ _ h => h) (Or.inl ⟨by rfl, ?_⟩) hHeld1 ?_
              rotate_left
              · (intro w hSw; (try dsimp only at hSw); go_simp; (first | done | (with_reducible rfl) | (rw [if_neg (by omega)]) | (rw [if_neg (by simp only [ByteArray.size_append]; omega)])))
              (try simp only [Act.put, List.setIfInBounds_toArray, List.set_cons_zero, List.set_cons_succ])
              refine wpAnyH_take (i := 15) (oi := { dst := some 33, op := Go.Op.slice 23 (Go.Operand.tmp 31) none (some (Go.Operand.tmp 32)) none, type := 23, pos := "l3_log.go:70", after := #[{ on := 13, ground := Go.Ground.data }, { on := 14, ground := Go.Ground.data }, { on := 12, ground := Go.Ground.guard }], guard := some (12, false) }) (v := ?_) rfl (by kernel_rfl) (by kernel_rfl) (by kernel_rfl) (fun _ _ _ h => h) (Or.inl ⟨by rfl, ?_⟩) hHeld1 ?_
              rotate_left
              · (intro w hSw; (try dsimp only at hSw); go_simp; (first | done | (with_reducible rfl) | (rw [if_neg (by omega)]) | (rw [if_neg (by simp only [ByteArray.size_append]; omega)])))
              (try simp only [Act.put, List.setIfInBounds_toArray, List.set_cons_zero, List.set_cons_succ])
              refine wpAnyH_take (i := 16) (oi := { dst := some 34, op := Go.Op.load 27 (Go.Operand.tmp 6), type := 27, pos := "l3_log.go:70", after := #[{ on := 12, ground := Go.Ground.guard }], guard := some (12, false) }) (v := ?_) rfl (by kernel_rfl) (by kernel_rfl) (by kernel_rfl) (fun _ _ _ h => h) (Or.inl ⟨by rfl, ?_⟩) hHeld1 ?_
              rotate_left
              · (intro w hSw; (try dsimp only at hSw); go_simp; (first | done | (with_reducible rfl) | (rw [if_neg (by omega)]) | (rw [if_neg (by simp only [ByteArray.size_append]; omega)])))
              (try simp only [Act.put, List.setIfInBounds_toArray, List.set_cons_zero, List.set_cons_succ])
              refine wpAnyH_ready (rs := [17]) (by kernel_rfl) (by simp) ?_
              refine AllReadyH.cons (o := { dst := some 35, op := Go.Op.call { callee := Go.Callee.value (Go.Operand.func 41), args := #[Go.Operand.tmp 33, Go.Operand.tmp 34], argTypes := #[23, 27] }, type := 4, pos := "l3_log.go:70", after := #[{ on := 15, ground := Go.Ground.data }, { on := 16, ground := Go.Ground.data }, { on := 12, ground := Go.Ground.chain }, { on := 12, ground := Go.Ground.guard }], guard := some (12, false) }) rfl (fun K hK => ?_) AllReadyH.nil
              go_simp
              (with_reducible refine (nextOk_any rs k ⟨zk, (t : Int), zp, zs, zo, zn, zv, zx⟩ (some ⟨g, o, none⟩) cap w.heap.size w2 (by omega) (S2.out.rd.recs S2.out.gl) S2.out.below.size x0 x1).mono ?_)
              rintro e w3 ⟨rfl, b3⟩
              rw [Hn.out]
              have S3 := Lib.hid (S2.out.next b3)
              obtain ⟨e0, e1, e2, e3, e4, e5, e6, e7⟩ := eight S3.out.box
              have et : w3.cell? ⟨w.heap.size + 1, t, none⟩ = some (.int .i64 (l : Int)) := by rw [← Hl.out]; exact S3.out.tab t ht4
              clear b3
              (try go_wp2_with fail)
              refine hK.out _ _ ?_ (fun hHeld2 => ?_)
              · (first | (with_reducible exact ⟨c0, c1, c2, c3, c4, c5, c6, c7, ct⟩) | (with_reducible exact ⟨d0, d1, d2, d3, d4, d5, d6, d7, dt⟩) | (with_reducible exact ⟨e0, e1, e2, e3, e4, e5, e6, e7, et⟩) | exact ⟨c0, c1, c2, c3, c4, c5, c6, c7, ct⟩)
              clear hK K hHeld1
              (try simp only [Act.put, List.setIfInBounds_toArray, List.set_cons_zero, List.set_cons_succ])
              refine wpAnyH_take (i := 18) (oi := { dst := some 36, op := Go.Op.unOp Go.UnOp.not 4 (Go.Operand.tmp 35), type := 4, pos := "l3_log.go:70", after := #[{ on := 17, ground := Go.Ground.data }, { on := 12, ground := Go.Ground.guard }], guard := some (12, false) }) (v := ?_) rfl (by kernel_rfl) (by kernel_rfl) (by kernel_rfl) (fun _ _ _ h => h) (Or.inl ⟨by rfl, ?_⟩) hHeld2 ?_
              rotate_left
              · (intro w hSw; (try dsimp only at hSw); go_simp; (first | done | (with_reducible rfl) | (rw [if_neg (by omega)]) | (rw [if_neg (by simp only [ByteArray.size_append]; omega)])))
              (try simp only [Act.put, List.setIfInBounds_toArray, List.set_cons_zero, List.set_cons_succ])
              refine wpAnyH_take (i := 19) (oi := { dst := some 37, op := Go.Op.pick (Go.Operand.tmp 30) (Go.Operand.const (Go.Value.bool true)) (Go.Operand.tmp 36), type := 4, pos := "l3_log.go:70", after := #[{ on := 12, ground := Go.Ground.data }, { on := 18, ground := Go.Ground.data }], guard := none }) (v := ?_) rfl (by kernel_rfl) (by kernel_rfl) (by kernel_rfl) (fun _ _ _ h => h) (Or.inl ⟨by rfl, ?_⟩) hHeld2 ?_
              rotate_left
              · (intro w hSw; (try dsimp only at hSw); go_simp; (first | done | (with_reducible rfl) | (rw [if_neg (by omega)]) | (rw [if_neg (by simp only [ByteArray.size_append]; omega)])))
              (try simp only [Act.put, List.setIfInBounds_toArray, List.set_cons_zero, List.set_cons_succ])
              refine wpAnyH_done (by kernel_rfl) ?_ _
              clear hHeld2
              have Hbad := Lib.hid (logB_bad rs k hlt Hx.out)
              obtain ⟨r0, r1, r2, r3⟩ := four S3.out.res
              have f0 := S3.out.res.frozen 0
              have f1 := S3.out.res.frozen 1
              have f2 := S3.out.res.frozen 2
              have f3 := S3.out.res.frozen 3
              go_wp2
              refine bodyPost_ret (v := .tuple #[.agg #[.int .i64 0, .int .i64 0, .int .i64 0, .int .i64 0], .bool false]) (by simp [results, Try.results31, go_sem, r0, r1, r2, r3]) rfl ⟨by simp [lastB, Hbad.out], ?_⟩
              exact (((S3.out.below.setCell (by simp) _).setCell (by simp) _).setCell (by simp) _).setCell (by simp) _
            · have Hn := Lib.hid hn
              have Hx : Hid (stepB rs k = true) := by
                show stepB rs k = true
                rw [Hp.out, step_next, Hok.out, hn]
                simp [hv]
              clear hn hv
              refine wp_region_held_drew (S := (fun w' => w'.cell? ⟨wr.heap.size, 0, none⟩ = some (.int .i64 zk) ∧ w'.cell? ⟨wr.heap.size, 1, none⟩ = some (.int .i64 (t : Int)) ∧ w'.cell? ⟨wr.heap.size, 2, none⟩ = some (.int .i64 zp) ∧ w'.cell? ⟨wr.heap.size, 3, none⟩ = some (.int .i64 zs) ∧ w'.cell? ⟨wr.heap.size, 4, none⟩ = some (.int .i64 zo) ∧ w'.cell? ⟨wr.heap.size, 5, none⟩ = some (.int .i64 zn) ∧ w'.cell? ⟨wr.heap.size, 6, none⟩ = some (.int .i64 zv) ∧ w'.cell? ⟨wr.heap.size, 7, none⟩ = some (.int .i64 zx) ∧ w'.cell? ⟨w.heap.size + 1, t, none⟩ = some (.int .i64 (l : Int)))) (by kernel_rfl) ?_ (fun hHeld0 => ?_)
              · (first | (with_reducible exact ⟨c0, c1, c2, c3, c4, c5, c6, c7, ct⟩) | (with_reducible exact ⟨d0, d1, d2, d3, d4, d5, d6, d7, dt⟩) | (with_reducible exact ⟨e0, e1, e2, e3, e4, e5, e6, e7, et⟩) | exact ⟨c0, c1, c2, c3, c4, c5, c6, c7, ct⟩)
              refine wpAnyH_take (i := 0) (oi := { dst := some 18, op := Go.Op.load 27 (Go.Operand.tmp 6), type := 27, pos := "l3_log.go:70", after := #[], guard := none }) (v := ?_) rfl (by kernel_rfl) (by kernel_rfl) (by kernel_rfl) (fun _ _ _ h => h) (Or.inl ⟨by rfl, ?_⟩) hHeld0 ?_
              rotate_left
              · (intro w hSw; (try dsimp only at hSw); go_simp; (first | done | (with_reducible rfl) | (rw [if_neg (by omega)]) | (rw [if_neg (by simp only [ByteArray.size_append]; omega)])))
              (try simp only [Act.put, List.setIfInBounds_toArray, List.set_cons_zero, List.set_cons_succ])
              refine wpAnyH_ready (rs := [1]) (by kernel_rfl) (by simp) ?_
              refine AllReadyH.cons (o := { dst := some 19, op := Go.Op.call { callee := Go.Callee.value (Go.Operand.func 40), args := #[Go.Operand.tmp 18], argTypes := #[27] }, type := 4, pos := "l3_log.go:70", after := #[{ on := 0, ground := Go.Ground.data }], guard := none }) rfl (fun K hK => ?_) AllReadyH.nil
              go_simp
              (with_reducible refine (recOk_any ⟨zk, (t : Int), zp, zs, zo, zn, zv, zx⟩ _).mono ?_)
              rintro e w2 ⟨rfl, b2⟩
              rw [Hok.out]
              have S2 := Lib.hid (S1.out.drew.next b2)
              obtain ⟨d0, d1, d2, d3, d4, d5, d6, d7⟩ := eight S2.out.box
              have dt : w2.cell? ⟨w.heap.size + 1, t, none⟩ = some (.int .i64 (l : Int)) := by rw [← Hl.out]; exact S2.out.tab t ht4
              clear b2
              (try go_wp2_with fail)
              refine hK.out _ _ ?_ (fun hHeld1 => ?_)
              · (first | (with_reducible exact ⟨c0, c1, c2, c3, c4, c5, c6, c7, ct⟩) | (with_reducible exact ⟨d0, d1, d2, d3, d4, d5, d6, d7, dt⟩) | (with_reducible exact ⟨e0, e1, e2, e3, e4, e5, e6, e7, et⟩) | exact ⟨c0, c1, c2, c3, c4, c5, c6, c7, ct⟩)
              clear hK K hHeld0
              (try simp only [Act.put, List.setIfInBounds_toArray, List.set_cons_zero, List.set_cons_succ])
              refine wpAnyH_take (i := 2) (oi := { dst := some 20, op := Go.Op.unOp Go.UnOp.not 4 (Go.Operand.tmp 19), type := 4, pos := "l3_log.go:70", after := #[{ on := 1, ground := Go.Ground.data }], guard := none }) (v := ?_) rfl (by kernel_rfl) (by kernel_rfl) (by kernel_rfl) (fun _ _ _ h => h) (Or.inl ⟨by rfl, ?_⟩) hHeld1 ?_
              rotate_left
              · (intro w hSw; (try dsimp only at hSw); go_simp; (first | done | (with_reducible rfl) | (rw [if_neg (by omega)]) | (rw [if_neg (by simp only [ByteArray.size_append]; omega)])))
              (try simp only [Act.put, List.setIfInBounds_toArray, List.set_cons_zero, List.set_cons_succ])
              refine wpAnyH_take (i := 3) (oi := { dst := some 21, op := Go.Op.move (Go.Operand.tmp 20), type := 4, pos := "l3_log.go:70", after := #[{ on := 2, ground := Go.Ground.data }, { on := 1, ground := Go.Ground.chain }], guard := none }) (v := ?_) rfl (by kernel_rfl) (by kernel_rfl) (by kernel_rfl) (fun _ _ _ h => h) (Or.inl ⟨by rfl, ?_⟩) hHeld1 ?_
              rotate_left
              · (intro w hSw; (try dsimp only at hSw); go_simp; (first | done | (with_reducible rfl) | (rw [if_neg (by omega)]) | (rw [if_neg (by simp only [ByteArray.size_append]; omega)])))
              (try simp only [Act.put, List.setIfInBounds_toArray, List.set_cons_zero, List.set_cons_succ])
              refine wpAnyH_take (i := 4) (oi := { dst := some 22, op := Go.Op.fieldAddr 27 (Go.Operand.tmp 6) 6, type := 0, pos := "l3_log.go:70", after := #[{ on := 3, ground := Go.Ground.guard }], guard := some (3, false) }) (v := ?_) rfl (by kernel_rfl) (by kernel_rfl) (by kernel_rfl) (fun _ _ _ h => h) (Or.inl ⟨by rfl, ?_⟩) hHeld1 ?_
              rotate_left
              · (intro w hSw; (try dsimp only at hSw); go_simp; (first | done | (with_reducible rfl) | (rw [if_neg (by omega)]) | (rw [if_neg (by simp only [ByteArray.size_append]; omega)])))
              (try simp only [Act.put, List.setIfInBounds_toArray, List.set_cons_zero, List.set_cons_succ])
              refine wpAnyH_take (i := 5) (oi := { dst := some 23, op := Go.Op.load 3 (Go.Operand.tmp 22), type := 3, pos := "l3_log.go:70", after := #[{ on := 4, ground := Go.Ground.data }, { on := 3, ground := Go.Ground.guard }], guard := some (3, false) }) (v := ?_) rfl (by kernel_rfl) (by kernel_rfl) (by kernel_rfl) (fun _ _ _ h => h) (Or.inl ⟨by rfl, ?_⟩) hHeld1 ?_
              rotate_left
              · (intro w hSw; (try dsimp only at hSw); go_simp; (first | done | (with_reducible rfl) | (rw [if_neg (by omega)]) | (rw [if_neg (by simp only [ByteArray.size_append]; omega)])))
              (try simp only [Act.put, List.setIfInBounds_toArray, List.set_cons_zero, List.set_cons_succ])
              refine wpAnyH_take (i := 6) (oi := { dst := some 24, op := Go.Op.fieldAddr 27 (Go.Operand.tmp 6) 1, type := 0, pos := "l3_log.go:70", after := #[{ on := 3, ground := Go.Ground.guard }], guard := some (3, false) }) (v := ?_) rfl (by kernel_rfl) (by kernel_rfl) (by kernel_rfl) (fun _ _ _ h => h) (Or.inl ⟨by rfl, ?_⟩) hHeld1 ?_
              rotate_left
              · (intro w hSw; (try dsimp only at hSw); go_simp; (first | done | (with_reducible rfl) | (rw [if_neg (by omega)]) | (rw [if_neg (by simp only [ByteArray.size_append]; omega)])))
              (try simp only [Act.put, List.setIfInBounds_toArray, List.set_cons_zero, List.set_cons_succ])
              refine wpAnyH_take (i := 7) (oi := { dst := some 25, op := Go.Op.load 3 (Go.Operand.tmp 24), type := 3, pos := "l3_log.go:70", after := #[{ on := 6, ground := Go.Ground.data }, { on := 3, ground := Go.Ground.guard }], guard := some (3, false) }) (v := ?_) rfl (by kernel_rfl) (by kernel_rfl) (by kernel_rfl) (fun _ _ _ h => h) (Or.inl ⟨by rfl, ?_⟩) hHeld1 ?_
              rotate_left
              · (intro w hSw; (try dsimp only at hSw); go_simp; (first | done | (with_reducible rfl) | (rw [if_neg (by omega)]) | (rw [if_neg (by simp only [ByteArray.size_append]; omega)])))
              (try simp only [Act.put, List.setIfInBounds_toArray, List.set_cons_zero, List.set_cons_succ])
              refine wpAnyH_take (i := 8) (oi := { dst := some 26, op := Go.Op.indexAddr 44 (Go.Operand.tmp 4) (Go.Operand.tmp 25), type := 0, pos := "l3_log.go:70", after := #[{ on := 7, ground := Go.Ground.data }, { on := 3, ground := Go.Ground.guard }], guard := some (3, false) }) (v := ?_) rfl (by kernel_rfl) (by kernel_rfl) (by kernel_rfl) (fun _ _ _ h => h) (Or.inl ⟨by rfl, ?_⟩) hHeld1 ?_
              rotate_left
              · (intro w hSw; (try dsimp only at hSw); go_simp; (first | done | (with_reducible rfl) | (rw [if_neg (by omega)]) | (rw [if_neg (by simp only [ByteArray.size_append]; omega)])))
              (try simp only [Act.put, List.setIfInBounds_toArray, List.set_cons_zero, List.set_cons_succ])
              refine wpAnyH_take (i := 9) (oi := { dst := some 27, op := Go.Op.load 3 (Go.Operand.tmp 26), type := 3, pos := "l3_log.go:70", after := #[{ on := 8, ground := Go.Ground.data }, { on := 3, ground := Go.Ground.guard }], guard := some (3, false) }) (v := ?_) rfl (by kernel_rfl) (by kernel_rfl) (by kernel_rfl) (fun _ _ _ h => h) (Or.inl ⟨by rfl, ?_⟩) hHeld1 ?_
              rotate_left
              · (intro w hSw; (try dsimp only at hSw); go_simp; (first | done | (with_reducible rfl) | (rw [if_neg (by omega)]) | (rw [if_neg (by simp only [ByteArray.size_append]; omega)])))
              (try simp only [Act.put, List.setIfInBounds_toArray, List.set_cons_zero, List.set_cons_succ])
              refine wpAnyH_take (i := 10) (oi := { dst := some 28, op := Go.Op.binOp Go.BinOp.neq 3 (Go.Operand.tmp 23) (Go.Operand.tmp 27) 3, type := 4, pos := "l3_log.go:70", after := #[{ on := 5, ground := Go.Ground.data }, { on := 9, ground := Go.Ground.data }, { on := 3, ground := Go.Ground.guard }], guard := some (3, false) }) (v := ?_) rfl (by kernel_rfl) (by kernel_rfl) (by kernel_rfl) (fun _ _ _ h => h) (Or.inl ⟨by rfl, ?_⟩) hHeld1 ?_
              rotate_left
              · (intro w hSw; (try dsimp only at hSw); go_simp; (first | done | (with_reducible rfl) | (rw [if_neg (by omega)]) | (rw [if_neg (by simp only [ByteArray.size_append]; omega)])))
              (try simp only [Act.put, List.setIfInBounds_toArray, List.set_cons_zero, List.set_cons_succ])
              refine wpAnyH_take (i := 11) (oi := { dst := some 29, op := Go.Op.pick (Go.Operand.tmp 21) (Go.Operand.const (Go.Value.bool true)) (Go.Operand.tmp 28), type := 4, pos := "l3_log.go:70", after := #[{ on := 3, ground := Go.Ground.data }, { on := 10, ground := Go.Ground.data }], guard := none }) (v := ?_) rfl (by kernel_rfl) (by kernel_rfl) (by kernel_rfl) (fun _ _ _ h => h) (Or.inl ⟨by rfl, ?_⟩) hHeld1 ?_
              rotate_left
              · (intro w hSw; (try dsimp only at hSw); go_simp; (first | done | (with_reducible rfl) | (rw [if_neg (by omega)]) | (rw [if_neg (by simp only [ByteArray.size_append]; omega)])))
              (try simp only [Act.put, List.setIfInBounds_toArray, List.set_cons_zero, List.set_cons_succ])
              refine wpAnyH_take (i := 12) (oi := { dst := some 30, op := Go.Op.move (Go.Operand.tmp 29), type := 4, pos := "l3_log.go:70", after := #[{ on := 11, ground := Go.Ground.data }, { on := 3, ground := Go.Ground.chain }], guard := none }) (v := ?_) rfl (by kernel_rfl) (by kernel_rfl) (by kernel_rfl) (fun _ _ _ h => h) (Or.inl ⟨by rfl, ?_⟩) hHeld1 ?_
              rotate_left
              · (intro w hSw; (try dsimp only at hSw); go_simp; (first | done | (with_reducible rfl) | (rw [if_neg (by omega)]) | (rw [if_neg (by simp only [ByteArray.size_append]; omega)])))
              (try simp only [Act.put, List.setIfInBounds_toArray, List.set_cons_zero, List.set_cons_succ])
              refine wpAnyH_take (i := 13) (oi := { dst := some 31, op := Go.Op.move (Go.Operand.tmp 0), type := 23, pos := "l3_log.go:70", after := #[{ on := 12, ground := Go.Ground.guard }], guard := some (12, false) }) (v := ?_) rfl (by kernel_rfl) (by kernel_rfl) (by kernel_rfl) (fun _ _ _ h => h) (Or.inl ⟨by rfl, ?_⟩) hHeld1 ?_
              rotate_left
              · (intro w hSw; (try dsimp only at hSw); go_simp; (first | done | (with_reducible rfl) | (rw [if_neg (by omega)]) | (rw [if_neg (by simp only [ByteArray.size_append]; omega)])))
              (try simp only [Act.put, List.setIfInBounds_toArray, List.set_cons_zero, List.set_cons_succ])
              refine wpAnyH_take (i := 14) (oi := { dst := some 32, op := Go.Op.move (Go.Operand.tmp 5), type := 3, pos := "l3_log.go:70", after := #[{ on := 12, ground := Go.Ground.guard }], guard := some (12, false) }) (v := ?_) rfl (by kernel_rfl) (by kernel_rfl) (by kernel_rfl) (fun _ _ _ h => h) (Or.inl ⟨by rfl, ?_⟩) hHeld1 ?_
              rotate_left
              · (intro w hSw; (try dsimp only at hSw); go_simp; (first | done | (with_reducible rfl) | (rw [if_neg (by omega)]) | (rw [if_neg (by simp only [ByteArray.size_append]; omega)])))
              (try simp only [Act.put, List.setIfInBounds_toArray, List.set_cons_zero, List.set_cons_succ])
              refine wpAnyH_take (i := 15) (oi := { dst := some 33, op := Go.Op.slice 23 (Go.Operand.tmp 31) none (some (Go.Operand.tmp 32)) none, type := 23, pos := "l3_log.go:70", after := #[{ on := 13, ground := Go.Ground.data }, { on := 14, ground := Go.Ground.data }, { on := 12, ground := Go.Ground.guard }], guard := some (12, false) }) (v := ?_) rfl (by kernel_rfl) (by kernel_rfl) (by kernel_rfl) (fun _ _ _ h => h) (Or.inl ⟨by rfl, ?_⟩) hHeld1 ?_
              rotate_left
              · (intro w hSw; (try dsimp only at hSw); go_simp; (first | done | (with_reducible rfl) | (rw [if_neg (by omega)]) | (rw [if_neg (by simp only [ByteArray.size_append]; omega)])))
              (try simp only [Act.put, List.setIfInBounds_toArray, List.set_cons_zero, List.set_cons_succ])
              refine wpAnyH_take (i := 16) (oi := { dst := some 34, op := Go.Op.load 27 (Go.Operand.tmp 6), type := 27, pos := "l3_log.go:70", after := #[{ on := 12, ground := Go.Ground.guard }], guard := some (12, false) }) (v := ?_) rfl (by kernel_rfl) (by kernel_rfl) (by kernel_rfl) (fun _ _ _ h => h) (Or.inl ⟨by rfl, ?_⟩) hHeld1 ?_
              rotate_left
              · (intro w hSw; (try dsimp only at hSw); go_simp; (first | done | (with_reducible rfl) | (rw [if_neg (by omega)]) | (rw [if_neg (by simp only [ByteArray.size_append]; omega)])))
              (try simp only [Act.put, List.setIfInBounds_toArray, List.set_cons_zero, List.set_cons_succ])
              refine wpAnyH_ready (rs := [17]) (by kernel_rfl) (by simp) ?_
              refine AllReadyH.cons (o := { dst := some 35, op := Go.Op.call { callee := Go.Callee.value (Go.Operand.func 41), args := #[Go.Operand.tmp 33, Go.Operand.tmp 34], argTypes := #[23, 27] }, type := 4, pos := "l3_log.go:70", after := #[{ on := 15, ground := Go.Ground.data }, { on := 16, ground := Go.Ground.data }, { on := 12, ground := Go.Ground.chain }, { on := 12, ground := Go.Ground.guard }], guard := some (12, false) }) rfl (fun K hK => ?_) AllReadyH.nil
              go_simp
              (with_reducible refine (nextOk_any rs k ⟨zk, (t : Int), zp, zs, zo, zn, zv, zx⟩ (some ⟨g, o, none⟩) cap w.heap.size w2 (by omega) (S2.out.rd.recs S2.out.gl) S2.out.below.size x0 x1).mono ?_)
              rintro e w3 ⟨rfl, b3⟩
              rw [Hn.out]
              have S3 := Lib.hid (S2.out.next b3)
              obtain ⟨e0, e1, e2, e3, e4, e5, e6, e7⟩ := eight S3.out.box
              have et : w3.cell? ⟨w.heap.size + 1, t, none⟩ = some (.int .i64 (l : Int)) := by rw [← Hl.out]; exact S3.out.tab t ht4
              clear b3
              (try go_wp2_with fail)
              refine hK.out _ _ ?_ (fun hHeld2 => ?_)
              · (first | (with_reducible exact ⟨c0, c1, c2, c3, c4, c5, c6, c7, ct⟩) | (with_reducible exact ⟨d0, d1, d2, d3, d4, d5, d6, d7, dt⟩) | (with_reducible exact ⟨e0, e1, e2, e3, e4, e5, e6, e7, et⟩) | exact ⟨c0, c1, c2, c3, c4, c5, c6, c7, ct⟩)
              clear hK K hHeld1
              (try simp only [Act.put, List.setIfInBounds_toArray, List.set_cons_zero, List.set_cons_succ])
              refine wpAnyH_take (i := 18) (oi := { dst := some 36, op := Go.Op.unOp Go.UnOp.not 4 (Go.Operand.tmp 35), type := 4, pos := "l3_log.go:70", after := #[{ on := 17, ground := Go.Ground.data }, { on := 12, ground := Go.Ground.guard }], guard := some (12, false) }) (v := ?_) rfl (by kernel_rfl) (by kernel_rfl) (by kernel_rfl) (fun _ _ _ h => h) (Or.inl ⟨by rfl, ?_⟩) hHeld2 ?_
              rotate_left
              · (intro w hSw; (try dsimp only at hSw); go_simp; (first | done | (with_reducible rfl) | (rw [if_neg (by omega)]) | (rw [if_neg (by simp only [ByteArray.size_append]; omega)])))
              (try simp only [Act.put, List.setIfInBounds_toArray, List.set_cons_zero, List.set_cons_succ])
              refine wpAnyH_take (i := 19) (oi := { dst := some 37, op := Go.Op.pick (Go.Operand.tmp 30) (Go.Operand.const (Go.Value.bool true)) (Go.Operand.tmp 36), type := 4, pos := "l3_log.go:70", after := #[{ on := 12, ground := Go.Ground.data }, { on := 18, ground := Go.Ground.data }], guard := none }) (v := ?_) rfl (by kernel_rfl) (by kernel_rfl) (by kernel_rfl) (fun _ _ _ h => h) (Or.inl ⟨by rfl, ?_⟩) hHeld2 ?_
              rotate_left
              · (intro w hSw; (try dsimp only at hSw); go_simp; (first | done | (with_reducible rfl) | (rw [if_neg (by omega)]) | (rw [if_neg (by simp only [ByteArray.size_append]; omega)])))
              (try simp only [Act.put, List.setIfInBounds_toArray, List.set_cons_zero, List.set_cons_succ])
              refine wpAnyH_done (by kernel_rfl) ?_ _
              clear hHeld2
              obtain ⟨m0, m1, m2, m3⟩ : w3.cell? ⟨w.heap.size + 1, 0, none⟩ = some (.int .i64 (lastN rs (0 : Nat) k : Int)) ∧ w3.cell? ⟨w.heap.size + 1, 1, none⟩ = some (.int .i64 (lastN rs (1 : Nat) k : Int)) ∧ w3.cell? ⟨w.heap.size + 1, 2, none⟩ = some (.int .i64 (lastN rs (2 : Nat) k : Int)) ∧ w3.cell? ⟨w.heap.size + 1, 3, none⟩ = some (.int .i64 (lastN rs (3 : Nat) k : Int)) := ⟨S3.out.tab 0 (by omega), S3.out.tab 1 (by omega), S3.out.tab 2 (by omega), S3.out.tab 3 (by omega)⟩
              clear c0 c1 c2 c3 c4 c5 c6 c7 ct d0 d1 d2 d3 d4 d5 d6 d7 dt S1 S2 et
              obtain ⟨f, Hf⟩ : ∃ f : Nat → Int, Hid (f = fun (j : Nat) => (lastN rs (j : Int) k : Int)) := ⟨_, rfl⟩
              replace m0 : w3.cell? ⟨w.heap.size + 1, 0, none⟩ = some (.int .i64 (f 0)) := by rw [Hf.out]; exact m0
              replace m1 : w3.cell? ⟨w.heap.size + 1, 1, none⟩ = some (.int .i64 (f 1)) := by rw [Hf.out]; exact m1
              replace m2 : w3.cell? ⟨w.heap.size + 1, 2, none⟩ = some (.int .i64 (f 2)) := by rw [Hf.out]; exact m2
              replace m3 : w3.cell? ⟨w.heap.size + 1, 3, none⟩ = some (.int .i64 (f 3)) := by rw [Hf.out]; exact m3
              have hwk : IntKind.i64.wrap ((k : Int) + 1) = (k : Int) + 1 := IntWalk.i64_in _ (by omega)
              go_wp2_with fail
              refine (after_any f ⟨zk, (t : Int), zp, zs, zo, zn, zv, zx⟩ ((k : Int) + 1) t rfl h1t h3t _).mono ?_
              rintro e w4 ⟨rfl, b4⟩
              have S4 := Lib.hid (S3.out.next b4)
              clear b4 e0 e1 e2 e3 e4 e5 e6 e7 m0 m1 m2 m3 S3
              have fz : ∀ j, j < 4 → w4.frozen? ⟨w.heap.size + 1, j, none⟩ = false := fun j hj => by have := S4.out.wr.2 j hj; rwa [Nat.zero_add] at this
              have f0 := fz 0 (by omega)
              have f1 := fz 1 (by omega)
              have f2 := fz 2 (by omega)
              have f3 := fz 3 (by omega)
              have m0 := S4.out.tab 0 (by omega)
              have m1 := S4.out.tab 1 (by omega)
              have m2 := S4.out.tab 2 (by omega)
              have m3 := S4.out.tab 3 (by omega)
              have Hn' := Lib.hid (tab_next rs k t _ Hk.out rfl)
              have S5 := Lib.hid (S4.out.set4 (aftF f t ⟨zk, (t : Int), zp, zs, zo, zn, zv, zx⟩ ((k : Int) + 1)))
              have hsz := Lib.hid (Nat.le_trans S5.out.lo (Nat.le_of_lt S5.out.box.lt))
              clear fz
              go_wp2
              exact ⟨⟨k + 1, by omega, by go_num, S5.out.below, hsz.out, S5.out.res, fun j hj => by rw [S5.out.tab j hj, Hf.out]; dsimp only; rw [← Hn'.out j], S5.out.wr, fun j hj => by
                rcases Nat.lt_succ_iff_lt_or_eq.1 hj with h | rfl
                · exact Hg.out j h
                · exact Hx.out⟩, by simp [intOf]; omega⟩
          · have bv : (zv != (l : Int)) = true := by simp [hv]
            have Hx : Hid (stepB rs k = false) := by
              show stepB rs k = false
              rw [Hp.out]
              simp [hv]
            clear hv
            refine wp_region_held_drew (S := (fun w' => w'.cell? ⟨wr.heap.size, 0, none⟩ = some (.int .i64 zk) ∧ w'.cell? ⟨wr.heap.size, 1, none⟩ = some (.int .i64 (t : Int)) ∧ w'.cell? ⟨wr.heap.size, 2, none⟩ = some (.int .i64 zp) ∧ w'.cell? ⟨wr.heap.size, 3, none⟩ = some (.int .i64 zs) ∧ w'.cell? ⟨wr.heap.size, 4, none⟩ = some (.int .i64 zo) ∧ w'.cell? ⟨wr.heap.size, 5, none⟩ = some (.int .i64 zn) ∧ w'.cell? ⟨wr.heap.size, 6, none⟩ = some (.int .i64 zv) ∧ w'.cell? ⟨wr.heap.size, 7, none⟩ = some (.int .i64 zx) ∧ w'.cell? ⟨w.heap.size + 1, t, none⟩ = some (.int .i64 (l : Int)))) (by kernel_rfl) ?_ (fun hHeld0 => ?_)
            · (first | (with_reducible exact ⟨c0, c1, c2, c3, c4, c5, c6, c7, ct⟩) | (with_reducible exact ⟨d0, d1, d2, d3, d4, d5, d6, d7, dt⟩) | (with_reducible exact ⟨e0, e1, e2, e3, e4, e5, e6, e7, et⟩) | exact ⟨c0, c1, c2, c3, c4, c5, c6, c7, ct⟩)
            refine wpAnyH_take (i := 0) (oi := { dst := some 18, op := Go.Op.load 27 (Go.Operand.tmp 6), type := 27, pos := "l3_log.go:70", after := #[], guard := none }) (v := ?_) rfl (by kernel_rfl) (by kernel_rfl) (by kernel_rfl) (fun _ _ _ h => h) (Or.inl ⟨by rfl, ?_⟩) hHeld0 ?_
            rotate_left
            · (intro w hSw; (try dsimp only at hSw); go_simp; (first | done | (with_reducible rfl) | (rw [if_neg (by omega)]) | (rw [if_neg (by simp only [ByteArray.size_append]; omega)])))
            (try simp only [Act.put, List.setIfInBounds_toArray, List.set_cons_zero, List.set_cons_succ])
            refine wpAnyH_ready (rs := [1]) (by kernel_rfl) (by simp) ?_
            refine AllReadyH.cons (o := { dst := some 19, op := Go.Op.call { callee := Go.Callee.value (Go.Operand.func 40), args := #[Go.Operand.tmp 18], argTypes := #[27] }, type := 4, pos := "l3_log.go:70", after := #[{ on := 0, ground := Go.Ground.data }], guard := none }) rfl (fun K hK => ?_) AllReadyH.nil
            go_simp
            (with_reducible refine (recOk_any ⟨zk, (t : Int), zp, zs, zo, zn, zv, zx⟩ _).mono ?_)
            rintro e w2 ⟨rfl, b2⟩
            rw [Hok.out]
            have S2 := Lib.hid (S1.out.drew.next b2)
            obtain ⟨d0, d1, d2, d3, d4, d5, d6, d7⟩ := eight S2.out.box
            have dt : w2.cell? ⟨w.heap.size + 1, t, none⟩ = some (.int .i64 (l : Int)) := by rw [← Hl.out]; exact S2.out.tab t ht4
            clear b2
            (try go_wp2_with fail)
            refine hK.out _ _ ?_ (fun hHeld1 => ?_)
            · (first | (with_reducible exact ⟨c0, c1, c2, c3, c4, c5, c6, c7, ct⟩) | (with_reducible exact ⟨d0, d1, d2, d3, d4, d5, d6, d7, dt⟩) | (with_reducible exact ⟨e0, e1, e2, e3, e4, e5, e6, e7, et⟩) | exact ⟨c0, c1, c2, c3, c4, c5, c6, c7, ct⟩)
            clear hK K hHeld0
            (try simp only [Act.put, List.setIfInBounds_toArray, List.set_cons_zero, List.set_cons_succ])
            refine wpAnyH_take (i := 2) (oi := { dst := some 20, op := Go.Op.unOp Go.UnOp.not 4 (Go.Operand.tmp 19), type := 4, pos := "l3_log.go:70", after := #[{ on := 1, ground := Go.Ground.data }], guard := none }) (v := ?_) rfl (by kernel_rfl) (by kernel_rfl) (by kernel_rfl) (fun _ _ _ h => h) (Or.inl ⟨by rfl, ?_⟩) hHeld1 ?_
            rotate_left
            · (intro w hSw; (try dsimp only at hSw); go_simp; (first | done | (with_reducible rfl) | (rw [if_neg (by omega)]) | (rw [if_neg (by simp only [ByteArray.size_append]; omega)])))
            (try simp only [Act.put, List.setIfInBounds_toArray, List.set_cons_zero, List.set_cons_succ])
            refine wpAnyH_take (i := 3) (oi := { dst := some 21, op := Go.Op.move (Go.Operand.tmp 20), type := 4, pos := "l3_log.go:70", after := #[{ on := 2, ground := Go.Ground.data }, { on := 1, ground := Go.Ground.chain }], guard := none }) (v := ?_) rfl (by kernel_rfl) (by kernel_rfl) (by kernel_rfl) (fun _ _ _ h => h) (Or.inl ⟨by rfl, ?_⟩) hHeld1 ?_
            rotate_left
            · (intro w hSw; (try dsimp only at hSw); go_simp; (first | done | (with_reducible rfl) | (rw [if_neg (by omega)]) | (rw [if_neg (by simp only [ByteArray.size_append]; omega)])))
            (try simp only [Act.put, List.setIfInBounds_toArray, List.set_cons_zero, List.set_cons_succ])
            refine wpAnyH_take (i := 4) (oi := { dst := some 22, op := Go.Op.fieldAddr 27 (Go.Operand.tmp 6) 6, type := 0, pos := "l3_log.go:70", after := #[{ on := 3, ground := Go.Ground.guard }], guard := some (3, false) }) (v := ?_) rfl (by kernel_rfl) (by kernel_rfl) (by kernel_rfl) (fun _ _ _ h => h) (Or.inl ⟨by rfl, ?_⟩) hHeld1 ?_
            rotate_left
            · (intro w hSw; (try dsimp only at hSw); go_simp; (first | done | (with_reducible rfl) | (rw [if_neg (by omega)]) | (rw [if_neg (by simp only [ByteArray.size_append]; omega)])))
            (try simp only [Act.put, List.setIfInBounds_toArray, List.set_cons_zero, List.set_cons_succ])
            refine wpAnyH_take (i := 5) (oi := { dst := some 23, op := Go.Op.load 3 (Go.Operand.tmp 22), type := 3, pos := "l3_log.go:70", after := #[{ on := 4, ground := Go.Ground.data }, { on := 3, ground := Go.Ground.guard }], guard := some (3, false) }) (v := ?_) rfl (by kernel_rfl) (by kernel_rfl) (by kernel_rfl) (fun _ _ _ h => h) (Or.inl ⟨by rfl, ?_⟩) hHeld1 ?_
            rotate_left
            · (intro w hSw; (try dsimp only at hSw); go_simp; (first | done | (with_reducible rfl) | (rw [if_neg (by omega)]) | (rw [if_neg (by simp only [ByteArray.size_append]; omega)])))
            (try simp only [Act.put, List.setIfInBounds_toArray, List.set_cons_zero, List.set_cons_succ])
            refine wpAnyH_take (i := 6) (oi := { dst := some 24, op := Go.Op.fieldAddr 27 (Go.Operand.tmp 6) 1, type := 0, pos := "l3_log.go:70", after := #[{ on := 3, ground := Go.Ground.guard }], guard := some (3, false) }) (v := ?_) rfl (by kernel_rfl) (by kernel_rfl) (by kernel_rfl) (fun _ _ _ h => h) (Or.inl ⟨by rfl, ?_⟩) hHeld1 ?_
            rotate_left
            · (intro w hSw; (try dsimp only at hSw); go_simp; (first | done | (with_reducible rfl) | (rw [if_neg (by omega)]) | (rw [if_neg (by simp only [ByteArray.size_append]; omega)])))
            (try simp only [Act.put, List.setIfInBounds_toArray, List.set_cons_zero, List.set_cons_succ])
            refine wpAnyH_take (i := 7) (oi := { dst := some 25, op := Go.Op.load 3 (Go.Operand.tmp 24), type := 3, pos := "l3_log.go:70", after := #[{ on := 6, ground := Go.Ground.data }, { on := 3, ground := Go.Ground.guard }], guard := some (3, false) }) (v := ?_) rfl (by kernel_rfl) (by kernel_rfl) (by kernel_rfl) (fun _ _ _ h => h) (Or.inl ⟨by rfl, ?_⟩) hHeld1 ?_
            rotate_left
            · (intro w hSw; (try dsimp only at hSw); go_simp; (first | done | (with_reducible rfl) | (rw [if_neg (by omega)]) | (rw [if_neg (by simp only [ByteArray.size_append]; omega)])))
            (try simp only [Act.put, List.setIfInBounds_toArray, List.set_cons_zero, List.set_cons_succ])
            refine wpAnyH_take (i := 8) (oi := { dst := some 26, op := Go.Op.indexAddr 44 (Go.Operand.tmp 4) (Go.Operand.tmp 25), type := 0, pos := "l3_log.go:70", after := #[{ on := 7, ground := Go.Ground.data }, { on := 3, ground := Go.Ground.guard }], guard := some (3, false) }) (v := ?_) rfl (by kernel_rfl) (by kernel_rfl) (by kernel_rfl) (fun _ _ _ h => h) (Or.inl ⟨by rfl, ?_⟩) hHeld1 ?_
            rotate_left
            · (intro w hSw; (try dsimp only at hSw); go_simp; (first | done | (with_reducible rfl) | (rw [if_neg (by omega)]) | (rw [if_neg (by simp only [ByteArray.size_append]; omega)])))
            (try simp only [Act.put, List.setIfInBounds_toArray, List.set_cons_zero, List.set_cons_succ])
            refine wpAnyH_take (i := 9) (oi := { dst := some 27, op := Go.Op.load 3 (Go.Operand.tmp 26), type := 3, pos := "l3_log.go:70", after := #[{ on := 8, ground := Go.Ground.data }, { on := 3, ground := Go.Ground.guard }], guard := some (3, false) }) (v := ?_) rfl (by kernel_rfl) (by kernel_rfl) (by kernel_rfl) (fun _ _ _ h => h) (Or.inl ⟨by rfl, ?_⟩) hHeld1 ?_
            rotate_left
            · (intro w hSw; (try dsimp only at hSw); go_simp; (first | done | (with_reducible rfl) | (rw [if_neg (by omega)]) | (rw [if_neg (by simp only [ByteArray.size_append]; omega)])))
            (try simp only [Act.put, List.setIfInBounds_toArray, List.set_cons_zero, List.set_cons_succ])
            refine wpAnyH_take (i := 10) (oi := { dst := some 28, op := Go.Op.binOp Go.BinOp.neq 3 (Go.Operand.tmp 23) (Go.Operand.tmp 27) 3, type := 4, pos := "l3_log.go:70", after := #[{ on := 5, ground := Go.Ground.data }, { on := 9, ground := Go.Ground.data }, { on := 3, ground := Go.Ground.guard }], guard := some (3, false) }) (v := ?_) rfl (by kernel_rfl) (by kernel_rfl) (by kernel_rfl) (fun _ _ _ h => h) (Or.inl ⟨by rfl, ?_⟩) hHeld1 ?_
            rotate_left
            · (intro w hSw; (try dsimp only at hSw); go_simp; (first | done | (with_reducible rfl) | (rw [if_neg (by omega)]) | (rw [if_neg (by simp only [ByteArray.size_append]; omega)])))
            (try simp only [Act.put, List.setIfInBounds_toArray, List.set_cons_zero, List.set_cons_succ])
            refine wpAnyH_take (i := 11) (oi := { dst := some 29, op := Go.Op.pick (Go.Operand.tmp 21) (Go.Operand.const (Go.Value.bool true)) (Go.Operand.tmp 28), type := 4, pos := "l3_log.go:70", after := #[{ on := 3, ground := Go.Ground.data }, { on := 10, ground := Go.Ground.data }], guard := none }) (v := ?_) rfl (by kernel_rfl) (by kernel_rfl) (by kernel_rfl) (fun _ _ _ h => h) (Or.inl ⟨by rfl, ?_⟩) hHeld1 ?_
            rotate_left
            · (intro w hSw; (try dsimp only at hSw); go_simp; (first | done | (with_reducible rfl) | (rw [if_neg (by omega)]) | (rw [if_neg (by simp only [ByteArray.size_append]; omega)])))
            (try simp only [Act.put, List.setIfInBounds_toArray, List.set_cons_zero, List.set_cons_succ])
            refine wpAnyH_take (i := 12) (oi := { dst := some 30, op := Go.Op.move (Go.Operand.tmp 29), type := 4, pos := "l3_log.go:70", after := #[{ on := 11, ground := Go.Ground.data }, { on := 3, ground := Go.Ground.chain }], guard := none }) (v := ?_) rfl (by kernel_rfl) (by kernel_rfl) (by kernel_rfl) (fun _ _ _ h => h) (Or.inl ⟨by rfl, ?_⟩) hHeld1 ?_
            rotate_left
            · (intro w hSw; (try dsimp only at hSw); go_simp; (first | done | (with_reducible rfl) | (rw [if_neg (by omega)]) | (rw [if_neg (by simp only [ByteArray.size_append]; omega)])))
            (try simp only [Act.put, List.setIfInBounds_toArray, List.set_cons_zero, List.set_cons_succ])
            refine skipH (i := 13) (oi := { dst := some 31, op := Go.Op.move (Go.Operand.tmp 0), type := 23, pos := "l3_log.go:70", after := #[{ on := 12, ground := Go.Ground.guard }], guard := some (12, false) }) rfl (by kernel_rfl) (by kernel_rfl) (by kernel_rfl) (fun _ _ _ h => h) (by rfl) hHeld1 ?_
            (try simp only [Act.put, List.setIfInBounds_toArray, List.set_cons_zero, List.set_cons_succ])
            refine skipH (i := 14) (oi := { dst := some 32, op := Go.Op.move (Go.Operand.tmp 5), type := 3, pos := "l3_log.go:70", after := #[{ on := 12, ground := Go.Ground.guard }], guard := some (12, false) }) rfl (by kernel_rfl) (by kernel_rfl) (by kernel_rfl) (fun _ _ _ h => h) (by rfl) hHeld1 ?_
            (try simp only [Act.put, List.setIfInBounds_toArray, List.set_cons_zero, List.set_cons_succ])
            refine skipH (i := 15) (oi := { dst := some 33, op := Go.Op.slice 23 (Go.Operand.tmp 31) none (some (Go.Operand.tmp 32)) none, type := 23, pos := "l3_log.go:70", after := #[{ on := 13, ground := Go.Ground.data }, { on := 14, ground := Go.Ground.data }, { on := 12, ground := Go.Ground.guard }], guard := some (12, false) }) rfl (by kernel_rfl) (by kernel_rfl) (by kernel_rfl) (fun _ _ _ h => h) (by rfl) hHeld1 ?_
            (try simp only [Act.put, List.setIfInBounds_toArray, List.set_cons_zero, List.set_cons_succ])
            refine skipH (i := 16) (oi := { dst := some 34, op := Go.Op.load 27 (Go.Operand.tmp 6), type := 27, pos := "l3_log.go:70", after := #[{ on := 12, ground := Go.Ground.guard }], guard := some (12, false) }) rfl (by kernel_rfl) (by kernel_rfl) (by kernel_rfl) (fun _ _ _ h => h) (by rfl) hHeld1 ?_
            (try simp only [Act.put, List.setIfInBounds_toArray, List.set_cons_zero, List.set_cons_succ])
            refine skipH (i := 17) (oi := { dst := some 35, op := Go.Op.call { callee := Go.Callee.value (Go.Operand.func 41), args := #[Go.Operand.tmp 33, Go.Operand.tmp 34], argTypes := #[23, 27] }, type := 4, pos := "l3_log.go:70", after := #[{ on := 15, ground := Go.Ground.data }, { on := 16, ground := Go.Ground.data }, { on := 12, ground := Go.Ground.chain }, { on := 12, ground := Go.Ground.guard }], guard := some (12, false) }) rfl (by kernel_rfl) (by kernel_rfl) (by kernel_rfl) (fun _ _ _ h => h) (by rfl) hHeld1 ?_
            (try simp only [Act.put, List.setIfInBounds_toArray, List.set_cons_zero, List.set_cons_succ])
            refine skipH (i := 18) (oi := { dst := some 36, op := Go.Op.unOp Go.UnOp.not 4 (Go.Operand.tmp 35), type := 4, pos := "l3_log.go:70", after := #[{ on := 17, ground := Go.Ground.data }, { on := 12, ground := Go.Ground.guard }], guard := some (12, false) }) rfl (by kernel_rfl) (by kernel_rfl) (by kernel_rfl) (fun _ _ _ h => h) (by rfl) hHeld1 ?_
            (try simp only [Act.put, List.setIfInBounds_toArray, List.set_cons_zero, List.set_cons_succ])
            refine wpAnyH_take (i := 19) (oi := { dst := some 37, op := Go.Op.pick (Go.Operand.tmp 30) (Go.Operand.const (Go.Value.bool true)) (Go.Operand.tmp 36), type := 4, pos := "l3_log.go:70", after := #[{ on := 12, ground := Go.Ground.data }, { on := 18, ground := Go.Ground.data }], guard := none }) (v := ?_) rfl (by kernel_rfl) (by kernel_rfl) (by kernel_rfl) (fun _ _ _ h => h) (Or.inl ⟨by rfl, ?_⟩) hHeld1 ?_
            rotate_left
            · (intro w hSw; (try dsimp only at hSw); go_simp; (first | done | (with_reducible rfl) | (rw [if_neg (by omega)]) | (rw [if_neg (by simp only [ByteArray.size_append]; omega)])))
            (try simp only [Act.put, List.setIfInBounds_toArray, List.set_cons_zero, List.set_cons_succ])
            refine wpAnyH_done (by kernel_rfl) ?_ _
            clear hHeld1
            have Hbad := Lib.hid (logB_bad rs k hlt Hx.out)
            obtain ⟨r0, r1, r2, r3⟩ := four S2.out.res
            have f0 := S2.out.res.frozen 0
            have f1 := S2.out.res.frozen 1
            have f2 := S2.out.res.frozen 2
            have f3 := S2.out.res.frozen 3
            go_wp2
            refine bodyPost_ret (v := .tuple #[.agg #[.int .i64 0, .int .i64 0, .int .i64 0, .int .i64 0], .bool false]) (by simp [results, Try.results31, go_sem, r0, r1, r2, r3]) rfl ⟨by simp [lastB, Hbad.out], ?_⟩
            exact (((S2.out.below.setCell (by simp) _).setCell (by simp) _).setCell (by simp) _).setCell (by simp) _
      · obtain rfl : k = rs.length := by omega
        have hlog : logB rs = true := by rw [logB_all rs Hg.out]; simpa using hl
        have hB3 : ∀ t, lastB rs t = (lastN rs t rs.length : Int) := fun t => by unfold lastB; rw [hlog]; rfl
        have t0 : wr.cell? ⟨w.heap.size + 1, 0, none⟩ = some (.int .i64 0) := by rw [Ht.out 0 (by omega)]; show some (Value.int .i64 (lastN rs 0 rs.length : Int)) = _; rw [lastN_zero rs 0 (by omega) _ Hg.out]; rfl
        have t1 : wr.cell? ⟨w.heap.size + 1, 1, none⟩ = some (.int .i64 (lastB rs 1)) := by rw [Ht.out 1 (by omega), hB3]; rfl
        have t2 : wr.cell? ⟨w.heap.size + 1, 2, none⟩ = some (.int .i64 (lastB rs 2)) := by rw [Ht.out 2 (by omega), hB3]; rfl
        have t3 : wr.cell? ⟨w.heap.size + 1, 3, none⟩ = some (.int .i64 (lastB rs 3)) := by rw [Ht.out 3 (by omega), hB3]; rfl
        obtain ⟨r0, r1, r2, r3⟩ := four Hh.out
        have f0 := Hh.out.frozen 0
        have f1 := Hh.out.frozen 1
        have f2 := Hh.out.frozen 2
        have f3 := Hh.out.frozen 3
        have Hlog := Lib.hid hlog
        clear hB3 hlog Ht
        generalize h1 : lastB rs 1 = l1 at t1
        generalize h2 : lastB rs 2 = l2 at t2
        generalize h3 : lastB rs 3 = l3 at t3
        have H1 := Lib.hid h1
        have H2 := Lib.hid h2
        have H3 := Lib.hid h3
        clear h1 h2 h3
        go_wp2
        refine bodyPost_ret (v := .tuple #[.agg #[.int .i64 0, .int .i64 l1, .int .i64 l2, .int .i64 l3], .bool true]) (by simp [results, Try.results31, go_sem, r0, r1, r2, r3]) rfl ⟨by rw [H1.out, H2.out, H3.out, Hlog.out], ?_⟩
        exact (((Hb.out.setCell (by simp) _).setCell (by simp) _).setCell (by simp) _).setCell (by simp) _
  · have Hb : Hid (logB rs = false) := by show logB rs = false; exact logB_long rs hl
    go_enter Try.func31, Try.ntmps31
    go_wp2
    refine bodyPost_ret (v := .tuple #[.agg #[.int .i64 0, .int .i64 0, .int .i64 0, .int .i64 0], .bool false]) (by simp [results, Try.results31, go_sem]) rfl ⟨by simp [lastB, Hb.out], ?_⟩
    exact below_two _ _ _
end Go.Proofs.Ytejbmjdipfcblaa.Base
