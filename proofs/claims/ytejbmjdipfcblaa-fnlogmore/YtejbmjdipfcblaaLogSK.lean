/-
  Contracts of the model's l3Last and LogOk. Conditions: the slice leads to records.
-/
import Derived.Test.YtejbmjdipfcblaaMathsK
import Derived.Deep.RegionHeld3
namespace Go.Proofs.Ytejbmjdipfcblaa.Base
open Go.RowKit

set_option maxHeartbeats 1000000 in
theorem l3Last_any (rs : List R) (n : Nat) (t : Int) (a : Option Addr) (cap B : Nat) (w : World) (hn : n ≤ rs.length) (hz : Recs w B a rs) (mx : rs.length ≤ 1000000000) :
    Calls Try.prog 33 #[.slice a n cap, .int .i64 t] w fun e w' => e = .returned (.int .i64 (lastN rs t n)) ∧ w = w' := by
  have Hz := Lib.hid hz
  clear hz
  go_enter Try.func33, Try.ntmps33
  go_wp2
  go_loop [5] (fun i => ∃ k : Nat, k ≤ n ∧ i = .int .i64 ((k : Int) - 1) ∧ lastN rs t n = lastN rs t k) (fun i => (intOf i + 1).toNat)
  case atStart => exact ⟨n, Nat.le_refl _, rfl, rfl⟩
  case round =>
    obtain ⟨k, hk, rfl, heq⟩ := hrel
    have Heq := Lib.hid heq
    clear heq
    cases k with
    | zero =>
      go_wp2
      go_ret
      exact ⟨ret_int (by rw [Heq.out]; rfl), rfl⟩
    | succ k =>
      obtain ⟨g, o, rfl, hg, hr⟩ := Hz.out (by omega)
      have c0 := (hr k (by omega)).k
      have c1 := (hr k (by omega)).t
      have He : Hid (lastN rs t (k + 1) = if (recAt rs k).t = t then (if endR (recAt rs k) = true then 0 else k + 1) else lastN rs t k) := rfl
      have Hd : Hid (endR (recAt rs k) = (((recAt rs k).k == 4) || ((recAt rs k).k == 5))) := rfl
      clear hr
      generalize endR (recAt rs k) = e0 at He Hd
      generalize (recAt rs k).k = z0 at c0 Hd
      generalize (recAt rs k).t = z1 at c1 He
      by_cases h1 : z1 = t
      · subst h1
        cases b4 : (z0 == 4) <;> cases b5 : (z0 == 5)
        all_goals
          go_wp2
          go_ret
          exact ⟨ret_int (by rw [Heq.out, He.out, Hd.out, b4, b5]; simp), rfl⟩
      · have b1 : (z1 == t) = false := by simpa using h1
        have H1 := Lib.hid h1
        clear h1
        go_wp2
        exact ⟨⟨k, by omega, rfl, by rw [Heq.out, He.out, if_neg H1.out]⟩, by simp [intOf]⟩

/-- an operation that its guard leaves out may be taken first -/
theorem skipH {P : Program} {ops : Array Oper} {Q : Exit → Act → World → Prop} {md : Region.Mode} {S : World → Prop} {i : Nat} {oi : Oper} {fuel : Nat} {listed : Array Bool} {a : Act} {w : World} (hi : ops[i]? = some oi)
    (hs : Region.noSelect ops = true) (hf : Region.free md ops listed i = true) (hr : (Region.ready md ops listed).contains i = true)
    (hQ : ∀ c a w, Q (.panic c) (a.put oi.dst undef) w → Q (.panic c) a w) (hw : Region.wanted oi (yielded ops a.tmps) = false) (hS : S w)
    (h : wpAnyH P md ops Q S fuel (listed.setIfInBounds i true) (a.put oi.dst undef) w) : wpAnyH P md ops Q S (fuel + 1) listed a w :=
  wpAnyH_take hi hs hf hr hQ (.inr ⟨hw, rfl⟩) hS h

/-- the record at place n follows: its parts -/
theorem step_parts (rs : List R) (n : Nat) (r : R) (l : Nat) (h : recAt rs n = r) (hl : lastN rs r.t n = l) :
    stepB rs n = (okR r && ((r.v == (l : Int)) && (decide (r.x ≤ (n : Int)) && ((r.x == 0) || ((recAt rs (r.x - 1).toNat).t == r.t))))) := by
  subst h
  subst hl
  rfl

set_option maxHeartbeats 4000000 in
theorem specLogOk_any (rs : List R) (a : Option Addr) (cap B : Nat) (w : World) (hB : B ≤ w.heap.size) (hz : Recs w B a rs) (hc : rs.length ≤ cap) (mx : rs.length ≤ 1000000000) :
    Calls Try.prog 12 #[.slice a rs.length cap] w (Keeps (.bool (logB rs)) w) := by
  have Hz := Lib.hid hz
  clear hz
  go_enter Try.func12, Try.ntmps12
  go_wp2
  go_loopw [3] (fun i w1 => ∃ k : Nat, k ≤ rs.length ∧ i = .int .i64 k ∧ Below w.heap.size w w1 ∧ ∀ j, j < k → stepB rs j = true) (fun i _ => rs.length - (intOf i).toNat)
  case atStart => exact ⟨0, Nat.zero_le _, rfl, Below.refl _ _, fun j hj => absurd hj (by omega)⟩
  case round =>
    obtain ⟨k, hk, rfl, hb, hgood⟩ := hrel
    have Hg := Lib.hid hgood
    have hs := hb.size
    by_cases hlt : k < rs.length
    · obtain ⟨g, o, rfl, hgB, hr⟩ := Hz.out (by omega)
      have Hr := Lib.hid (hr.below (hb.mono hB) hgB)
      have Hb := Lib.hid hb
      clear hr hb hgood
      have hA := Hr.out k hlt
      obtain ⟨r, hrk⟩ : ∃ r, recAt rs k = r := ⟨_, rfl⟩
      rw [hrk] at hA
      have HA := Lib.hid hA
      obtain ⟨c0, c1, c2, c3, c4, c5, c6, c7⟩ := hA
      obtain ⟨l, hl⟩ : ∃ l, lastN rs r.t k = l := ⟨_, rfl⟩
      have Hp := Lib.hid (step_parts rs k r l hrk hl)
      have Hl := Lib.hid hl
      clear hrk hl
      have hkc : k ≤ cap := by omega
      have hkc : k ≤ cap := by omega
      have hkc : k ≤ cap := by omega
      have hkc : k ≤ cap := by omega
      cases hok : okR r
      · have Hok := Lib.hid hok
        clear hok
        go_wp2_with fail
        refine wp_region_held_drew (S := (fun w' => w'.cell? ⟨g, o + k * 8, none⟩ = some (.int .i64 r.k) ∧ w'.cell? ⟨g, o + k * 8 + 1, none⟩ = some (.int .i64 r.t) ∧ w'.cell? ⟨g, o + k * 8 + 2, none⟩ = some (.int .i64 r.p) ∧ w'.cell? ⟨g, o + k * 8 + 3, none⟩ = some (.int .i64 r.s) ∧ w'.cell? ⟨g, o + k * 8 + 4, none⟩ = some (.int .i64 r.o) ∧ w'.cell? ⟨g, o + k * 8 + 5, none⟩ = some (.int .i64 r.n) ∧ w'.cell? ⟨g, o + k * 8 + 6, none⟩ = some (.int .i64 r.v) ∧ w'.cell? ⟨g, o + k * 8 + 7, none⟩ = some (.int .i64 r.x))) (by kernel_rfl) ?_ (fun hHeld0 => ?_)
        · (first | (with_reducible exact ⟨c0, c1, c2, c3, c4, c5, c6, c7⟩) | (with_reducible exact ⟨d0, d1, d2, d3, d4, d5, d6, d7⟩) | exact ⟨c0, c1, c2, c3, c4, c5, c6, c7⟩)
        refine wpAnyH_take (i := 0) (oi := { dst := some 10, op := Go.Op.move (Go.Operand.tmp 0), type := 23, pos := "l3_log.go:21", after := #[], guard := none }) (v := ?_) rfl (by kernel_rfl) (by kernel_rfl) (by kernel_rfl) (fun _ _ _ h => h) (Or.inl ⟨by rfl, ?_⟩) hHeld0 ?_
        rotate_left
        · (intro w hSw; (try dsimp only at hSw); go_simp; (first | done | (with_reducible rfl) | (rw [if_neg (by omega)]) | (rw [if_neg (by simp only [ByteArray.size_append]; omega)])))
        (try simp only [Act.put, List.setIfInBounds_toArray, List.set_cons_zero, List.set_cons_succ])
        refine wpAnyH_take (i := 1) (oi := { dst := some 11, op := Go.Op.move (Go.Operand.tmp 3), type := 3, pos := "l3_log.go:21", after := #[], guard := none }) (v := ?_) rfl (by kernel_rfl) (by kernel_rfl) (by kernel_rfl) (fun _ _ _ h => h) (Or.inl ⟨by rfl, ?_⟩) hHeld0 ?_
        rotate_left
        · (intro w hSw; (try dsimp only at hSw); go_simp; (first | done | (with_reducible rfl) | (rw [if_neg (by omega)]) | (rw [if_neg (by simp only [ByteArray.size_append]; omega)])))
        (try simp only [Act.put, List.setIfInBounds_toArray, List.set_cons_zero, List.set_cons_succ])
        refine wpAnyH_take (i := 2) (oi := { dst := some 12, op := Go.Op.indexAddr 23 (Go.Operand.tmp 10) (Go.Operand.tmp 11), type := 0, pos := "l3_log.go:21", after := #[{ on := 0, ground := Go.Ground.data }, { on := 1, ground := Go.Ground.data }], guard := none }) (v := ?_) rfl (by kernel_rfl) (by kernel_rfl) (by kernel_rfl) (fun _ _ _ h => h) (Or.inl ⟨by rfl, ?_⟩) hHeld0 ?_
        rotate_left
        · (intro w hSw; (try dsimp only at hSw); go_simp; (first | done | (with_reducible rfl) | (rw [if_neg (by omega)]) | (rw [if_neg (by simp only [ByteArray.size_append]; omega)])))
        (try simp only [Act.put, List.setIfInBounds_toArray, List.set_cons_zero, List.set_cons_succ])
        refine wpAnyH_take (i := 3) (oi := { dst := some 13, op := Go.Op.load 27 (Go.Operand.tmp 12), type := 27, pos := "l3_log.go:21", after := #[{ on := 2, ground := Go.Ground.data }], guard := none }) (v := ?_) rfl (by kernel_rfl) (by kernel_rfl) (by kernel_rfl) (fun _ _ _ h => h) (Or.inl ⟨by rfl, ?_⟩) hHeld0 ?_
        rotate_left
        · (intro w hSw; (try dsimp only at hSw); go_simp; (first | done | (with_reducible rfl) | (rw [if_neg (by omega)]) | (rw [if_neg (by simp only [ByteArray.size_append]; omega)])))
        (try simp only [Act.put, List.setIfInBounds_toArray, List.set_cons_zero, List.set_cons_succ])
        refine wpAnyH_ready (rs := [4]) (by kernel_rfl) (by simp) ?_
        refine AllReadyH.cons (o := { dst := some 14, op := Go.Op.call { callee := Go.Callee.value (Go.Operand.func 32), args := #[Go.Operand.tmp 13], argTypes := #[27] }, type := 4, pos := "l3_log.go:21", after := #[{ on := 3, ground := Go.Ground.data }], guard := none }) rfl (fun K hK => ?_) AllReadyH.nil
        go_simp
        (with_reducible refine (specRecOk_any r _).mono ?_)
        rintro e w2 ⟨rfl, b2⟩
        rw [Hok.out]
        have B2 : Hid (Below w.heap.size w w2) := Hb.out.drew.trans (b2.mono (by simp; omega))
        have R2 : Hid (RdR w2 g o rs) := Hr.out.keep (b2.block g (by simp; omega))
        have l2 : w.heap.size ≤ w2.heap.size := B2.out.size
        obtain ⟨d0, d1, d2, d3, d4, d5, d6, d7⟩ := HA.out.keep (w' := w2) (b2.block g (by simp; omega))
        clear b2
        (try go_wp2_with fail)
        refine hK.out _ _ ?_ (fun hHeld1 => ?_)
        · (first | (with_reducible exact ⟨c0, c1, c2, c3, c4, c5, c6, c7⟩) | (with_reducible exact ⟨d0, d1, d2, d3, d4, d5, d6, d7⟩) | exact ⟨c0, c1, c2, c3, c4, c5, c6, c7⟩)
        clear hK K hHeld0
        (try simp only [Act.put, List.setIfInBounds_toArray, List.set_cons_zero, List.set_cons_succ])
        refine wpAnyH_take (i := 5) (oi := { dst := some 15, op := Go.Op.unOp Go.UnOp.not 4 (Go.Operand.tmp 14), type := 4, pos := "l3_log.go:21", after := #[{ on := 4, ground := Go.Ground.data }], guard := none }) (v := ?_) rfl (by kernel_rfl) (by kernel_rfl) (by kernel_rfl) (fun _ _ _ h => h) (Or.inl ⟨by rfl, ?_⟩) hHeld1 ?_
        rotate_left
        · (intro w hSw; (try dsimp only at hSw); go_simp; (first | done | (with_reducible rfl) | (rw [if_neg (by omega)]) | (rw [if_neg (by simp only [ByteArray.size_append]; omega)])))
        (try simp only [Act.put, List.setIfInBounds_toArray, List.set_cons_zero, List.set_cons_succ])
        refine wpAnyH_take (i := 6) (oi := { dst := some 16, op := Go.Op.move (Go.Operand.tmp 15), type := 4, pos := "l3_log.go:21", after := #[{ on := 5, ground := Go.Ground.data }, { on := 4, ground := Go.Ground.chain }], guard := none }) (v := ?_) rfl (by kernel_rfl) (by kernel_rfl) (by kernel_rfl) (fun _ _ _ h => h) (Or.inl ⟨by rfl, ?_⟩) hHeld1 ?_
        rotate_left
        · (intro w hSw; (try dsimp only at hSw); go_simp; (first | done | (with_reducible rfl) | (rw [if_neg (by omega)]) | (rw [if_neg (by simp only [ByteArray.size_append]; omega)])))
        (try simp only [Act.put, List.setIfInBounds_toArray, List.set_cons_zero, List.set_cons_succ])
        refine skipH (i := 7) (oi := { dst := some 17, op := Go.Op.move (Go.Operand.tmp 0), type := 23, pos := "l3_log.go:21", after := #[{ on := 6, ground := Go.Ground.guard }], guard := some (6, false) }) rfl (by kernel_rfl) (by kernel_rfl) (by kernel_rfl) (fun _ _ _ h => h) (by rfl) hHeld1 ?_
        (try simp only [Act.put, List.setIfInBounds_toArray, List.set_cons_zero, List.set_cons_succ])
        refine skipH (i := 8) (oi := { dst := some 18, op := Go.Op.move (Go.Operand.tmp 3), type := 3, pos := "l3_log.go:21", after := #[{ on := 6, ground := Go.Ground.guard }], guard := some (6, false) }) rfl (by kernel_rfl) (by kernel_rfl) (by kernel_rfl) (fun _ _ _ h => h) (by rfl) hHeld1 ?_
        (try simp only [Act.put, List.setIfInBounds_toArray, List.set_cons_zero, List.set_cons_succ])
        refine skipH (i := 9) (oi := { dst := some 19, op := Go.Op.indexAddr 23 (Go.Operand.tmp 17) (Go.Operand.tmp 18), type := 0, pos := "l3_log.go:21", after := #[{ on := 7, ground := Go.Ground.data }, { on := 8, ground := Go.Ground.data }, { on := 6, ground := Go.Ground.guard }], guard := some (6, false) }) rfl (by kernel_rfl) (by kernel_rfl) (by kernel_rfl) (fun _ _ _ h => h) (by rfl) hHeld1 ?_
        (try simp only [Act.put, List.setIfInBounds_toArray, List.set_cons_zero, List.set_cons_succ])
        refine skipH (i := 10) (oi := { dst := some 20, op := Go.Op.fieldAddr 27 (Go.Operand.tmp 19) 6, type := 0, pos := "l3_log.go:21", after := #[{ on := 9, ground := Go.Ground.data }, { on := 6, ground := Go.Ground.guard }], guard := some (6, false) }) rfl (by kernel_rfl) (by kernel_rfl) (by kernel_rfl) (fun _ _ _ h => h) (by rfl) hHeld1 ?_
        (try simp only [Act.put, List.setIfInBounds_toArray, List.set_cons_zero, List.set_cons_succ])
        refine skipH (i := 11) (oi := { dst := some 21, op := Go.Op.load 3 (Go.Operand.tmp 20), type := 3, pos := "l3_log.go:21", after := #[{ on := 10, ground := Go.Ground.data }, { on := 6, ground := Go.Ground.guard }], guard := some (6, false) }) rfl (by kernel_rfl) (by kernel_rfl) (by kernel_rfl) (fun _ _ _ h => h) (by rfl) hHeld1 ?_
        (try simp only [Act.put, List.setIfInBounds_toArray, List.set_cons_zero, List.set_cons_succ])
        refine skipH (i := 12) (oi := { dst := some 22, op := Go.Op.move (Go.Operand.tmp 0), type := 23, pos := "l3_log.go:21", after := #[{ on := 6, ground := Go.Ground.guard }], guard := some (6, false) }) rfl (by kernel_rfl) (by kernel_rfl) (by kernel_rfl) (fun _ _ _ h => h) (by rfl) hHeld1 ?_
        (try simp only [Act.put, List.setIfInBounds_toArray, List.set_cons_zero, List.set_cons_succ])
        refine skipH (i := 13) (oi := { dst := some 23, op := Go.Op.move (Go.Operand.tmp 3), type := 3, pos := "l3_log.go:21", after := #[{ on := 6, ground := Go.Ground.guard }], guard := some (6, false) }) rfl (by kernel_rfl) (by kernel_rfl) (by kernel_rfl) (fun _ _ _ h => h) (by rfl) hHeld1 ?_
        (try simp only [Act.put, List.setIfInBounds_toArray, List.set_cons_zero, List.set_cons_succ])
        refine skipH (i := 14) (oi := { dst := some 24, op := Go.Op.slice 23 (Go.Operand.tmp 22) none (some (Go.Operand.tmp 23)) none, type := 23, pos := "l3_log.go:21", after := #[{ on := 12, ground := Go.Ground.data }, { on := 13, ground := Go.Ground.data }, { on := 6, ground := Go.Ground.guard }], guard := some (6, false) }) rfl (by kernel_rfl) (by kernel_rfl) (by kernel_rfl) (fun _ _ _ h => h) (by rfl) hHeld1 ?_
        (try simp only [Act.put, List.setIfInBounds_toArray, List.set_cons_zero, List.set_cons_succ])
        refine skipH (i := 15) (oi := { dst := some 25, op := Go.Op.move (Go.Operand.tmp 0), type := 23, pos := "l3_log.go:21", after := #[{ on := 6, ground := Go.Ground.guard }], guard := some (6, false) }) rfl (by kernel_rfl) (by kernel_rfl) (by kernel_rfl) (fun _ _ _ h => h) (by rfl) hHeld1 ?_
        (try simp only [Act.put, List.setIfInBounds_toArray, List.set_cons_zero, List.set_cons_succ])
        refine skipH (i := 16) (oi := { dst := some 26, op := Go.Op.move (Go.Operand.tmp 3), type := 3, pos := "l3_log.go:21", after := #[{ on := 6, ground := Go.Ground.guard }], guard := some (6, false) }) rfl (by kernel_rfl) (by kernel_rfl) (by kernel_rfl) (fun _ _ _ h => h) (by rfl) hHeld1 ?_
        (try simp only [Act.put, List.setIfInBounds_toArray, List.set_cons_zero, List.set_cons_succ])
        refine skipH (i := 17) (oi := { dst := some 27, op := Go.Op.indexAddr 23 (Go.Operand.tmp 25) (Go.Operand.tmp 26), type := 0, pos := "l3_log.go:21", after := #[{ on := 15, ground := Go.Ground.data }, { on := 16, ground := Go.Ground.data }, { on := 6, ground := Go.Ground.guard }], guard := some (6, false) }) rfl (by kernel_rfl) (by kernel_rfl) (by kernel_rfl) (fun _ _ _ h => h) (by rfl) hHeld1 ?_
        (try simp only [Act.put, List.setIfInBounds_toArray, List.set_cons_zero, List.set_cons_succ])
        refine skipH (i := 18) (oi := { dst := some 28, op := Go.Op.fieldAddr 27 (Go.Operand.tmp 27) 1, type := 0, pos := "l3_log.go:21", after := #[{ on := 17, ground := Go.Ground.data }, { on := 6, ground := Go.Ground.guard }], guard := some (6, false) }) rfl (by kernel_rfl) (by kernel_rfl) (by kernel_rfl) (fun _ _ _ h => h) (by rfl) hHeld1 ?_
        (try simp only [Act.put, List.setIfInBounds_toArray, List.set_cons_zero, List.set_cons_succ])
        refine skipH (i := 19) (oi := { dst := some 29, op := Go.Op.load 3 (Go.Operand.tmp 28), type := 3, pos := "l3_log.go:21", after := #[{ on := 18, ground := Go.Ground.data }, { on := 6, ground := Go.Ground.guard }], guard := some (6, false) }) rfl (by kernel_rfl) (by kernel_rfl) (by kernel_rfl) (fun _ _ _ h => h) (by rfl) hHeld1 ?_
        (try simp only [Act.put, List.setIfInBounds_toArray, List.set_cons_zero, List.set_cons_succ])
        refine skipH (i := 20) (oi := { dst := some 30, op := Go.Op.call { callee := Go.Callee.value (Go.Operand.func 33), args := #[Go.Operand.tmp 24, Go.Operand.tmp 29], argTypes := #[23, 3] }, type := 3, pos := "l3_log.go:21", after := #[{ on := 14, ground := Go.Ground.data }, { on := 19, ground := Go.Ground.data }, { on := 6, ground := Go.Ground.chain }, { on := 6, ground := Go.Ground.guard }], guard := some (6, false) }) rfl (by kernel_rfl) (by kernel_rfl) (by kernel_rfl) (fun _ _ _ h => h) (by rfl) hHeld1 ?_
        (try simp only [Act.put, List.setIfInBounds_toArray, List.set_cons_zero, List.set_cons_succ])
        refine skipH (i := 21) (oi := { dst := some 31, op := Go.Op.binOp Go.BinOp.neq 3 (Go.Operand.tmp 21) (Go.Operand.tmp 30) 3, type := 4, pos := "l3_log.go:21", after := #[{ on := 11, ground := Go.Ground.data }, { on := 20, ground := Go.Ground.data }, { on := 6, ground := Go.Ground.guard }], guard := some (6, false) }) rfl (by kernel_rfl) (by kernel_rfl) (by kernel_rfl) (fun _ _ _ h => h) (by rfl) hHeld1 ?_
        (try simp only [Act.put, List.setIfInBounds_toArray, List.set_cons_zero, List.set_cons_succ])
        refine wpAnyH_take (i := 22) (oi := { dst := some 32, op := Go.Op.pick (Go.Operand.tmp 16) (Go.Operand.const (Go.Value.bool true)) (Go.Operand.tmp 31), type := 4, pos := "l3_log.go:21", after := #[{ on := 6, ground := Go.Ground.data }, { on := 21, ground := Go.Ground.data }], guard := none }) (v := ?_) rfl (by kernel_rfl) (by kernel_rfl) (by kernel_rfl) (fun _ _ _ h => h) (Or.inl ⟨by rfl, ?_⟩) hHeld1 ?_
        rotate_left
        · (intro w hSw; (try dsimp only at hSw); go_simp; (first | done | (with_reducible rfl) | (rw [if_neg (by omega)]) | (rw [if_neg (by simp only [ByteArray.size_append]; omega)])))
        (try simp only [Act.put, List.setIfInBounds_toArray, List.set_cons_zero, List.set_cons_succ])
        refine wpAnyH_take (i := 23) (oi := { dst := some 33, op := Go.Op.move (Go.Operand.tmp 32), type := 4, pos := "l3_log.go:21", after := #[{ on := 22, ground := Go.Ground.data }, { on := 20, ground := Go.Ground.chain }], guard := none }) (v := ?_) rfl (by kernel_rfl) (by kernel_rfl) (by kernel_rfl) (fun _ _ _ h => h) (Or.inl ⟨by rfl, ?_⟩) hHeld1 ?_
        rotate_left
        · (intro w hSw; (try dsimp only at hSw); go_simp; (first | done | (with_reducible rfl) | (rw [if_neg (by omega)]) | (rw [if_neg (by simp only [ByteArray.size_append]; omega)])))
        (try simp only [Act.put, List.setIfInBounds_toArray, List.set_cons_zero, List.set_cons_succ])
        refine skipH (i := 24) (oi := { dst := some 34, op := Go.Op.move (Go.Operand.tmp 0), type := 23, pos := "l3_log.go:21", after := #[{ on := 23, ground := Go.Ground.guard }], guard := some (23, false) }) rfl (by kernel_rfl) (by kernel_rfl) (by kernel_rfl) (fun _ _ _ h => h) (by rfl) hHeld1 ?_
        (try simp only [Act.put, List.setIfInBounds_toArray, List.set_cons_zero, List.set_cons_succ])
        refine skipH (i := 25) (oi := { dst := some 35, op := Go.Op.move (Go.Operand.tmp 3), type := 3, pos := "l3_log.go:21", after := #[{ on := 23, ground := Go.Ground.guard }], guard := some (23, false) }) rfl (by kernel_rfl) (by kernel_rfl) (by kernel_rfl) (fun _ _ _ h => h) (by rfl) hHeld1 ?_
        (try simp only [Act.put, List.setIfInBounds_toArray, List.set_cons_zero, List.set_cons_succ])
        refine skipH (i := 26) (oi := { dst := some 36, op := Go.Op.indexAddr 23 (Go.Operand.tmp 34) (Go.Operand.tmp 35), type := 0, pos := "l3_log.go:21", after := #[{ on := 24, ground := Go.Ground.data }, { on := 25, ground := Go.Ground.data }, { on := 23, ground := Go.Ground.guard }], guard := some (23, false) }) rfl (by kernel_rfl) (by kernel_rfl) (by kernel_rfl) (fun _ _ _ h => h) (by rfl) hHeld1 ?_
        (try simp only [Act.put, List.setIfInBounds_toArray, List.set_cons_zero, List.set_cons_succ])
        refine skipH (i := 27) (oi := { dst := some 37, op := Go.Op.fieldAddr 27 (Go.Operand.tmp 36) 7, type := 0, pos := "l3_log.go:21", after := #[{ on := 26, ground := Go.Ground.data }, { on := 23, ground := Go.Ground.guard }], guard := some (23, false) }) rfl (by kernel_rfl) (by kernel_rfl) (by kernel_rfl) (fun _ _ _ h => h) (by rfl) hHeld1 ?_
        (try simp only [Act.put, List.setIfInBounds_toArray, List.set_cons_zero, List.set_cons_succ])
        refine skipH (i := 28) (oi := { dst := some 38, op := Go.Op.load 3 (Go.Operand.tmp 37), type := 3, pos := "l3_log.go:21", after := #[{ on := 27, ground := Go.Ground.data }, { on := 23, ground := Go.Ground.guard }], guard := some (23, false) }) rfl (by kernel_rfl) (by kernel_rfl) (by kernel_rfl) (fun _ _ _ h => h) (by rfl) hHeld1 ?_
        (try simp only [Act.put, List.setIfInBounds_toArray, List.set_cons_zero, List.set_cons_succ])
        refine skipH (i := 29) (oi := { dst := some 39, op := Go.Op.move (Go.Operand.tmp 3), type := 3, pos := "l3_log.go:21", after := #[{ on := 23, ground := Go.Ground.guard }], guard := some (23, false) }) rfl (by kernel_rfl) (by kernel_rfl) (by kernel_rfl) (fun _ _ _ h => h) (by rfl) hHeld1 ?_
        (try simp only [Act.put, List.setIfInBounds_toArray, List.set_cons_zero, List.set_cons_succ])
        refine skipH (i := 30) (oi := { dst := some 40, op := Go.Op.binOp Go.BinOp.gtr 3 (Go.Operand.tmp 38) (Go.Operand.tmp 39) 3, type := 4, pos := "l3_log.go:21", after := #[{ on := 28, ground := Go.Ground.data }, { on := 29, ground := Go.Ground.data }, { on := 23, ground := Go.Ground.guard }], guard := some (23, false) }) rfl (by kernel_rfl) (by kernel_rfl) (by kernel_rfl) (fun _ _ _ h => h) (by rfl) hHeld1 ?_
        (try simp only [Act.put, List.setIfInBounds_toArray, List.set_cons_zero, List.set_cons_succ])
        refine wpAnyH_take (i := 31) (oi := { dst := some 41, op := Go.Op.pick (Go.Operand.tmp 33) (Go.Operand.const (Go.Value.bool true)) (Go.Operand.tmp 40), type := 4, pos := "l3_log.go:21", after := #[{ on := 23, ground := Go.Ground.data }, { on := 30, ground := Go.Ground.data }], guard := none }) (v := ?_) rfl (by kernel_rfl) (by kernel_rfl) (by kernel_rfl) (fun _ _ _ h => h) (Or.inl ⟨by rfl, ?_⟩) hHeld1 ?_
        rotate_left
        · (intro w hSw; (try dsimp only at hSw); go_simp; (first | done | (with_reducible rfl) | (rw [if_neg (by omega)]) | (rw [if_neg (by simp only [ByteArray.size_append]; omega)])))
        (try simp only [Act.put, List.setIfInBounds_toArray, List.set_cons_zero, List.set_cons_succ])
        refine wpAnyH_done (by kernel_rfl) ?_ _
        clear hHeld1
        go_wp2
        go_ret
        exact ⟨ret_bool (logB_bad rs k hlt (by rw [Hp.out, Hok.out]; rfl)).symm, B2.out⟩
      · have Hok := Lib.hid hok
        clear hok
        by_cases hv : r.v = (l : Int)
        · have bv : (r.v != (l : Int)) = false := by simp [hv]
          have Hv := Lib.hid hv
          clear hv
          by_cases hx : r.x ≤ (k : Int)
          · have bx : decide ((k : Int) < r.x) = false := by simp; omega
            obtain ⟨x0, x1⟩ := okR_next r Hok.out
            go_wp2_with fail
            refine wp_region_held_drew (S := (fun w' => w'.cell? ⟨g, o + k * 8, none⟩ = some (.int .i64 r.k) ∧ w'.cell? ⟨g, o + k * 8 + 1, none⟩ = some (.int .i64 r.t) ∧ w'.cell? ⟨g, o + k * 8 + 2, none⟩ = some (.int .i64 r.p) ∧ w'.cell? ⟨g, o + k * 8 + 3, none⟩ = some (.int .i64 r.s) ∧ w'.cell? ⟨g, o + k * 8 + 4, none⟩ = some (.int .i64 r.o) ∧ w'.cell? ⟨g, o + k * 8 + 5, none⟩ = some (.int .i64 r.n) ∧ w'.cell? ⟨g, o + k * 8 + 6, none⟩ = some (.int .i64 r.v) ∧ w'.cell? ⟨g, o + k * 8 + 7, none⟩ = some (.int .i64 r.x))) (by kernel_rfl) ?_ (fun hHeld0 => ?_)
            · (first | (with_reducible exact ⟨c0, c1, c2, c3, c4, c5, c6, c7⟩) | (with_reducible exact ⟨d0, d1, d2, d3, d4, d5, d6, d7⟩) | exact ⟨c0, c1, c2, c3, c4, c5, c6, c7⟩)
            refine wpAnyH_take (i := 0) (oi := { dst := some 10, op := Go.Op.move (Go.Operand.tmp 0), type := 23, pos := "l3_log.go:21", after := #[], guard := none }) (v := ?_) rfl (by kernel_rfl) (by kernel_rfl) (by kernel_rfl) (fun _ _ _ h => h) (Or.inl ⟨by rfl, ?_⟩) hHeld0 ?_
            rotate_left
            · (intro w hSw; (try dsimp only at hSw); go_simp; (first | done | (with_reducible rfl) | (rw [if_neg (by omega)]) | (rw [if_neg (by simp only [ByteArray.size_append]; omega)])))
            (try simp only [Act.put, List.setIfInBounds_toArray, List.set_cons_zero, List.set_cons_succ])
            refine wpAnyH_take (i := 1) (oi := { dst := some 11, op := Go.Op.move (Go.Operand.tmp 3), type := 3, pos := "l3_log.go:21", after := #[], guard := none }) (v := ?_) rfl (by kernel_rfl) (by kernel_rfl) (by kernel_rfl) (fun _ _ _ h => h) (Or.inl ⟨by rfl, ?_⟩) hHeld0 ?_
            rotate_left
            · (intro w hSw; (try dsimp only at hSw); go_simp; (first | done | (with_reducible rfl) | (rw [if_neg (by omega)]) | (rw [if_neg (by simp only [ByteArray.size_append]; omega)])))
            (try simp only [Act.put, List.setIfInBounds_toArray, List.set_cons_zero, List.set_cons_succ])
            refine wpAnyH_take (i := 2) (oi := { dst := some 12, op := Go.Op.indexAddr 23 (Go.Operand.tmp 10) (Go.Operand.tmp 11), type := 0, pos := "l3_log.go:21", after := #[{ on := 0, ground := Go.Ground.data }, { on := 1, ground := Go.Ground.data }], guard := none }) (v := ?_) rfl (by kernel_rfl) (by kernel_rfl) (by kernel_rfl) (fun _ _ _ h => h) (Or.inl ⟨by rfl, ?_⟩) hHeld0 ?_
            rotate_left
            · (intro w hSw; (try dsimp only at hSw); go_simp; (first | done | (with_reducible rfl) | (rw [if_neg (by omega)]) | (rw [if_neg (by simp only [ByteArray.size_append]; omega)])))
            (try simp only [Act.put, List.setIfInBounds_toArray, List.set_cons_zero, List.set_cons_succ])
            refine wpAnyH_take (i := 3) (oi := { dst := some 13, op := Go.Op.load 27 (Go.Operand.tmp 12), type := 27, pos := "l3_log.go:21", after := #[{ on := 2, ground := Go.Ground.data }], guard := none }) (v := ?_) rfl (by kernel_rfl) (by kernel_rfl) (by kernel_rfl) (fun _ _ _ h => h) (Or.inl ⟨by rfl, ?_⟩) hHeld0 ?_
            rotate_left
            · (intro w hSw; (try dsimp only at hSw); go_simp; (first | done | (with_reducible rfl) | (rw [if_neg (by omega)]) | (rw [if_neg (by simp only [ByteArray.size_append]; omega)])))
            (try simp only [Act.put, List.setIfInBounds_toArray, List.set_cons_zero, List.set_cons_succ])
            refine wpAnyH_ready (rs := [4]) (by kernel_rfl) (by simp) ?_
            refine AllReadyH.cons (o := { dst := some 14, op := Go.Op.call { callee := Go.Callee.value (Go.Operand.func 32), args := #[Go.Operand.tmp 13], argTypes := #[27] }, type := 4, pos := "l3_log.go:21", after := #[{ on := 3, ground := Go.Ground.data }], guard := none }) rfl (fun K hK => ?_) AllReadyH.nil
            go_simp
            (with_reducible refine (specRecOk_any r _).mono ?_)
            rintro e w2 ⟨rfl, b2⟩
            rw [Hok.out]
            have B2 : Hid (Below w.heap.size w w2) := Hb.out.drew.trans (b2.mono (by simp; omega))
            have R2 : Hid (RdR w2 g o rs) := Hr.out.keep (b2.block g (by simp; omega))
            have l2 : w.heap.size ≤ w2.heap.size := B2.out.size
            obtain ⟨d0, d1, d2, d3, d4, d5, d6, d7⟩ := HA.out.keep (w' := w2) (b2.block g (by simp; omega))
            clear b2
            (try go_wp2_with fail)
            refine hK.out _ _ ?_ (fun hHeld1 => ?_)
            · (first | (with_reducible exact ⟨c0, c1, c2, c3, c4, c5, c6, c7⟩) | (with_reducible exact ⟨d0, d1, d2, d3, d4, d5, d6, d7⟩) | exact ⟨c0, c1, c2, c3, c4, c5, c6, c7⟩)
            clear hK K hHeld0
            (try simp only [Act.put, List.setIfInBounds_toArray, List.set_cons_zero, List.set_cons_succ])
            refine wpAnyH_take (i := 5) (oi := { dst := some 15, op := Go.Op.unOp Go.UnOp.not 4 (Go.Operand.tmp 14), type := 4, pos := "l3_log.go:21", after := #[{ on := 4, ground := Go.Ground.data }], guard := none }) (v := ?_) rfl (by kernel_rfl) (by kernel_rfl) (by kernel_rfl) (fun _ _ _ h => h) (Or.inl ⟨by rfl, ?_⟩) hHeld1 ?_
            rotate_left
            · (intro w hSw; (try dsimp only at hSw); go_simp; (first | done | (with_reducible rfl) | (rw [if_neg (by omega)]) | (rw [if_neg (by simp only [ByteArray.size_append]; omega)])))
            (try simp only [Act.put, List.setIfInBounds_toArray, List.set_cons_zero, List.set_cons_succ])
            refine wpAnyH_take (i := 6) (oi := { dst := some 16, op := Go.Op.move (Go.Operand.tmp 15), type := 4, pos := "l3_log.go:21", after := #[{ on := 5, ground := Go.Ground.data }, { on := 4, ground := Go.Ground.chain }], guard := none }) (v := ?_) rfl (by kernel_rfl) (by kernel_rfl) (by kernel_rfl) (fun _ _ _ h => h) (Or.inl ⟨by rfl, ?_⟩) hHeld1 ?_
            rotate_left
            · (intro w hSw; (try dsimp only at hSw); go_simp; (first | done | (with_reducible rfl) | (rw [if_neg (by omega)]) | (rw [if_neg (by simp only [ByteArray.size_append]; omega)])))
            (try simp only [Act.put, List.setIfInBounds_toArray, List.set_cons_zero, List.set_cons_succ])
            refine wpAnyH_take (i := 7) (oi := { dst := some 17, op := Go.Op.move (Go.Operand.tmp 0), type := 23, pos := "l3_log.go:21", after := #[{ on := 6, ground := Go.Ground.guard }], guard := some (6, false) }) (v := ?_) rfl (by kernel_rfl) (by kernel_rfl) (by kernel_rfl) (fun _ _ _ h => h) (Or.inl ⟨by rfl, ?_⟩) hHeld1 ?_
            rotate_left
            · (intro w hSw; (try dsimp only at hSw); go_simp; (first | done | (with_reducible rfl) | (rw [if_neg (by omega)]) | (rw [if_neg (by simp only [ByteArray.size_append]; omega)])))
            (try simp only [Act.put, List.setIfInBounds_toArray, List.set_cons_zero, List.set_cons_succ])
            refine wpAnyH_take (i := 8) (oi := { dst := some 18, op := Go.Op.move (Go.Operand.tmp 3), type := 3, pos := "l3_log.go:21", after := #[{ on := 6, ground := Go.Ground.guard }], guard := some (6, false) }) (v := ?_) rfl (by kernel_rfl) (by kernel_rfl) (by kernel_rfl) (fun _ _ _ h => h) (Or.inl ⟨by rfl, ?_⟩) hHeld1 ?_
            rotate_left
            · (intro w hSw; (try dsimp only at hSw); go_simp; (first | done | (with_reducible rfl) | (rw [if_neg (by omega)]) | (rw [if_neg (by simp only [ByteArray.size_append]; omega)])))
            (try simp only [Act.put, List.setIfInBounds_toArray, List.set_cons_zero, List.set_cons_succ])
            refine wpAnyH_take (i := 9) (oi := { dst := some 19, op := Go.Op.indexAddr 23 (Go.Operand.tmp 17) (Go.Operand.tmp 18), type := 0, pos := "l3_log.go:21", after := #[{ on := 7, ground := Go.Ground.data }, { on := 8, ground := Go.Ground.data }, { on := 6, ground := Go.Ground.guard }], guard := some (6, false) }) (v := ?_) rfl (by kernel_rfl) (by kernel_rfl) (by kernel_rfl) (fun _ _ _ h => h) (Or.inl ⟨by rfl, ?_⟩) hHeld1 ?_
            rotate_left
            · (intro w hSw; (try dsimp only at hSw); go_simp; (first | done | (with_reducible rfl) | (rw [if_neg (by omega)]) | (rw [if_neg (by simp only [ByteArray.size_append]; omega)])))
            (try simp only [Act.put, List.setIfInBounds_toArray, List.set_cons_zero, List.set_cons_succ])
            refine wpAnyH_take (i := 10) (oi := { dst := some 20, op := Go.Op.fieldAddr 27 (Go.Operand.tmp 19) 6, type := 0, pos := "l3_log.go:21", after := #[{ on := 9, ground := Go.Ground.data }, { on := 6, ground := Go.Ground.guard }], guard := some (6, false) }) (v := ?_) rfl (by kernel_rfl) (by kernel_rfl) (by kernel_rfl) (fun _ _ _ h => h) (Or.inl ⟨by rfl, ?_⟩) hHeld1 ?_
            rotate_left
            · (intro w hSw; (try dsimp only at hSw); go_simp; (first | done | (with_reducible rfl) | (rw [if_neg (by omega)]) | (rw [if_neg (by simp only [ByteArray.size_append]; omega)])))
            (try simp only [Act.put, List.setIfInBounds_toArray, List.set_cons_zero, List.set_cons_succ])
            refine wpAnyH_take (i := 11) (oi := { dst := some 21, op := Go.Op.load 3 (Go.Operand.tmp 20), type := 3, pos := "l3_log.go:21", after := #[{ on := 10, ground := Go.Ground.data }, { on := 6, ground := Go.Ground.guard }], guard := some (6, false) }) (v := ?_) rfl (by kernel_rfl) (by kernel_rfl) (by kernel_rfl) (fun _ _ _ h => h) (Or.inl ⟨by rfl, ?_⟩) hHeld1 ?_
            rotate_left
            · (intro w hSw; (try dsimp only at hSw); go_simp; (first | done | (with_reducible rfl) | (rw [if_neg (by omega)]) | (rw [if_neg (by simp only [ByteArray.size_append]; omega)])))
            (try simp only [Act.put, List.setIfInBounds_toArray, List.set_cons_zero, List.set_cons_succ])
            refine wpAnyH_take (i := 12) (oi := { dst := some 22, op := Go.Op.move (Go.Operand.tmp 0), type := 23, pos := "l3_log.go:21", after := #[{ on := 6, ground := Go.Ground.guard }], guard := some (6, false) }) (v := ?_) rfl (by kernel_rfl) (by kernel_rfl) (by kernel_rfl) (fun _ _ _ h => h) (Or.inl ⟨by rfl, ?_⟩) hHeld1 ?_
            rotate_left
            · (intro w hSw; (try dsimp only at hSw); go_simp; (first | done | (with_reducible rfl) | (rw [if_neg (by omega)]) | (rw [if_neg (by simp only [ByteArray.size_append]; omega)])))
            (try simp only [Act.put, List.setIfInBounds_toArray, List.set_cons_zero, List.set_cons_succ])
            refine wpAnyH_take (i := 13) (oi := { dst := some 23, op := Go.Op.move (Go.Operand.tmp 3), type := 3, pos := "l3_log.go:21", after := #[{ on := 6, ground := Go.Ground.guard }], guard := some (6, false) }) (v := ?_) rfl (by kernel_rfl) (by kernel_rfl) (by kernel_rfl) (fun _ _ _ h => h) (Or.inl ⟨by rfl, ?_⟩) hHeld1 ?_
            rotate_left
            · (intro w hSw; (try dsimp only at hSw); go_simp; (first | done | (with_reducible rfl) | (rw [if_neg (by omega)]) | (rw [if_neg (by simp only [ByteArray.size_append]; omega)])))
            (try simp only [Act.put, List.setIfInBounds_toArray, List.set_cons_zero, List.set_cons_succ])
            refine wpAnyH_take (i := 14) (oi := { dst := some 24, op := Go.Op.slice 23 (Go.Operand.tmp 22) none (some (Go.Operand.tmp 23)) none, type := 23, pos := "l3_log.go:21", after := #[{ on := 12, ground := Go.Ground.data }, { on := 13, ground := Go.Ground.data }, { on := 6, ground := Go.Ground.guard }], guard := some (6, false) }) (v := ?_) rfl (by kernel_rfl) (by kernel_rfl) (by kernel_rfl) (fun _ _ _ h => h) (Or.inl ⟨by rfl, ?_⟩) hHeld1 ?_
            rotate_left
            · (intro w hSw; (try dsimp only at hSw); go_simp; (first | done | (with_reducible rfl) | (rw [if_neg (by omega)]) | (rw [if_neg (by simp only [ByteArray.size_append]; omega)])))
            (try simp only [Act.put, List.setIfInBounds_toArray, List.set_cons_zero, List.set_cons_succ])
            refine wpAnyH_take (i := 15) (oi := { dst := some 25, op := Go.Op.move (Go.Operand.tmp 0), type := 23, pos := "l3_log.go:21", after := #[{ on := 6, ground := Go.Ground.guard }], guard := some (6, false) }) (v := ?_) rfl (by kernel_rfl) (by kernel_rfl) (by kernel_rfl) (fun _ _ _ h => h) (Or.inl ⟨by rfl, ?_⟩) hHeld1 ?_
            rotate_left
            · (intro w hSw; (try dsimp only at hSw); go_simp; (first | done | (with_reducible rfl) | (rw [if_neg (by omega)]) | (rw [if_neg (by simp only [ByteArray.size_append]; omega)])))
            (try simp only [Act.put, List.setIfInBounds_toArray, List.set_cons_zero, List.set_cons_succ])
            refine wpAnyH_take (i := 16) (oi := { dst := some 26, op := Go.Op.move (Go.Operand.tmp 3), type := 3, pos := "l3_log.go:21", after := #[{ on := 6, ground := Go.Ground.guard }], guard := some (6, false) }) (v := ?_) rfl (by kernel_rfl) (by kernel_rfl) (by kernel_rfl) (fun _ _ _ h => h) (Or.inl ⟨by rfl, ?_⟩) hHeld1 ?_
            rotate_left
            · (intro w hSw; (try dsimp only at hSw); go_simp; (first | done | (with_reducible rfl) | (rw [if_neg (by omega)]) | (rw [if_neg (by simp only [ByteArray.size_append]; omega)])))
            (try simp only [Act.put, List.setIfInBounds_toArray, List.set_cons_zero, List.set_cons_succ])
            refine wpAnyH_take (i := 17) (oi := { dst := some 27, op := Go.Op.indexAddr 23 (Go.Operand.tmp 25) (Go.Operand.tmp 26), type := 0, pos := "l3_log.go:21", after := #[{ on := 15, ground := Go.Ground.data }, { on := 16, ground := Go.Ground.data }, { on := 6, ground := Go.Ground.guard }], guard := some (6, false) }) (v := ?_) rfl (by kernel_rfl) (by kernel_rfl) (by kernel_rfl) (fun _ _ _ h => h) (Or.inl ⟨by rfl, ?_⟩) hHeld1 ?_
            rotate_left
            · (intro w hSw; (try dsimp only at hSw); go_simp; (first | done | (with_reducible rfl) | (rw [if_neg (by omega)]) | (rw [if_neg (by simp only [ByteArray.size_append]; omega)])))
            (try simp only [Act.put, List.setIfInBounds_toArray, List.set_cons_zero, List.set_cons_succ])
            refine wpAnyH_take (i := 18) (oi := { dst := some 28, op := Go.Op.fieldAddr 27 (Go.Operand.tmp 27) 1, type := 0, pos := "l3_log.go:21", after := #[{ on := 17, ground := Go.Ground.data }, { on := 6, ground := Go.Ground.guard }], guard := some (6, false) }) (v := ?_) rfl (by kernel_rfl) (by kernel_rfl) (by kernel_rfl) (fun _ _ _ h => h) (Or.inl ⟨by rfl, ?_⟩) hHeld1 ?_
            rotate_left
            · (intro w hSw; (try dsimp only at hSw); go_simp; (first | done | (with_reducible rfl) | (rw [if_neg (by omega)]) | (rw [if_neg (by simp only [ByteArray.size_append]; omega)])))
            (try simp only [Act.put, List.setIfInBounds_toArray, List.set_cons_zero, List.set_cons_succ])
            refine wpAnyH_take (i := 19) (oi := { dst := some 29, op := Go.Op.load 3 (Go.Operand.tmp 28), type := 3, pos := "l3_log.go:21", after := #[{ on := 18, ground := Go.Ground.data }, { on := 6, ground := Go.Ground.guard }], guard := some (6, false) }) (v := ?_) rfl (by kernel_rfl) (by kernel_rfl) (by kernel_rfl) (fun _ _ _ h => h) (Or.inl ⟨by rfl, ?_⟩) hHeld1 ?_
            rotate_left
            · (intro w hSw; (try dsimp only at hSw); go_simp; (first | done | (with_reducible rfl) | (rw [if_neg (by omega)]) | (rw [if_neg (by simp only [ByteArray.size_append]; omega)])))
            (try simp only [Act.put, List.setIfInBounds_toArray, List.set_cons_zero, List.set_cons_succ])
            refine wpAnyH_ready (rs := [20]) (by kernel_rfl) (by simp) ?_
            refine AllReadyH.cons (o := { dst := some 30, op := Go.Op.call { callee := Go.Callee.value (Go.Operand.func 33), args := #[Go.Operand.tmp 24, Go.Operand.tmp 29], argTypes := #[23, 3] }, type := 3, pos := "l3_log.go:21", after := #[{ on := 14, ground := Go.Ground.data }, { on := 19, ground := Go.Ground.data }, { on := 6, ground := Go.Ground.chain }, { on := 6, ground := Go.Ground.guard }], guard := some (6, false) }) rfl (fun K hK => ?_) AllReadyH.nil
            go_simp
            (with_reducible refine (l3Last_any rs k r.t (some ⟨g, o, none⟩) cap B w2 (by omega) (R2.out.recs hgB) mx).mono ?_)
            rintro e w3 ⟨rfl, rfl⟩
            rw [Hl.out]
            (try go_wp2_with fail)
            refine hK.out _ _ ?_ (fun hHeld2 => ?_)
            · (first | (with_reducible exact ⟨c0, c1, c2, c3, c4, c5, c6, c7⟩) | (with_reducible exact ⟨d0, d1, d2, d3, d4, d5, d6, d7⟩) | exact ⟨c0, c1, c2, c3, c4, c5, c6, c7⟩)
            clear hK K hHeld1
            (try simp only [Act.put, List.setIfInBounds_toArray, List.set_cons_zero, List.set_cons_succ])
            refine wpAnyH_take (i := 21) (oi := { dst := some 31, op := Go.Op.binOp Go.BinOp.neq 3 (Go.Operand.tmp 21) (Go.Operand.tmp 30) 3, type := 4, pos := "l3_log.go:21", after := #[{ on := 11, ground := Go.Ground.data }, { on := 20, ground := Go.Ground.data }, { on := 6, ground := Go.Ground.guard }], guard := some (6, false) }) (v := ?_) rfl (by kernel_rfl) (by kernel_rfl) (by kernel_rfl) (fun _ _ _ h => h) (Or.inl ⟨by rfl, ?_⟩) hHeld2 ?_
            rotate_left
            · (intro w hSw; (try dsimp only at hSw); go_simp; (first | done | (with_reducible rfl) | (rw [if_neg (by omega)]) | (rw [if_neg (by simp only [ByteArray.size_append]; omega)])))
            (try simp only [Act.put, List.setIfInBounds_toArray, List.set_cons_zero, List.set_cons_succ])
            refine wpAnyH_take (i := 22) (oi := { dst := some 32, op := Go.Op.pick (Go.Operand.tmp 16) (Go.Operand.const (Go.Value.bool true)) (Go.Operand.tmp 31), type := 4, pos := "l3_log.go:21", after := #[{ on := 6, ground := Go.Ground.data }, { on := 21, ground := Go.Ground.data }], guard := none }) (v := ?_) rfl (by kernel_rfl) (by kernel_rfl) (by kernel_rfl) (fun _ _ _ h => h) (Or.inl ⟨by rfl, ?_⟩) hHeld2 ?_
            rotate_left
            · (intro w hSw; (try dsimp only at hSw); go_simp; (first | done | (with_reducible rfl) | (rw [if_neg (by omega)]) | (rw [if_neg (by simp only [ByteArray.size_append]; omega)])))
            (try simp only [Act.put, List.setIfInBounds_toArray, List.set_cons_zero, List.set_cons_succ])
            refine wpAnyH_take (i := 23) (oi := { dst := some 33, op := Go.Op.move (Go.Operand.tmp 32), type := 4, pos := "l3_log.go:21", after := #[{ on := 22, ground := Go.Ground.data }, { on := 20, ground := Go.Ground.chain }], guard := none }) (v := ?_) rfl (by kernel_rfl) (by kernel_rfl) (by kernel_rfl) (fun _ _ _ h => h) (Or.inl ⟨by rfl, ?_⟩) hHeld2 ?_
            rotate_left
            · (intro w hSw; (try dsimp only at hSw); go_simp; (first | done | (with_reducible rfl) | (rw [if_neg (by omega)]) | (rw [if_neg (by simp only [ByteArray.size_append]; omega)])))
            (try simp only [Act.put, List.setIfInBounds_toArray, List.set_cons_zero, List.set_cons_succ])
            refine wpAnyH_take (i := 24) (oi := { dst := some 34, op := Go.Op.move (Go.Operand.tmp 0), type := 23, pos := "l3_log.go:21", after := #[{ on := 23, ground := Go.Ground.guard }], guard := some (23, false) }) (v := ?_) rfl (by kernel_rfl) (by kernel_rfl) (by kernel_rfl) (fun _ _ _ h => h) (Or.inl ⟨by rfl, ?_⟩) hHeld2 ?_
            rotate_left
            · (intro w hSw; (try dsimp only at hSw); go_simp; (first | done | (with_reducible rfl) | (rw [if_neg (by omega)]) | (rw [if_neg (by simp only [ByteArray.size_append]; omega)])))
            (try simp only [Act.put, List.setIfInBounds_toArray, List.set_cons_zero, List.set_cons_succ])
            refine wpAnyH_take (i := 25) (oi := { dst := some 35, op := Go.Op.move (Go.Operand.tmp 3), type := 3, pos := "l3_log.go:21", after := #[{ on := 23, ground := Go.Ground.guard }], guard := some (23, false) }) (v := ?_) rfl (by kernel_rfl) (by kernel_rfl) (by kernel_rfl) (fun _ _ _ h => h) (Or.inl ⟨by rfl, ?_⟩) hHeld2 ?_
            rotate_left
            · (intro w hSw; (try dsimp only at hSw); go_simp; (first | done | (with_reducible rfl) | (rw [if_neg (by omega)]) | (rw [if_neg (by simp only [ByteArray.size_append]; omega)])))
            (try simp only [Act.put, List.setIfInBounds_toArray, List.set_cons_zero, List.set_cons_succ])
            refine wpAnyH_take (i := 26) (oi := { dst := some 36, op := Go.Op.indexAddr 23 (Go.Operand.tmp 34) (Go.Operand.tmp 35), type := 0, pos := "l3_log.go:21", after := #[{ on := 24, ground := Go.Ground.data }, { on := 25, ground := Go.Ground.data }, { on := 23, ground := Go.Ground.guard }], guard := some (23, false) }) (v := ?_) rfl (by kernel_rfl) (by kernel_rfl) (by kernel_rfl) (fun _ _ _ h => h) (Or.inl ⟨by rfl, ?_⟩) hHeld2 ?_
            rotate_left
            · (intro w hSw; (try dsimp only at hSw); go_simp; (first | done | (with_reducible rfl) | (rw [if_neg (by omega)]) | (rw [if_neg (by simp only [ByteArray.size_append]; omega)])))
            (try simp only [Act.put, List.setIfInBounds_toArray, List.set_cons_zero, List.set_cons_succ])
            refine wpAnyH_take (i := 27) (oi := { dst := some 37, op := Go.Op.fieldAddr 27 (Go.Operand.tmp 36) 7, type := 0, pos := "l3_log.go:21", after := #[{ on := 26, ground := Go.Ground.data }, { on := 23, ground := Go.Ground.guard }], guard := some (23, false) }) (v := ?_) rfl (by kernel_rfl) (by kernel_rfl) (by kernel_rfl) (fun _ _ _ h => h) (Or.inl ⟨by rfl, ?_⟩) hHeld2 ?_
            rotate_left
            · (intro w hSw; (try dsimp only at hSw); go_simp; (first | done | (with_reducible rfl) | (rw [if_neg (by omega)]) | (rw [if_neg (by simp only [ByteArray.size_append]; omega)])))
            (try simp only [Act.put, List.setIfInBounds_toArray, List.set_cons_zero, List.set_cons_succ])
            refine wpAnyH_take (i := 28) (oi := { dst := some 38, op := Go.Op.load 3 (Go.Operand.tmp 37), type := 3, pos := "l3_log.go:21", after := #[{ on := 27, ground := Go.Ground.data }, { on := 23, ground := Go.Ground.guard }], guard := some (23, false) }) (v := ?_) rfl (by kernel_rfl) (by kernel_rfl) (by kernel_rfl) (fun _ _ _ h => h) (Or.inl ⟨by rfl, ?_⟩) hHeld2 ?_
            rotate_left
            · (intro w hSw; (try dsimp only at hSw); go_simp; (first | done | (with_reducible rfl) | (rw [if_neg (by omega)]) | (rw [if_neg (by simp only [ByteArray.size_append]; omega)])))
            (try simp only [Act.put, List.setIfInBounds_toArray, List.set_cons_zero, List.set_cons_succ])
            refine wpAnyH_take (i := 29) (oi := { dst := some 39, op := Go.Op.move (Go.Operand.tmp 3), type := 3, pos := "l3_log.go:21", after := #[{ on := 23, ground := Go.Ground.guard }], guard := some (23, false) }) (v := ?_) rfl (by kernel_rfl) (by kernel_rfl) (by kernel_rfl) (fun _ _ _ h => h) (Or.inl ⟨by rfl, ?_⟩) hHeld2 ?_
            rotate_left
            · (intro w hSw; (try dsimp only at hSw); go_simp; (first | done | (with_reducible rfl) | (rw [if_neg (by omega)]) | (rw [if_neg (by simp only [ByteArray.size_append]; omega)])))
            (try simp only [Act.put, List.setIfInBounds_toArray, List.set_cons_zero, List.set_cons_succ])
            refine wpAnyH_take (i := 30) (oi := { dst := some 40, op := Go.Op.binOp Go.BinOp.gtr 3 (Go.Operand.tmp 38) (Go.Operand.tmp 39) 3, type := 4, pos := "l3_log.go:21", after := #[{ on := 28, ground := Go.Ground.data }, { on := 29, ground := Go.Ground.data }, { on := 23, ground := Go.Ground.guard }], guard := some (23, false) }) (v := ?_) rfl (by kernel_rfl) (by kernel_rfl) (by kernel_rfl) (fun _ _ _ h => h) (Or.inl ⟨by rfl, ?_⟩) hHeld2 ?_
            rotate_left
            · (intro w hSw; (try dsimp only at hSw); go_simp; (first | done | (with_reducible rfl) | (rw [if_neg (by omega)]) | (rw [if_neg (by simp only [ByteArray.size_append]; omega)])))
            (try simp only [Act.put, List.setIfInBounds_toArray, List.set_cons_zero, List.set_cons_succ])
            refine wpAnyH_take (i := 31) (oi := { dst := some 41, op := Go.Op.pick (Go.Operand.tmp 33) (Go.Operand.const (Go.Value.bool true)) (Go.Operand.tmp 40), type := 4, pos := "l3_log.go:21", after := #[{ on := 23, ground := Go.Ground.data }, { on := 30, ground := Go.Ground.data }], guard := none }) (v := ?_) rfl (by kernel_rfl) (by kernel_rfl) (by kernel_rfl) (fun _ _ _ h => h) (Or.inl ⟨by rfl, ?_⟩) hHeld2 ?_
            rotate_left
            · (intro w hSw; (try dsimp only at hSw); go_simp; (first | done | (with_reducible rfl) | (rw [if_neg (by omega)]) | (rw [if_neg (by simp only [ByteArray.size_append]; omega)])))
            (try simp only [Act.put, List.setIfInBounds_toArray, List.set_cons_zero, List.set_cons_succ])
            refine wpAnyH_done (by kernel_rfl) ?_ _
            clear hHeld2
            clear c0 c1 c2 c3 c4 c5 c6 c7 HA
            by_cases hz : r.x = 0
            · have Hx : Hid (stepB rs k = true) := by
                show stepB rs k = true
                rw [Hp.out, Hok.out, Hv.out, hz]
                simp
              have bz : decide ((0 : Int) < r.x) = false := by simp; omega
              go_wp2_with fail
              go_quiet (fail)
              go_wp2
              exact ⟨⟨k + 1, by omega, by go_num, below_draws B2.out _, fun j hj => by
                rcases Nat.lt_succ_iff_lt_or_eq.1 hj with h | rfl
                · exact Hg.out j h
                · exact Hx.out⟩, by simp [intOf]; omega⟩
            · obtain ⟨m, hxm⟩ : ∃ m : Nat, r.x = (m : Int) + 1 := ⟨(r.x - 1).toNat, by omega⟩
              have hm : m < rs.length := by omega
              have e1 := (R2.out m hm).t
              have hmm : (r.x - 1).toNat = m := by omega
              have Hq : Hid (stepB rs k = ((recAt rs m).t == r.t)) := by
                show stepB rs k = ((recAt rs m).t == r.t)
                rw [Hp.out, Hok.out, Hv.out, hmm]
                simp [hx, hz]
              rw [hxm] at d7
              have bz : decide ((0 : Int) < (m : Int) + 1) = true := by rw [decide_eq_true_eq]; omega
              have hwr : IntKind.i64.wrap ((m : Int) + 1 - 1) = (m : Int) := by rw [IntWalk.i64_in _ (by omega)]; omega
              have hm0 : (0 : Int) ≤ (m : Int) := by omega
              have hm1 : (m : Int) < (rs.length : Int) := by omega
              clear hxm hmm hz hx bx x0 x1
              by_cases ht : (recAt rs m).t = r.t
              · have Hx : Hid (stepB rs k = true) := by
                  show stepB rs k = true
                  rw [Hq.out, ht]
                  simp
                have bt : ((recAt rs m).t != r.t) = false := by rw [ht]; simp
                generalize (recAt rs m).t = z at e1 bt
                clear ht
                go_wp2_with fail
                go_quiet (fail)
                go_wp2
                exact ⟨⟨k + 1, by omega, by go_num, below_draws B2.out _, fun j hj => by
                  rcases Nat.lt_succ_iff_lt_or_eq.1 hj with h | rfl
                  · exact Hg.out j h
                  · exact Hx.out⟩, by simp [intOf]; omega⟩
              · have Hx : Hid (stepB rs k = false) := by
                  show stepB rs k = false
                  rw [Hq.out]
                  exact beq_eq_false_iff_ne.2 ht
                have bt : ((recAt rs m).t != r.t) = true := bne_iff_ne.2 ht
                generalize (recAt rs m).t = z at e1 bt
                clear ht
                go_wp2_with fail
                go_quiet (fail)
                go_wp2
                go_ret
                exact ⟨ret_bool (logB_bad rs k hlt Hx.out).symm, below_draws B2.out _⟩
          · have bx : decide ((k : Int) < r.x) = true := by simp; omega
            have Hx : Hid (stepB rs k = false) := by
              show stepB rs k = false
              rw [Hp.out]
              simp [hx]
            go_wp2_with fail
            refine wp_region_held_drew (S := (fun w' => w'.cell? ⟨g, o + k * 8, none⟩ = some (.int .i64 r.k) ∧ w'.cell? ⟨g, o + k * 8 + 1, none⟩ = some (.int .i64 r.t) ∧ w'.cell? ⟨g, o + k * 8 + 2, none⟩ = some (.int .i64 r.p) ∧ w'.cell? ⟨g, o + k * 8 + 3, none⟩ = some (.int .i64 r.s) ∧ w'.cell? ⟨g, o + k * 8 + 4, none⟩ = some (.int .i64 r.o) ∧ w'.cell? ⟨g, o + k * 8 + 5, none⟩ = some (.int .i64 r.n) ∧ w'.cell? ⟨g, o + k * 8 + 6, none⟩ = some (.int .i64 r.v) ∧ w'.cell? ⟨g, o + k * 8 + 7, none⟩ = some (.int .i64 r.x))) (by kernel_rfl) ?_ (fun hHeld0 => ?_)
            · (first | (with_reducible exact ⟨c0, c1, c2, c3, c4, c5, c6, c7⟩) | (with_reducible exact ⟨d0, d1, d2, d3, d4, d5, d6, d7⟩) | exact ⟨c0, c1, c2, c3, c4, c5, c6, c7⟩)
            refine wpAnyH_take (i := 0) (oi := { dst := some 10, op := Go.Op.move (Go.Operand.tmp 0), type := 23, pos := "l3_log.go:21", after := #[], guard := none }) (v := ?_) rfl (by kernel_rfl) (by kernel_rfl) (by kernel_rfl) (fun _ _ _ h => h) (Or.inl ⟨by rfl, ?_⟩) hHeld0 ?_
            rotate_left
            · (intro w hSw; (try dsimp only at hSw); go_simp; (first | done | (with_reducible rfl) | (rw [if_neg (by omega)]) | (rw [if_neg (by simp only [ByteArray.size_append]; omega)])))
            (try simp only [Act.put, List.setIfInBounds_toArray, List.set_cons_zero, List.set_cons_succ])
            refine wpAnyH_take (i := 1) (oi := { dst := some 11, op := Go.Op.move (Go.Operand.tmp 3), type := 3, pos := "l3_log.go:21", after := #[], guard := none }) (v := ?_) rfl (by kernel_rfl) (by kernel_rfl) (by kernel_rfl) (fun _ _ _ h => h) (Or.inl ⟨by rfl, ?_⟩) hHeld0 ?_
            rotate_left
            · (intro w hSw; (try dsimp only at hSw); go_simp; (first | done | (with_reducible rfl) | (rw [if_neg (by omega)]) | (rw [if_neg (by simp only [ByteArray.size_append]; omega)])))
            (try simp only [Act.put, List.setIfInBounds_toArray, List.set_cons_zero, List.set_cons_succ])
            refine wpAnyH_take (i := 2) (oi := { dst := some 12, op := Go.Op.indexAddr 23 (Go.Operand.tmp 10) (Go.Operand.tmp 11), type := 0, pos := "l3_log.go:21", after := #[{ on := 0, ground := Go.Ground.data }, { on := 1, ground := Go.Ground.data }], guard := none }) (v := ?_) rfl (by kernel_rfl) (by kernel_rfl) (by kernel_rfl) (fun _ _ _ h => h) (Or.inl ⟨by rfl, ?_⟩) hHeld0 ?_
            rotate_left
            · (intro w hSw; (try dsimp only at hSw); go_simp; (first | done | (with_reducible rfl) | (rw [if_neg (by omega)]) | (rw [if_neg (by simp only [ByteArray.size_append]; omega)])))
            (try simp only [Act.put, List.setIfInBounds_toArray, List.set_cons_zero, List.set_cons_succ])
            refine wpAnyH_take (i := 3) (oi := { dst := some 13, op := Go.Op.load 27 (Go.Operand.tmp 12), type := 27, pos := "l3_log.go:21", after := #[{ on := 2, ground := Go.Ground.data }], guard := none }) (v := ?_) rfl (by kernel_rfl) (by kernel_rfl) (by kernel_rfl) (fun _ _ _ h => h) (Or.inl ⟨by rfl, ?_⟩) hHeld0 ?_
            rotate_left
            · (intro w hSw; (try dsimp only at hSw); go_simp; (first | done | (with_reducible rfl) | (rw [if_neg (by omega)]) | (rw [if_neg (by simp only [ByteArray.size_append]; omega)])))
            (try simp only [Act.put, List.setIfInBounds_toArray, List.set_cons_zero, List.set_cons_succ])
            refine wpAnyH_ready (rs := [4]) (by kernel_rfl) (by simp) ?_
            refine AllReadyH.cons (o := { dst := some 14, op := Go.Op.call { callee := Go.Callee.value (Go.Operand.func 32), args := #[Go.Operand.tmp 13], argTypes := #[27] }, type := 4, pos := "l3_log.go:21", after := #[{ on := 3, ground := Go.Ground.data }], guard := none }) rfl (fun K hK => ?_) AllReadyH.nil
            go_simp
            (with_reducible refine (specRecOk_any r _).mono ?_)
            rintro e w2 ⟨rfl, b2⟩
            rw [Hok.out]
            have B2 : Hid (Below w.heap.size w w2) := Hb.out.drew.trans (b2.mono (by simp; omega))
            have R2 : Hid (RdR w2 g o rs) := Hr.out.keep (b2.block g (by simp; omega))
            have l2 : w.heap.size ≤ w2.heap.size := B2.out.size
            obtain ⟨d0, d1, d2, d3, d4, d5, d6, d7⟩ := HA.out.keep (w' := w2) (b2.block g (by simp; omega))
            clear b2
            (try go_wp2_with fail)
            refine hK.out _ _ ?_ (fun hHeld1 => ?_)
            · (first | (with_reducible exact ⟨c0, c1, c2, c3, c4, c5, c6, c7⟩) | (with_reducible exact ⟨d0, d1, d2, d3, d4, d5, d6, d7⟩) | exact ⟨c0, c1, c2, c3, c4, c5, c6, c7⟩)
            clear hK K hHeld0
            (try simp only [Act.put, List.setIfInBounds_toArray, List.set_cons_zero, List.set_cons_succ])
            refine wpAnyH_take (i := 5) (oi := { dst := some 15, op := Go.Op.unOp Go.UnOp.not 4 (Go.Operand.tmp 14), type := 4, pos := "l3_log.go:21", after := #[{ on := 4, ground := Go.Ground.data }], guard := none }) (v := ?_) rfl (by kernel_rfl) (by kernel_rfl) (by kernel_rfl) (fun _ _ _ h => h) (Or.inl ⟨by rfl, ?_⟩) hHeld1 ?_
            rotate_left
            · (intro w hSw; (try dsimp only at hSw); go_simp; (first | done | (with_reducible rfl) | (rw [if_neg (by omega)]) | (rw [if_neg (by simp only [ByteArray.size_append]; omega)])))
            (try simp only [Act.put, List.setIfInBounds_toArray, List.set_cons_zero, List.set_cons_succ])
            refine wpAnyH_take (i := 6) (oi := { dst := some 16, op := Go.Op.move (Go.Operand.tmp 15), type := 4, pos := "l3_log.go:21", after := #[{ on := 5, ground := Go.Ground.data }, { on := 4, ground := Go.Ground.chain }], guard := none }) (v := ?_) rfl (by kernel_rfl) (by kernel_rfl) (by kernel_rfl) (fun _ _ _ h => h) (Or.inl ⟨by rfl, ?_⟩) hHeld1 ?_
            rotate_left
            · (intro w hSw; (try dsimp only at hSw); go_simp; (first | done | (with_reducible rfl) | (rw [if_neg (by omega)]) | (rw [if_neg (by simp only [ByteArray.size_append]; omega)])))
            (try simp only [Act.put, List.setIfInBounds_toArray, List.set_cons_zero, List.set_cons_succ])
            refine wpAnyH_take (i := 7) (oi := { dst := some 17, op := Go.Op.move (Go.Operand.tmp 0), type := 23, pos := "l3_log.go:21", after := #[{ on := 6, ground := Go.Ground.guard }], guard := some (6, false) }) (v := ?_) rfl (by kernel_rfl) (by kernel_rfl) (by kernel_rfl) (fun _ _ _ h => h) (Or.inl ⟨by rfl, ?_⟩) hHeld1 ?_
            rotate_left
            · (intro w hSw; (try dsimp only at hSw); go_simp; (first | done | (with_reducible rfl) | (rw [if_neg (by omega)]) | (rw [if_neg (by simp only [ByteArray.size_append]; omega)])))
            (try simp only [Act.put, List.setIfInBounds_toArray, List.set_cons_zero, List.set_cons_succ])
            refine wpAnyH_take (i := 8) (oi := { dst := some 18, op := Go.Op.move (Go.Operand.tmp 3), type := 3, pos := "l3_log.go:21", after := #[{ on := 6, ground := Go.Ground.guard }], guard := some (6, false) }) (v := ?_) rfl (by kernel_rfl) (by kernel_rfl) (by kernel_rfl) (fun _ _ _ h => h) (Or.inl ⟨by rfl, ?_⟩) hHeld1 ?_
            rotate_left
            · (intro w hSw; (try dsimp only at hSw); go_simp; (first | done | (with_reducible rfl) | (rw [if_neg (by omega)]) | (rw [if_neg (by simp only [ByteArray.size_append]; omega)])))
            (try simp only [Act.put, List.setIfInBounds_toArray, List.set_cons_zero, List.set_cons_succ])
            refine wpAnyH_take (i := 9) (oi := { dst := some 19, op := Go.Op.indexAddr 23 (Go.Operand.tmp 17) (Go.Operand.tmp 18), type := 0, pos := "l3_log.go:21", after := #[{ on := 7, ground := Go.Ground.data }, { on := 8, ground := Go.Ground.data }, { on := 6, ground := Go.Ground.guard }], guard := some (6, false) }) (v := ?_) rfl (by kernel_rfl) (by kernel_rfl) (by kernel_rfl) (fun _ _ _ h => h) (Or.inl ⟨by rfl, ?_⟩) hHeld1 ?_
            rotate_left
            · (intro w hSw; (try dsimp only at hSw); go_simp; (first | done | (with_reducible rfl) | (rw [if_neg (by omega)]) | (rw [if_neg (by simp only [ByteArray.size_append]; omega)])))
            (try simp only [Act.put, List.setIfInBounds_toArray, List.set_cons_zero, List.set_cons_succ])
            refine wpAnyH_take (i := 10) (oi := { dst := some 20, op := Go.Op.fieldAddr 27 (Go.Operand.tmp 19) 6, type := 0, pos := "l3_log.go:21", after := #[{ on := 9, ground := Go.Ground.data }, { on := 6, ground := Go.Ground.guard }], guard := some (6, false) }) (v := ?_) rfl (by kernel_rfl) (by kernel_rfl) (by kernel_rfl) (fun _ _ _ h => h) (Or.inl ⟨by rfl, ?_⟩) hHeld1 ?_
            rotate_left
            · (intro w hSw; (try dsimp only at hSw); go_simp; (first | done | (with_reducible rfl) | (rw [if_neg (by omega)]) | (rw [if_neg (by simp only [ByteArray.size_append]; omega)])))
            (try simp only [Act.put, List.setIfInBounds_toArray, List.set_cons_zero, List.set_cons_succ])
            refine wpAnyH_take (i := 11) (oi := { dst := some 21, op := Go.Op.load 3 (Go.Operand.tmp 20), type := 3, pos := "l3_log.go:21", after := #[{ on := 10, ground := Go.Ground.data }, { on := 6, ground := Go.Ground.guard }], guard := some (6, false) }) (v := ?_) rfl (by kernel_rfl) (by kernel_rfl) (by kernel_rfl) (fun _ _ _ h => h) (Or.inl ⟨by rfl, ?_⟩) hHeld1 ?_
            rotate_left
            · (intro w hSw; (try dsimp only at hSw); go_simp; (first | done | (with_reducible rfl) | (rw [if_neg (by omega)]) | (rw [if_neg (by simp only [ByteArray.size_append]; omega)])))
            (try simp only [Act.put, List.setIfInBounds_toArray, List.set_cons_zero, List.set_cons_succ])
            refine wpAnyH_take (i := 12) (oi := { dst := some 22, op := Go.Op.move (Go.Operand.tmp 0), type := 23, pos := "l3_log.go:21", after := #[{ on := 6, ground := Go.Ground.guard }], guard := some (6, false) }) (v := ?_) rfl (by kernel_rfl) (by kernel_rfl) (by kernel_rfl) (fun _ _ _ h => h) (Or.inl ⟨by rfl, ?_⟩) hHeld1 ?_
            rotate_left
            · (intro w hSw; (try dsimp only at hSw); go_simp; (first | done | (with_reducible rfl) | (rw [if_neg (by omega)]) | (rw [if_neg (by simp only [ByteArray.size_append]; omega)])))
            (try simp only [Act.put, List.setIfInBounds_toArray, List.set_cons_zero, List.set_cons_succ])
            refine wpAnyH_take (i := 13) (oi := { dst := some 23, op := Go.Op.move (Go.Operand.tmp 3), type := 3, pos := "l3_log.go:21", after := #[{ on := 6, ground := Go.Ground.guard }], guard := some (6, false) }) (v := ?_) rfl (by kernel_rfl) (by kernel_rfl) (by kernel_rfl) (fun _ _ _ h => h) (Or.inl ⟨by rfl, ?_⟩) hHeld1 ?_
            rotate_left
            · (intro w hSw; (try dsimp only at hSw); go_simp; (first | done | (with_reducible rfl) | (rw [if_neg (by omega)]) | (rw [if_neg (by simp only [ByteArray.size_append]; omega)])))
            (try simp only [Act.put, List.setIfInBounds_toArray, List.set_cons_zero, List.set_cons_succ])
            refine wpAnyH_take (i := 14) (oi := { dst := some 24, op := Go.Op.slice 23 (Go.Operand.tmp 22) none (some (Go.Operand.tmp 23)) none, type := 23, pos := "l3_log.go:21", after := #[{ on := 12, ground := Go.Ground.data }, { on := 13, ground := Go.Ground.data }, { on := 6, ground := Go.Ground.guard }], guard := some (6, false) }) (v := ?_) rfl (by kernel_rfl) (by kernel_rfl) (by kernel_rfl) (fun _ _ _ h => h) (Or.inl ⟨by rfl, ?_⟩) hHeld1 ?_
            rotate_left
            · (intro w hSw; (try dsimp only at hSw); go_simp; (first | done | (with_reducible rfl) | (rw [if_neg (by omega)]) | (rw [if_neg (by simp only [ByteArray.size_append]; omega)])))
            (try simp only [Act.put, List.setIfInBounds_toArray, List.set_cons_zero, List.set_cons_succ])
            refine wpAnyH_take (i := 15) (oi := { dst := some 25, op := Go.Op.move (Go.Operand.tmp 0), type := 23, pos := "l3_log.go:21", after := #[{ on := 6, ground := Go.Ground.guard }], guard := some (6, false) }) (v := ?_) rfl (by kernel_rfl) (by kernel_rfl) (by kernel_rfl) (fun _ _ _ h => h) (Or.inl ⟨by rfl, ?_⟩) hHeld1 ?_
            rotate_left
            · (intro w hSw; (try dsimp only at hSw); go_simp; (first | done | (with_reducible rfl) | (rw [if_neg (by omega)]) | (rw [if_neg (by simp only [ByteArray.size_append]; omega)])))
            (try simp only [Act.put, List.setIfInBounds_toArray, List.set_cons_zero, List.set_cons_succ])
            refine wpAnyH_take (i := 16) (oi := { dst := some 26, op := Go.Op.move (Go.Operand.tmp 3), type := 3, pos := "l3_log.go:21", after := #[{ on := 6, ground := Go.Ground.guard }], guard := some (6, false) }) (v := ?_) rfl (by kernel_rfl) (by kernel_rfl) (by kernel_rfl) (fun _ _ _ h => h) (Or.inl ⟨by rfl, ?_⟩) hHeld1 ?_
            rotate_left
            · (intro w hSw; (try dsimp only at hSw); go_simp; (first | done | (with_reducible rfl) | (rw [if_neg (by omega)]) | (rw [if_neg (by simp only [ByteArray.size_append]; omega)])))
            (try simp only [Act.put, List.setIfInBounds_toArray, List.set_cons_zero, List.set_cons_succ])
            refine wpAnyH_take (i := 17) (oi := { dst := some 27, op := Go.Op.indexAddr 23 (Go.Operand.tmp 25) (Go.Operand.tmp 26), type := 0, pos := "l3_log.go:21", after := #[{ on := 15, ground := Go.Ground.data }, { on := 16, ground := Go.Ground.data }, { on := 6, ground := Go.Ground.guard }], guard := some (6, false) }) (v := ?_) rfl (by kernel_rfl) (by kernel_rfl) (by kernel_rfl) (fun _ _ _ h => h) (Or.inl ⟨by rfl, ?_⟩) hHeld1 ?_
            rotate_left
            · (intro w hSw; (try dsimp only at hSw); go_simp; (first | done | (with_reducible rfl) | (rw [if_neg (by omega)]) | (rw [if_neg (by simp only [ByteArray.size_append]; omega)])))
            (try simp only [Act.put, List.setIfInBounds_toArray, List.set_cons_zero, List.set_cons_succ])
            refine wpAnyH_take (i := 18) (oi := { dst := some 28, op := Go.Op.fieldAddr 27 (Go.Operand.tmp 27) 1, type := 0, pos := "l3_log.go:21", after := #[{ on := 17, ground := Go.Ground.data }, { on := 6, ground := Go.Ground.guard }], guard := some (6, false) }) (v := ?_) rfl (by kernel_rfl) (by kernel_rfl) (by kernel_rfl) (fun _ _ _ h => h) (Or.inl ⟨by rfl, ?_⟩) hHeld1 ?_
            rotate_left
            · (intro w hSw; (try dsimp only at hSw); go_simp; (first | done | (with_reducible rfl) | (rw [if_neg (by omega)]) | (rw [if_neg (by simp only [ByteArray.size_append]; omega)])))
            (try simp only [Act.put, List.setIfInBounds_toArray, List.set_cons_zero, List.set_cons_succ])
            refine wpAnyH_take (i := 19) (oi := { dst := some 29, op := Go.Op.load 3 (Go.Operand.tmp 28), type := 3, pos := "l3_log.go:21", after := #[{ on := 18, ground := Go.Ground.data }, { on := 6, ground := Go.Ground.guard }], guard := some (6, false) }) (v := ?_) rfl (by kernel_rfl) (by kernel_rfl) (by kernel_rfl) (fun _ _ _ h => h) (Or.inl ⟨by rfl, ?_⟩) hHeld1 ?_
            rotate_left
            · (intro w hSw; (try dsimp only at hSw); go_simp; (first | done | (with_reducible rfl) | (rw [if_neg (by omega)]) | (rw [if_neg (by simp only [ByteArray.size_append]; omega)])))
            (try simp only [Act.put, List.setIfInBounds_toArray, List.set_cons_zero, List.set_cons_succ])
            refine wpAnyH_ready (rs := [20]) (by kernel_rfl) (by simp) ?_
            refine AllReadyH.cons (o := { dst := some 30, op := Go.Op.call { callee := Go.Callee.value (Go.Operand.func 33), args := #[Go.Operand.tmp 24, Go.Operand.tmp 29], argTypes := #[23, 3] }, type := 3, pos := "l3_log.go:21", after := #[{ on := 14, ground := Go.Ground.data }, { on := 19, ground := Go.Ground.data }, { on := 6, ground := Go.Ground.chain }, { on := 6, ground := Go.Ground.guard }], guard := some (6, false) }) rfl (fun K hK => ?_) AllReadyH.nil
            go_simp
            (with_reducible refine (l3Last_any rs k r.t (some ⟨g, o, none⟩) cap B w2 (by omega) (R2.out.recs hgB) mx).mono ?_)
            rintro e w3 ⟨rfl, rfl⟩
            rw [Hl.out]
            (try go_wp2_with fail)
            refine hK.out _ _ ?_ (fun hHeld2 => ?_)
            · (first | (with_reducible exact ⟨c0, c1, c2, c3, c4, c5, c6, c7⟩) | (with_reducible exact ⟨d0, d1, d2, d3, d4, d5, d6, d7⟩) | exact ⟨c0, c1, c2, c3, c4, c5, c6, c7⟩)
            clear hK K hHeld1
            (try simp only [Act.put, List.setIfInBounds_toArray, List.set_cons_zero, List.set_cons_succ])
            refine wpAnyH_take (i := 21) (oi := { dst := some 31, op := Go.Op.binOp Go.BinOp.neq 3 (Go.Operand.tmp 21) (Go.Operand.tmp 30) 3, type := 4, pos := "l3_log.go:21", after := #[{ on := 11, ground := Go.Ground.data }, { on := 20, ground := Go.Ground.data }, { on := 6, ground := Go.Ground.guard }], guard := some (6, false) }) (v := ?_) rfl (by kernel_rfl) (by kernel_rfl) (by kernel_rfl) (fun _ _ _ h => h) (Or.inl ⟨by rfl, ?_⟩) hHeld2 ?_
            rotate_left
            · (intro w hSw; (try dsimp only at hSw); go_simp; (first | done | (with_reducible rfl) | (rw [if_neg (by omega)]) | (rw [if_neg (by simp only [ByteArray.size_append]; omega)])))
            (try simp only [Act.put, List.setIfInBounds_toArray, List.set_cons_zero, List.set_cons_succ])
            refine wpAnyH_take (i := 22) (oi := { dst := some 32, op := Go.Op.pick (Go.Operand.tmp 16) (Go.Operand.const (Go.Value.bool true)) (Go.Operand.tmp 31), type := 4, pos := "l3_log.go:21", after := #[{ on := 6, ground := Go.Ground.data }, { on := 21, ground := Go.Ground.data }], guard := none }) (v := ?_) rfl (by kernel_rfl) (by kernel_rfl) (by kernel_rfl) (fun _ _ _ h => h) (Or.inl ⟨by rfl, ?_⟩) hHeld2 ?_
            rotate_left
            · (intro w hSw; (try dsimp only at hSw); go_simp; (first | done | (with_reducible rfl) | (rw [if_neg (by omega)]) | (rw [if_neg (by simp only [ByteArray.size_append]; omega)])))
            (try simp only [Act.put, List.setIfInBounds_toArray, List.set_cons_zero, List.set_cons_succ])
            refine wpAnyH_take (i := 23) (oi := { dst := some 33, op := Go.Op.move (Go.Operand.tmp 32), type := 4, pos := "l3_log.go:21", after := #[{ on := 22, ground := Go.Ground.data }, { on := 20, ground := Go.Ground.chain }], guard := none }) (v := ?_) rfl (by kernel_rfl) (by kernel_rfl) (by kernel_rfl) (fun _ _ _ h => h) (Or.inl ⟨by rfl, ?_⟩) hHeld2 ?_
            rotate_left
            · (intro w hSw; (try dsimp only at hSw); go_simp; (first | done | (with_reducible rfl) | (rw [if_neg (by omega)]) | (rw [if_neg (by simp only [ByteArray.size_append]; omega)])))
            (try simp only [Act.put, List.setIfInBounds_toArray, List.set_cons_zero, List.set_cons_succ])
            refine wpAnyH_take (i := 24) (oi := { dst := some 34, op := Go.Op.move (Go.Operand.tmp 0), type := 23, pos := "l3_log.go:21", after := #[{ on := 23, ground := Go.Ground.guard }], guard := some (23, false) }) (v := ?_) rfl (by kernel_rfl) (by kernel_rfl) (by kernel_rfl) (fun _ _ _ h => h) (Or.inl ⟨by rfl, ?_⟩) hHeld2 ?_
            rotate_left
            · (intro w hSw; (try dsimp only at hSw); go_simp; (first | done | (with_reducible rfl) | (rw [if_neg (by omega)]) | (rw [if_neg (by simp only [ByteArray.size_append]; omega)])))
            (try simp only [Act.put, List.setIfInBounds_toArray, List.set_cons_zero, List.set_cons_succ])
            refine wpAnyH_take (i := 25) (oi := { dst := some 35, op := Go.Op.move (Go.Operand.tmp 3), type := 3, pos := "l3_log.go:21", after := #[{ on := 23, ground := Go.Ground.guard }], guard := some (23, false) }) (v := ?_) rfl (by kernel_rfl) (by kernel_rfl) (by kernel_rfl) (fun _ _ _ h => h) (Or.inl ⟨by rfl, ?_⟩) hHeld2 ?_
            rotate_left
            · (intro w hSw; (try dsimp only at hSw); go_simp; (first | done | (with_reducible rfl) | (rw [if_neg (by omega)]) | (rw [if_neg (by simp only [ByteArray.size_append]; omega)])))
            (try simp only [Act.put, List.setIfInBounds_toArray, List.set_cons_zero, List.set_cons_succ])
            refine wpAnyH_take (i := 26) (oi := { dst := some 36, op := Go.Op.indexAddr 23 (Go.Operand.tmp 34) (Go.Operand.tmp 35), type := 0, pos := "l3_log.go:21", after := #[{ on := 24, ground := Go.Ground.data }, { on := 25, ground := Go.Ground.data }, { on := 23, ground := Go.Ground.guard }], guard := some (23, false) }) (v := ?_) rfl (by kernel_rfl) (by kernel_rfl) (by kernel_rfl) (fun _ _ _ h => h) (Or.inl ⟨by rfl, ?_⟩) hHeld2 ?_
            rotate_left
            · (intro w hSw; (try dsimp only at hSw); go_simp; (first | done | (with_reducible rfl) | (rw [if_neg (by omega)]) | (rw [if_neg (by simp only [ByteArray.size_append]; omega)])))
            (try simp only [Act.put, List.setIfInBounds_toArray, List.set_cons_zero, List.set_cons_succ])
            refine wpAnyH_take (i := 27) (oi := { dst := some 37, op := Go.Op.fieldAddr 27 (Go.Operand.tmp 36) 7, type := 0, pos := "l3_log.go:21", after := #[{ on := 26, ground := Go.Ground.data }, { on := 23, ground := Go.Ground.guard }], guard := some (23, false) }) (v := ?_) rfl (by kernel_rfl) (by kernel_rfl) (by kernel_rfl) (fun _ _ _ h => h) (Or.inl ⟨by rfl, ?_⟩) hHeld2 ?_
            rotate_left
            · (intro w hSw; (try dsimp only at hSw); go_simp; (first | done | (with_reducible rfl) | (rw [if_neg (by omega)]) | (rw [if_neg (by simp only [ByteArray.size_append]; omega)])))
            (try simp only [Act.put, List.setIfInBounds_toArray, List.set_cons_zero, List.set_cons_succ])
            refine wpAnyH_take (i := 28) (oi := { dst := some 38, op := Go.Op.load 3 (Go.Operand.tmp 37), type := 3, pos := "l3_log.go:21", after := #[{ on := 27, ground := Go.Ground.data }, { on := 23, ground := Go.Ground.guard }], guard := some (23, false) }) (v := ?_) rfl (by kernel_rfl) (by kernel_rfl) (by kernel_rfl) (fun _ _ _ h => h) (Or.inl ⟨by rfl, ?_⟩) hHeld2 ?_
            rotate_left
            · (intro w hSw; (try dsimp only at hSw); go_simp; (first | done | (with_reducible rfl) | (rw [if_neg (by omega)]) | (rw [if_neg (by simp only [ByteArray.size_append]; omega)])))
            (try simp only [Act.put, List.setIfInBounds_toArray, List.set_cons_zero, List.set_cons_succ])
            refine wpAnyH_take (i := 29) (oi := { dst := some 39, op := Go.Op.move (Go.Operand.tmp 3), type := 3, pos := "l3_log.go:21", after := #[{ on := 23, ground := Go.Ground.guard }], guard := some (23, false) }) (v := ?_) rfl (by kernel_rfl) (by kernel_rfl) (by kernel_rfl) (fun _ _ _ h => h) (Or.inl ⟨by rfl, ?_⟩) hHeld2 ?_
            rotate_left
            · (intro w hSw; (try dsimp only at hSw); go_simp; (first | done | (with_reducible rfl) | (rw [if_neg (by omega)]) | (rw [if_neg (by simp only [ByteArray.size_append]; omega)])))
            (try simp only [Act.put, List.setIfInBounds_toArray, List.set_cons_zero, List.set_cons_succ])
            refine wpAnyH_take (i := 30) (oi := { dst := some 40, op := Go.Op.binOp Go.BinOp.gtr 3 (Go.Operand.tmp 38) (Go.Operand.tmp 39) 3, type := 4, pos := "l3_log.go:21", after := #[{ on := 28, ground := Go.Ground.data }, { on := 29, ground := Go.Ground.data }, { on := 23, ground := Go.Ground.guard }], guard := some (23, false) }) (v := ?_) rfl (by kernel_rfl) (by kernel_rfl) (by kernel_rfl) (fun _ _ _ h => h) (Or.inl ⟨by rfl, ?_⟩) hHeld2 ?_
            rotate_left
            · (intro w hSw; (try dsimp only at hSw); go_simp; (first | done | (with_reducible rfl) | (rw [if_neg (by omega)]) | (rw [if_neg (by simp only [ByteArray.size_append]; omega)])))
            (try simp only [Act.put, List.setIfInBounds_toArray, List.set_cons_zero, List.set_cons_succ])
            refine wpAnyH_take (i := 31) (oi := { dst := some 41, op := Go.Op.pick (Go.Operand.tmp 33) (Go.Operand.const (Go.Value.bool true)) (Go.Operand.tmp 40), type := 4, pos := "l3_log.go:21", after := #[{ on := 23, ground := Go.Ground.data }, { on := 30, ground := Go.Ground.data }], guard := none }) (v := ?_) rfl (by kernel_rfl) (by kernel_rfl) (by kernel_rfl) (fun _ _ _ h => h) (Or.inl ⟨by rfl, ?_⟩) hHeld2 ?_
            rotate_left
            · (intro w hSw; (try dsimp only at hSw); go_simp; (first | done | (with_reducible rfl) | (rw [if_neg (by omega)]) | (rw [if_neg (by simp only [ByteArray.size_append]; omega)])))
            (try simp only [Act.put, List.setIfInBounds_toArray, List.set_cons_zero, List.set_cons_succ])
            refine wpAnyH_done (by kernel_rfl) ?_ _
            clear hHeld2
            go_wp2
            go_ret
            exact ⟨ret_bool (logB_bad rs k hlt Hx.out).symm, B2.out⟩
        · have bv : (r.v != (l : Int)) = true := by simp [hv]
          have Hx : Hid (stepB rs k = false) := by
            show stepB rs k = false
            rw [Hp.out]
            simp [hv]
          clear hv
          go_wp2_with fail
          refine wp_region_held_drew (S := (fun w' => w'.cell? ⟨g, o + k * 8, none⟩ = some (.int .i64 r.k) ∧ w'.cell? ⟨g, o + k * 8 + 1, none⟩ = some (.int .i64 r.t) ∧ w'.cell? ⟨g, o + k * 8 + 2, none⟩ = some (.int .i64 r.p) ∧ w'.cell? ⟨g, o + k * 8 + 3, none⟩ = some (.int .i64 r.s) ∧ w'.cell? ⟨g, o + k * 8 + 4, none⟩ = some (.int .i64 r.o) ∧ w'.cell? ⟨g, o + k * 8 + 5, none⟩ = some (.int .i64 r.n) ∧ w'.cell? ⟨g, o + k * 8 + 6, none⟩ = some (.int .i64 r.v) ∧ w'.cell? ⟨g, o + k * 8 + 7, none⟩ = some (.int .i64 r.x))) (by kernel_rfl) ?_ (fun hHeld0 => ?_)
          · (first | (with_reducible exact ⟨c0, c1, c2, c3, c4, c5, c6, c7⟩) | (with_reducible exact ⟨d0, d1, d2, d3, d4, d5, d6, d7⟩) | exact ⟨c0, c1, c2, c3, c4, c5, c6, c7⟩)
          refine wpAnyH_take (i := 0) (oi := { dst := some 10, op := Go.Op.move (Go.Operand.tmp 0), type := 23, pos := "l3_log.go:21", after := #[], guard := none }) (v := ?_) rfl (by kernel_rfl) (by kernel_rfl) (by kernel_rfl) (fun _ _ _ h => h) (Or.inl ⟨by rfl, ?_⟩) hHeld0 ?_
          rotate_left
          · (intro w hSw; (try dsimp only at hSw); go_simp; (first | done | (with_reducible rfl) | (rw [if_neg (by omega)]) | (rw [if_neg (by simp only [ByteArray.size_append]; omega)])))
          (try simp only [Act.put, List.setIfInBounds_toArray, List.set_cons_zero, List.set_cons_succ])
          refine wpAnyH_take (i := 1) (oi := { dst := some 11, op := Go.Op.move (Go.Operand.tmp 3), type := 3, pos := "l3_log.go:21", after := #[], guard := none }) (v := ?_) rfl (by kernel_rfl) (by kernel_rfl) (by kernel_rfl) (fun _ _ _ h => h) (Or.inl ⟨by rfl, ?_⟩) hHeld0 ?_
          rotate_left
          · (intro w hSw; (try dsimp only at hSw); go_simp; (first | done | (with_reducible rfl) | (rw [if_neg (by omega)]) | (rw [if_neg (by simp only [ByteArray.size_append]; omega)])))
          (try simp only [Act.put, List.setIfInBounds_toArray, List.set_cons_zero, List.set_cons_succ])
          refine wpAnyH_take (i := 2) (oi := { dst := some 12, op := Go.Op.indexAddr 23 (Go.Operand.tmp 10) (Go.Operand.tmp 11), type := 0, pos := "l3_log.go:21", after := #[{ on := 0, ground := Go.Ground.data }, { on := 1, ground := Go.Ground.data }], guard := none }) (v := ?_) rfl (by kernel_rfl) (by kernel_rfl) (by kernel_rfl) (fun _ _ _ h => h) (Or.inl ⟨by rfl, ?_⟩) hHeld0 ?_
          rotate_left
          · (intro w hSw; (try dsimp only at hSw); go_simp; (first | done | (with_reducible rfl) | (rw [if_neg (by omega)]) | (rw [if_neg (by simp only [ByteArray.size_append]; omega)])))
          (try simp only [Act.put, List.setIfInBounds_toArray, List.set_cons_zero, List.set_cons_succ])
          refine wpAnyH_take (i := 3) (oi := { dst := some 13, op := Go.Op.load 27 (Go.Operand.tmp 12), type := 27, pos := "l3_log.go:21", after := #[{ on := 2, ground := Go.Ground.data }], guard := none }) (v := ?_) rfl (by kernel_rfl) (by kernel_rfl) (by kernel_rfl) (fun _ _ _ h => h) (Or.inl ⟨by rfl, ?_⟩) hHeld0 ?_
          rotate_left
          · (intro w hSw; (try dsimp only at hSw); go_simp; (first | done | (with_reducible rfl) | (rw [if_neg (by omega)]) | (rw [if_neg (by simp only [ByteArray.size_append]; omega)])))
          (try simp only [Act.put, List.setIfInBounds_toArray, List.set_cons_zero, List.set_cons_succ])
          refine wpAnyH_ready (rs := [4]) (by kernel_rfl) (by simp) ?_
          refine AllReadyH.cons (o := { dst := some 14, op := Go.Op.call { callee := Go.Callee.value (Go.Operand.func 32), args := #[Go.Operand.tmp 13], argTypes := #[27] }, type := 4, pos := "l3_log.go:21", after := #[{ on := 3, ground := Go.Ground.data }], guard := none }) rfl (fun K hK => ?_) AllReadyH.nil
          go_simp
          (with_reducible refine (specRecOk_any r _).mono ?_)
          rintro e w2 ⟨rfl, b2⟩
          rw [Hok.out]
          have B2 : Hid (Below w.heap.size w w2) := Hb.out.drew.trans (b2.mono (by simp; omega))
          have R2 : Hid (RdR w2 g o rs) := Hr.out.keep (b2.block g (by simp; omega))
          have l2 : w.heap.size ≤ w2.heap.size := B2.out.size
          obtain ⟨d0, d1, d2, d3, d4, d5, d6, d7⟩ := HA.out.keep (w' := w2) (b2.block g (by simp; omega))
          clear b2
          (try go_wp2_with fail)
          refine hK.out _ _ ?_ (fun hHeld1 => ?_)
          · (first | (with_reducible exact ⟨c0, c1, c2, c3, c4, c5, c6, c7⟩) | (with_reducible exact ⟨d0, d1, d2, d3, d4, d5, d6, d7⟩) | exact ⟨c0, c1, c2, c3, c4, c5, c6, c7⟩)
          clear hK K hHeld0
          (try simp only [Act.put, List.setIfInBounds_toArray, List.set_cons_zero, List.set_cons_succ])
          refine wpAnyH_take (i := 5) (oi := { dst := some 15, op := Go.Op.unOp Go.UnOp.not 4 (Go.Operand.tmp 14), type := 4, pos := "l3_log.go:21", after := #[{ on := 4, ground := Go.Ground.data }], guard := none }) (v := ?_) rfl (by kernel_rfl) (by kernel_rfl) (by kernel_rfl) (fun _ _ _ h => h) (Or.inl ⟨by rfl, ?_⟩) hHeld1 ?_
          rotate_left
          · (intro w hSw; (try dsimp only at hSw); go_simp; (first | done | (with_reducible rfl) | (rw [if_neg (by omega)]) | (rw [if_neg (by simp only [ByteArray.size_append]; omega)])))
          (try simp only [Act.put, List.setIfInBounds_toArray, List.set_cons_zero, List.set_cons_succ])
          refine wpAnyH_take (i := 6) (oi := { dst := some 16, op := Go.Op.move (Go.Operand.tmp 15), type := 4, pos := "l3_log.go:21", after := #[{ on := 5, ground := Go.Ground.data }, { on := 4, ground := Go.Ground.chain }], guard := none }) (v := ?_) rfl (by kernel_rfl) (by kernel_rfl) (by kernel_rfl) (fun _ _ _ h => h) (Or.inl ⟨by rfl, ?_⟩) hHeld1 ?_
          rotate_left
          · (intro w hSw; (try dsimp only at hSw); go_simp; (first | done | (with_reducible rfl) | (rw [if_neg (by omega)]) | (rw [if_neg (by simp only [ByteArray.size_append]; omega)])))
          (try simp only [Act.put, List.setIfInBounds_toArray, List.set_cons_zero, List.set_cons_succ])
          refine wpAnyH_take (i := 7) (oi := { dst := some 17, op := Go.Op.move (Go.Operand.tmp 0), type := 23, pos := "l3_log.go:21", after := #[{ on := 6, ground := Go.Ground.guard }], guard := some (6, false) }) (v := ?_) rfl (by kernel_rfl) (by kernel_rfl) (by kernel_rfl) (fun _ _ _ h => h) (Or.inl ⟨by rfl, ?_⟩) hHeld1 ?_
          rotate_left
          · (intro w hSw; (try dsimp only at hSw); go_simp; (first | done | (with_reducible rfl) | (rw [if_neg (by omega)]) | (rw [if_neg (by simp only [ByteArray.size_append]; omega)])))
          (try simp only [Act.put, List.setIfInBounds_toArray, List.set_cons_zero, List.set_cons_succ])
          refine wpAnyH_take (i := 8) (oi := { dst := some 18, op := Go.Op.move (Go.Operand.tmp 3), type := 3, pos := "l3_log.go:21", after := #[{ on := 6, ground := Go.Ground.guard }], guard := some (6, false) }) (v := ?_) rfl (by kernel_rfl) (by kernel_rfl) (by kernel_rfl) (fun _ _ _ h => h) (Or.inl ⟨by rfl, ?_⟩) hHeld1 ?_
          rotate_left
          · (intro w hSw; (try dsimp only at hSw); go_simp; (first | done | (with_reducible rfl) | (rw [if_neg (by omega)]) | (rw [if_neg (by simp only [ByteArray.size_append]; omega)])))
          (try simp only [Act.put, List.setIfInBounds_toArray, List.set_cons_zero, List.set_cons_succ])
          refine wpAnyH_take (i := 9) (oi := { dst := some 19, op := Go.Op.indexAddr 23 (Go.Operand.tmp 17) (Go.Operand.tmp 18), type := 0, pos := "l3_log.go:21", after := #[{ on := 7, ground := Go.Ground.data }, { on := 8, ground := Go.Ground.data }, { on := 6, ground := Go.Ground.guard }], guard := some (6, false) }) (v := ?_) rfl (by kernel_rfl) (by kernel_rfl) (by kernel_rfl) (fun _ _ _ h => h) (Or.inl ⟨by rfl, ?_⟩) hHeld1 ?_
          rotate_left
          · (intro w hSw; (try dsimp only at hSw); go_simp; (first | done | (with_reducible rfl) | (rw [if_neg (by omega)]) | (rw [if_neg (by simp only [ByteArray.size_append]; omega)])))
          (try simp only [Act.put, List.setIfInBounds_toArray, List.set_cons_zero, List.set_cons_succ])
          refine wpAnyH_take (i := 10) (oi := { dst := some 20, op := Go.Op.fieldAddr 27 (Go.Operand.tmp 19) 6, type := 0, pos := "l3_log.go:21", after := #[{ on := 9, ground := Go.Ground.data }, { on := 6, ground := Go.Ground.guard }], guard := some (6, false) }) (v := ?_) rfl (by kernel_rfl) (by kernel_rfl) (by kernel_rfl) (fun _ _ _ h => h) (Or.inl ⟨by rfl, ?_⟩) hHeld1 ?_
          rotate_left
          · (intro w hSw; (try dsimp only at hSw); go_simp; (first | done | (with_reducible rfl) | (rw [if_neg (by omega)]) | (rw [if_neg (by simp only [ByteArray.size_append]; omega)])))
          (try simp only [Act.put, List.setIfInBounds_toArray, List.set_cons_zero, List.set_cons_succ])
          refine wpAnyH_take (i := 11) (oi := { dst := some 21, op := Go.Op.load 3 (Go.Operand.tmp 20), type := 3, pos := "l3_log.go:21", after := #[{ on := 10, ground := Go.Ground.data }, { on := 6, ground := Go.Ground.guard }], guard := some (6, false) }) (v := ?_) rfl (by kernel_rfl) (by kernel_rfl) (by kernel_rfl) (fun _ _ _ h => h) (Or.inl ⟨by rfl, ?_⟩) hHeld1 ?_
          rotate_left
          · (intro w hSw; (try dsimp only at hSw); go_simp; (first | done | (with_reducible rfl) | (rw [if_neg (by omega)]) | (rw [if_neg (by simp only [ByteArray.size_append]; omega)])))
          (try simp only [Act.put, List.setIfInBounds_toArray, List.set_cons_zero, List.set_cons_succ])
          refine wpAnyH_take (i := 12) (oi := { dst := some 22, op := Go.Op.move (Go.Operand.tmp 0), type := 23, pos := "l3_log.go:21", after := #[{ on := 6, ground := Go.Ground.guard }], guard := some (6, false) }) (v := ?_) rfl (by kernel_rfl) (by kernel_rfl) (by kernel_rfl) (fun _ _ _ h => h) (Or.inl ⟨by rfl, ?_⟩) hHeld1 ?_
          rotate_left
          · (intro w hSw; (try dsimp only at hSw); go_simp; (first | done | (with_reducible rfl) | (rw [if_neg (by omega)]) | (rw [if_neg (by simp only [ByteArray.size_append]; omega)])))
          (try simp only [Act.put, List.setIfInBounds_toArray, List.set_cons_zero, List.set_cons_succ])
          refine wpAnyH_take (i := 13) (oi := { dst := some 23, op := Go.Op.move (Go.Operand.tmp 3), type := 3, pos := "l3_log.go:21", after := #[{ on := 6, ground := Go.Ground.guard }], guard := some (6, false) }) (v := ?_) rfl (by kernel_rfl) (by kernel_rfl) (by kernel_rfl) (fun _ _ _ h => h) (Or.inl ⟨by rfl, ?_⟩) hHeld1 ?_
          rotate_left
          · (intro w hSw; (try dsimp only at hSw); go_simp; (first | done | (with_reducible rfl) | (rw [if_neg (by omega)]) | (rw [if_neg (by simp only [ByteArray.size_append]; omega)])))
          (try simp only [Act.put, List.setIfInBounds_toArray, List.set_cons_zero, List.set_cons_succ])
          refine wpAnyH_take (i := 14) (oi := { dst := some 24, op := Go.Op.slice 23 (Go.Operand.tmp 22) none (some (Go.Operand.tmp 23)) none, type := 23, pos := "l3_log.go:21", after := #[{ on := 12, ground := Go.Ground.data }, { on := 13, ground := Go.Ground.data }, { on := 6, ground := Go.Ground.guard }], guard := some (6, false) }) (v := ?_) rfl (by kernel_rfl) (by kernel_rfl) (by kernel_rfl) (fun _ _ _ h => h) (Or.inl ⟨by rfl, ?_⟩) hHeld1 ?_
          rotate_left
          · (intro w hSw; (try dsimp only at hSw); go_simp; (first | done | (with_reducible rfl) | (rw [if_neg (by omega)]) | (rw [if_neg (by simp only [ByteArray.size_append]; omega)])))
          (try simp only [Act.put, List.setIfInBounds_toArray, List.set_cons_zero, List.set_cons_succ])
          refine wpAnyH_take (i := 15) (oi := { dst := some 25, op := Go.Op.move (Go.Operand.tmp 0), type := 23, pos := "l3_log.go:21", after := #[{ on := 6, ground := Go.Ground.guard }], guard := some (6, false) }) (v := ?_) rfl (by kernel_rfl) (by kernel_rfl) (by kernel_rfl) (fun _ _ _ h => h) (Or.inl ⟨by rfl, ?_⟩) hHeld1 ?_
          rotate_left
          · (intro w hSw; (try dsimp only at hSw); go_simp; (first | done | (with_reducible rfl) | (rw [if_neg (by omega)]) | (rw [if_neg (by simp only [ByteArray.size_append]; omega)])))
          (try simp only [Act.put, List.setIfInBounds_toArray, List.set_cons_zero, List.set_cons_succ])
          refine wpAnyH_take (i := 16) (oi := { dst := some 26, op := Go.Op.move (Go.Operand.tmp 3), type := 3, pos := "l3_log.go:21", after := #[{ on := 6, ground := Go.Ground.guard }], guard := some (6, false) }) (v := ?_) rfl (by kernel_rfl) (by kernel_rfl) (by kernel_rfl) (fun _ _ _ h => h) (Or.inl ⟨by rfl, ?_⟩) hHeld1 ?_
          rotate_left
          · (intro w hSw; (try dsimp only at hSw); go_simp; (first | done | (with_reducible rfl) | (rw [if_neg (by omega)]) | (rw [if_neg (by simp only [ByteArray.size_append]; omega)])))
          (try simp only [Act.put, List.setIfInBounds_toArray, List.set_cons_zero, List.set_cons_succ])
          refine wpAnyH_take (i := 17) (oi := { dst := some 27, op := Go.Op.indexAddr 23 (Go.Operand.tmp 25) (Go.Operand.tmp 26), type := 0, pos := "l3_log.go:21", after := #[{ on := 15, ground := Go.Ground.data }, { on := 16, ground := Go.Ground.data }, { on := 6, ground := Go.Ground.guard }], guard := some (6, false) }) (v := ?_) rfl (by kernel_rfl) (by kernel_rfl) (by kernel_rfl) (fun _ _ _ h => h) (Or.inl ⟨by rfl, ?_⟩) hHeld1 ?_
          rotate_left
          · (intro w hSw; (try dsimp only at hSw); go_simp; (first | done | (with_reducible rfl) | (rw [if_neg (by omega)]) | (rw [if_neg (by simp only [ByteArray.size_append]; omega)])))
          (try simp only [Act.put, List.setIfInBounds_toArray, List.set_cons_zero, List.set_cons_succ])
          refine wpAnyH_take (i := 18) (oi := { dst := some 28, op := Go.Op.fieldAddr 27 (Go.Operand.tmp 27) 1, type := 0, pos := "l3_log.go:21", after := #[{ on := 17, ground := Go.Ground.data }, { on := 6, ground := Go.Ground.guard }], guard := some (6, false) }) (v := ?_) rfl (by kernel_rfl) (by kernel_rfl) (by kernel_rfl) (fun _ _ _ h => h) (Or.inl ⟨by rfl, ?_⟩) hHeld1 ?_
          rotate_left
          · (intro w hSw; (try dsimp only at hSw); go_simp; (first | done | (with_reducible rfl) | (rw [if_neg (by omega)]) | (rw [if_neg (by simp only [ByteArray.size_append]; omega)])))
          (try simp only [Act.put, List.setIfInBounds_toArray, List.set_cons_zero, List.set_cons_succ])
          refine wpAnyH_take (i := 19) (oi := { dst := some 29, op := Go.Op.load 3 (Go.Operand.tmp 28), type := 3, pos := "l3_log.go:21", after := #[{ on := 18, ground := Go.Ground.data }, { on := 6, ground := Go.Ground.guard }], guard := some (6, false) }) (v := ?_) rfl (by kernel_rfl) (by kernel_rfl) (by kernel_rfl) (fun _ _ _ h => h) (Or.inl ⟨by rfl, ?_⟩) hHeld1 ?_
          rotate_left
          · (intro w hSw; (try dsimp only at hSw); go_simp; (first | done | (with_reducible rfl) | (rw [if_neg (by omega)]) | (rw [if_neg (by simp only [ByteArray.size_append]; omega)])))
          (try simp only [Act.put, List.setIfInBounds_toArray, List.set_cons_zero, List.set_cons_succ])
          refine wpAnyH_ready (rs := [20]) (by kernel_rfl) (by simp) ?_
          refine AllReadyH.cons (o := { dst := some 30, op := Go.Op.call { callee := Go.Callee.value (Go.Operand.func 33), args := #[Go.Operand.tmp 24, Go.Operand.tmp 29], argTypes := #[23, 3] }, type := 3, pos := "l3_log.go:21", after := #[{ on := 14, ground := Go.Ground.data }, { on := 19, ground := Go.Ground.data }, { on := 6, ground := Go.Ground.chain }, { on := 6, ground := Go.Ground.guard }], guard := some (6, false) }) rfl (fun K hK => ?_) AllReadyH.nil
          go_simp
          (with_reducible refine (l3Last_any rs k r.t (some ⟨g, o, none⟩) cap B w2 (by omega) (R2.out.recs hgB) mx).mono ?_)
          rintro e w3 ⟨rfl, rfl⟩
          rw [Hl.out]
          (try go_wp2_with fail)
          refine hK.out _ _ ?_ (fun hHeld2 => ?_)
          · (first | (with_reducible exact ⟨c0, c1, c2, c3, c4, c5, c6, c7⟩) | (with_reducible exact ⟨d0, d1, d2, d3, d4, d5, d6, d7⟩) | exact ⟨c0, c1, c2, c3, c4, c5, c6, c7⟩)
          clear hK K hHeld1
          (try simp only [Act.put, List.setIfInBounds_toArray, List.set_cons_zero, List.set_cons_succ])
          refine wpAnyH_take (i := 21) (oi := { dst := some 31, op := Go.Op.binOp Go.BinOp.neq 3 (Go.Operand.tmp 21) (Go.Operand.tmp 30) 3, type := 4, pos := "l3_log.go:21", after := #[{ on := 11, ground := Go.Ground.data }, { on := 20, ground := Go.Ground.data }, { on := 6, ground := Go.Ground.guard }], guard := some (6, false) }) (v := ?_) rfl (by kernel_rfl) (by kernel_rfl) (by kernel_rfl) (fun _ _ _ h => h) (Or.inl ⟨by rfl, ?_⟩) hHeld2 ?_
          rotate_left
          · (intro w hSw; (try dsimp only at hSw); go_simp; (first | done | (with_reducible rfl) | (rw [if_neg (by omega)]) | (rw [if_neg (by simp only [ByteArray.size_append]; omega)])))
          (try simp only [Act.put, List.setIfInBounds_toArray, List.set_cons_zero, List.set_cons_succ])
          refine wpAnyH_take (i := 22) (oi := { dst := some 32, op := Go.Op.pick (Go.Operand.tmp 16) (Go.Operand.const (Go.Value.bool true)) (Go.Operand.tmp 31), type := 4, pos := "l3_log.go:21", after := #[{ on := 6, ground := Go.Ground.data }, { on := 21, ground := Go.Ground.data }], guard := none }) (v := ?_) rfl (by kernel_rfl) (by kernel_rfl) (by kernel_rfl) (fun _ _ _ h => h) (Or.inl ⟨by rfl, ?_⟩) hHeld2 ?_
          rotate_left
          · (intro w hSw; (try dsimp only at hSw); go_simp; (first | done | (with_reducible rfl) | (rw [if_neg (by omega)]) | (rw [if_neg (by simp only [ByteArray.size_append]; omega)])))
          (try simp only [Act.put, List.setIfInBounds_toArray, List.set_cons_zero, List.set_cons_succ])
          refine wpAnyH_take (i := 23) (oi := { dst := some 33, op := Go.Op.move (Go.Operand.tmp 32), type := 4, pos := "l3_log.go:21", after := #[{ on := 22, ground := Go.Ground.data }, { on := 20, ground := Go.Ground.chain }], guard := none }) (v := ?_) rfl (by kernel_rfl) (by kernel_rfl) (by kernel_rfl) (fun _ _ _ h => h) (Or.inl ⟨by rfl, ?_⟩) hHeld2 ?_
          rotate_left
          · (intro w hSw; (try dsimp only at hSw); go_simp; (first | done | (with_reducible rfl) | (rw [if_neg (by omega)]) | (rw [if_neg (by simp only [ByteArray.size_append]; omega)])))
          (try simp only [Act.put, List.setIfInBounds_toArray, List.set_cons_zero, List.set_cons_succ])
          refine skipH (i := 24) (oi := { dst := some 34, op := Go.Op.move (Go.Operand.tmp 0), type := 23, pos := "l3_log.go:21", after := #[{ on := 23, ground := Go.Ground.guard }], guard := some (23, false) }) rfl (by kernel_rfl) (by kernel_rfl) (by kernel_rfl) (fun _ _ _ h => h) (by rfl) hHeld2 ?_
          (try simp only [Act.put, List.setIfInBounds_toArray, List.set_cons_zero, List.set_cons_succ])
          refine skipH (i := 25) (oi := { dst := some 35, op := Go.Op.move (Go.Operand.tmp 3), type := 3, pos := "l3_log.go:21", after := #[{ on := 23, ground := Go.Ground.guard }], guard := some (23, false) }) rfl (by kernel_rfl) (by kernel_rfl) (by kernel_rfl) (fun _ _ _ h => h) (by rfl) hHeld2 ?_
          (try simp only [Act.put, List.setIfInBounds_toArray, List.set_cons_zero, List.set_cons_succ])
          refine skipH (i := 26) (oi := { dst := some 36, op := Go.Op.indexAddr 23 (Go.Operand.tmp 34) (Go.Operand.tmp 35), type := 0, pos := "l3_log.go:21", after := #[{ on := 24, ground := Go.Ground.data }, { on := 25, ground := Go.Ground.data }, { on := 23, ground := Go.Ground.guard }], guard := some (23, false) }) rfl (by kernel_rfl) (by kernel_rfl) (by kernel_rfl) (fun _ _ _ h => h) (by rfl) hHeld2 ?_
          (try simp only [Act.put, List.setIfInBounds_toArray, List.set_cons_zero, List.set_cons_succ])
          refine skipH (i := 27) (oi := { dst := some 37, op := Go.Op.fieldAddr 27 (Go.Operand.tmp 36) 7, type := 0, pos := "l3_log.go:21", after := #[{ on := 26, ground := Go.Ground.data }, { on := 23, ground := Go.Ground.guard }], guard := some (23, false) }) rfl (by kernel_rfl) (by kernel_rfl) (by kernel_rfl) (fun _ _ _ h => h) (by rfl) hHeld2 ?_
          (try simp only [Act.put, List.setIfInBounds_toArray, List.set_cons_zero, List.set_cons_succ])
          refine skipH (i := 28) (oi := { dst := some 38, op := Go.Op.load 3 (Go.Operand.tmp 37), type := 3, pos := "l3_log.go:21", after := #[{ on := 27, ground := Go.Ground.data }, { on := 23, ground := Go.Ground.guard }], guard := some (23, false) }) rfl (by kernel_rfl) (by kernel_rfl) (by kernel_rfl) (fun _ _ _ h => h) (by rfl) hHeld2 ?_
          (try simp only [Act.put, List.setIfInBounds_toArray, List.set_cons_zero, List.set_cons_succ])
          refine skipH (i := 29) (oi := { dst := some 39, op := Go.Op.move (Go.Operand.tmp 3), type := 3, pos := "l3_log.go:21", after := #[{ on := 23, ground := Go.Ground.guard }], guard := some (23, false) }) rfl (by kernel_rfl) (by kernel_rfl) (by kernel_rfl) (fun _ _ _ h => h) (by rfl) hHeld2 ?_
          (try simp only [Act.put, List.setIfInBounds_toArray, List.set_cons_zero, List.set_cons_succ])
          refine skipH (i := 30) (oi := { dst := some 40, op := Go.Op.binOp Go.BinOp.gtr 3 (Go.Operand.tmp 38) (Go.Operand.tmp 39) 3, type := 4, pos := "l3_log.go:21", after := #[{ on := 28, ground := Go.Ground.data }, { on := 29, ground := Go.Ground.data }, { on := 23, ground := Go.Ground.guard }], guard := some (23, false) }) rfl (by kernel_rfl) (by kernel_rfl) (by kernel_rfl) (fun _ _ _ h => h) (by rfl) hHeld2 ?_
          (try simp only [Act.put, List.setIfInBounds_toArray, List.set_cons_zero, List.set_cons_succ])
          refine wpAnyH_take (i := 31) (oi := { dst := some 41, op := Go.Op.pick (Go.Operand.tmp 33) (Go.Operand.const (Go.Value.bool true)) (Go.Operand.tmp 40), type := 4, pos := "l3_log.go:21", after := #[{ on := 23, ground := Go.Ground.data }, { on := 30, ground := Go.Ground.data }], guard := none }) (v := ?_) rfl (by kernel_rfl) (by kernel_rfl) (by kernel_rfl) (fun _ _ _ h => h) (Or.inl ⟨by rfl, ?_⟩) hHeld2 ?_
          rotate_left
          · (intro w hSw; (try dsimp only at hSw); go_simp; (first | done | (with_reducible rfl) | (rw [if_neg (by omega)]) | (rw [if_neg (by simp only [ByteArray.size_append]; omega)])))
          (try simp only [Act.put, List.setIfInBounds_toArray, List.set_cons_zero, List.set_cons_succ])
          refine wpAnyH_done (by kernel_rfl) ?_ _
          clear hHeld2
          go_wp2
          go_ret
          exact ⟨ret_bool (logB_bad rs k hlt Hx.out).symm, B2.out⟩
    · have Hb := Lib.hid hb
      clear hb hgood
      go_wp2
      go_ret
      exact ⟨ret_bool (by rw [logB_all rs (fun j hj => Hg.out j (by omega))]; simp; try omega), Hb.out⟩
end Go.Proofs.Ytejbmjdipfcblaa.Base
