/-
  Contracts of the laws' helpers on rows of pages: eqPageS, markPageS, heldPageS. Conditions: the slices lead to pages.
-/
import Derived.Test.YtoihdbcdlodkgaaPgNew
import Derived.Deep.RegionHeld3
import Derived.Deep.Cut
namespace Go.Proofs.Ytoihdbcdlodkgaa.Base
open Go.RowKit

/-- a page at its place in a row; its cells and slots may be written -/
structure PgIn (w : World) (rb j : Nat) (p : Pg) : Prop where
  c0 : w.cell? ⟨rb, j * 3, none⟩ = some (.int .i64 p.l)
  c1 : w.cell? ⟨rb, j * 3 + 1, none⟩ = some (.int .i64 p.o)
  c2 : w.cell? ⟨rb, j * 3 + 2, none⟩ = some (.slice (some ⟨p.g, p.q, none⟩) p.zs.length p.c)
  f0 : w.frozen? ⟨rb, j * 3, none⟩ = false
  f1 : w.frozen? ⟨rb, j * 3 + 1, none⟩ = false
  lt : rb < w.heap.size
  rd : Rd .i64 w p.g p.q p.zs
  wr : Wr w p.g p.q p.zs.length
  ne : p.g ≠ rb
theorem PgIn.keep {w w' : World} {rb j : Nat} {p : Pg} (h : PgIn w rb j p) (hs : w.heap.size ≤ w'.heap.size) (e : w'.heap[rb]? = w.heap[rb]?) (e' : w'.heap[p.g]? = w.heap[p.g]?) : PgIn w' rb j p :=
  ⟨(World.cell?_of_block (a := ⟨rb, j * 3, none⟩) e).trans h.c0, (World.cell?_of_block (a := ⟨rb, j * 3 + 1, none⟩) e).trans h.c1, (World.cell?_of_block (a := ⟨rb, j * 3 + 2, none⟩) e).trans h.c2,
    (World.frozen?_of_block (a := ⟨rb, j * 3, none⟩) e).trans h.f0, (World.frozen?_of_block (a := ⟨rb, j * 3 + 1, none⟩) e).trans h.f1, Nat.lt_of_lt_of_le h.lt hs, h.rd.keep e', h.wr.keep hs e', h.ne⟩
/-- all pages of a row; all of it lies from base on, and below B -/
structure Row (w : World) (base B rb : Nat) (ps : List Pg) : Prop where
  at_ : ∀ j p, ps[j]? = some p → PgIn w rb j p
  low : base ≤ rb ∧ ∀ p ∈ ps, base ≤ p.g
  up : rb < B ∧ ∀ p ∈ ps, p.g < B
theorem Row.below {w w' : World} {base B rb : Nat} {ps : List Pg} (h : Row w base B rb ps) (b : Below B w w') : Row w' base B rb ps :=
  ⟨fun j p hp => (h.at_ j p hp).keep b.size (b.block rb h.up.1) (b.block p.g (h.up.2 p (List.mem_of_getElem? hp))), h.low, h.up⟩
theorem Row.up' {w : World} {base B B' rb : Nat} {ps : List Pg} (h : Row w base B rb ps) (hb : B ≤ B') : Row w base B' rb ps :=
  ⟨h.at_, h.low, Nat.lt_of_lt_of_le h.up.1 hb, fun p hp => Nat.lt_of_lt_of_le (h.up.2 p hp) hb⟩
theorem OwnPs.open {w : World} {base : Nat} {v : Value} {ps : List Pg} (h : OwnPs w base v ps) (hn : 0 < ps.length) : ∃ rb cap, v = .slice (some ⟨rb, 0, none⟩) ps.length cap ∧ Row w base w.heap.size rb ps := by
  rcases h.row.2 with ⟨_, h0⟩ | ⟨g, cap, cur, rfl, hlow, hhas, hnc, hmax, hsz, htk⟩
  · omega
  · have hH : Has w g 44 cur := hhas
    refine ⟨g, cap, rfl, fun j p hp => ?_, ⟨hlow, fun p hp => (h.all p hp).low⟩, hH.lt, fun p hp => (h.all p hp).wr.1⟩
    have hj := (List.getElem?_eq_some_iff.1 hp).1
    have hm := List.mem_of_getElem? hp
    obtain ⟨e0, e1, e2⟩ := cellsOfPs_at ps j p hp
    have key : ∀ i, i < ps.length * 3 → w.cell? ⟨g, i, none⟩ = (cellsOfPs ps)[i]? := fun i hi => by
      rw [hH.cell, ← htk, List.getElem?_take_of_lt hi, Array.getElem?_toList]
    refine ⟨(key _ (by omega)).trans e0, (key _ (by omega)).trans e1, (key _ (by omega)).trans e2, hH.frozen _, hH.frozen _, hH.lt, (h.all p hm).rd, (h.all p hm).wr, fun e => ?_⟩
    have := h.apart (h.all p hm)
    simp [Value.ownBlock] at this
    exact this e.symm

set_option maxHeartbeats 4000000 in
theorem eqPageS_same (ps qs : List Pg) (ra rb ca cb base base' B : Nat) (w : World) (hB : B ≤ w.heap.size) (hx : Row w base B ra ps) (hy : Row w base' B rb qs) (hs : ps.map Pg.says = qs.map Pg.says) (mx : ps.length ≤ 1000000) (ms : ∀ p ∈ ps, p.zs.length ≤ 1000000) :
    Calls Try.prog 11 #[.slice (some ⟨ra, 0, none⟩) ps.length ca, .slice (some ⟨rb, 0, none⟩) qs.length cb] w (Keeps (.bool true) w) := by
  have hl : ps.length = qs.length := by simpa using congrArg List.length hs
  rw [← hl]
  have X := Lib.hid hx
  have Y := Lib.hid hy
  have S := Lib.hid hs
  have M := Lib.hid ms
  have L := Lib.hid hl
  clear hx hy hs ms hl
  go_enter Try.func11, Try.ntmps11
  go_wp2
  go_loopw [5] (fun i wx => ∃ k : Nat, k ≤ ps.length ∧ i = .int .i64 k ∧ Below w.heap.size w wx) (fun i _ => ps.length - (intOf i).toNat)
  case atStart => exact ⟨0, Nat.zero_le _, rfl, Below.refl _ _⟩
  case round =>
    obtain ⟨k, hk, rfl, hb⟩ := hrel
    have Hb := Lib.hid hb
    have hsz := hb.size
    clear hb
    by_cases hlt : k < ps.length
    · obtain ⟨p, hp⟩ : ∃ p, ps[k]? = some p := ⟨_, List.getElem?_eq_getElem hlt⟩
      obtain ⟨q, hq⟩ : ∃ q, qs[k]? = some q := ⟨_, List.getElem?_eq_getElem (by rw [← L.out]; exact hlt)⟩
      have hpq : p.says = q.says := by
        have e := congrArg (fun l => l[k]?) S.out
        simpa [hp, hq] using e
      have P1 := Lib.hid (((X.out.below (Hb.out.mono hB)).at_ k p hp))
      have Q1 := Lib.hid (((Y.out.below (Hb.out.mono hB)).at_ k q hq))
      have mp := M.out p (List.mem_of_getElem? hp)
      obtain ⟨pl, po, pg, pq, pc, pz⟩ := p
      obtain ⟨ql, qo, qg, qq, qc, qz⟩ := q
      simp only [Pg.says, Prod.mk.injEq] at hpq
      obtain ⟨rfl, rfl, rfl⟩ := hpq
      have HP := Lib.hid hp
      have HQ := Lib.hid hq
      clear hp hq
      have lp1 : pg < wr.heap.size := P1.out.wr.1
      have lq1 : qg < wr.heap.size := Q1.out.wr.1
      have IP : Hid (Ints .i64 wr.drew wr.heap.size (some ⟨pg, pq, none⟩) pz) := P1.out.rd.ints lp1
      have IQ : Hid (Ints .i64 wr.drew wr.heap.size (some ⟨qg, qq, none⟩) pz) := Q1.out.rd.ints lq1
      have hdr : wr.heap.size ≤ wr.drew.heap.size := Nat.le_refl _
      have mp9 : pz.length ≤ 1000000000 := Nat.le_trans mp (by omega)
      have c0 := P1.out.c0
      have c1 := P1.out.c1
      have c2 := P1.out.c2
      have d0 := Q1.out.c0
      have d1 := Q1.out.c1
      have d2 := Q1.out.c2
      simp only at c0 c1 c2 d0 d1 d2 mp
      have hlt' : (k : Int) < ps.length := by omega
      have k0 : (0 : Int) ≤ (k : Int) := by omega
      have Hs : Hid ((wr.drew.cell? ⟨ra, k * 3, none⟩ = some (.int .i64 pl) ∧ wr.drew.cell? ⟨ra, k * 3 + 1, none⟩ = some (.int .i64 po) ∧ wr.drew.cell? ⟨ra, k * 3 + 2, none⟩ = some (.slice (some ⟨pg, pq, none⟩) pz.length pc)) ∧ wr.drew.cell? ⟨rb, k * 3, none⟩ = some (.int .i64 pl) ∧ wr.drew.cell? ⟨rb, k * 3 + 1, none⟩ = some (.int .i64 po) ∧ wr.drew.cell? ⟨rb, k * 3 + 2, none⟩ = some (.slice (some ⟨qg, qq, none⟩) pz.length qc)) := ⟨⟨c0, c1, c2⟩, d0, d1, d2⟩
      go_wp2_with fail
      refine wp_region_held_drew (S := (fun w' => (w'.cell? ⟨ra, k * 3, none⟩ = some (.int .i64 pl) ∧ w'.cell? ⟨ra, k * 3 + 1, none⟩ = some (.int .i64 po) ∧ w'.cell? ⟨ra, k * 3 + 2, none⟩ = some (.slice (some ⟨pg, pq, none⟩) pz.length pc)) ∧ w'.cell? ⟨rb, k * 3, none⟩ = some (.int .i64 pl) ∧ w'.cell? ⟨rb, k * 3 + 1, none⟩ = some (.int .i64 po) ∧ w'.cell? ⟨rb, k * 3 + 2, none⟩ = some (.slice (some ⟨qg, qq, none⟩) pz.length qc))) (by kernel_rfl) ?_ (fun hHeld0 => ?_)
      · (first | exact Hs.out | exact Hs2.out)
      refine wpAnyH_take (i := 0) (oi := { dst := some 17, op := Go.Op.move (Go.Operand.tmp 0), type := 22, pos := "exact.go:77", after := #[], guard := none }) (v := ?_) rfl (by kernel_rfl) (by kernel_rfl) (by kernel_rfl) (fun _ _ _ h => h) (Or.inl ⟨by rfl, ?_⟩) hHeld0 ?_
      rotate_left
      · (intro w hSw; (try dsimp only at hSw); go_simp; (first | done | (with_reducible rfl) | (rw [if_neg (by omega)]) | (rw [if_neg (by simp only [ByteArray.size_append]; omega)])))
      (try simp only [Act.put, List.setIfInBounds_toArray, List.set_cons_zero, List.set_cons_succ])
      refine wpAnyH_take (i := 1) (oi := { dst := some 18, op := Go.Op.move (Go.Operand.tmp 5), type := 3, pos := "exact.go:77", after := #[], guard := none }) (v := ?_) rfl (by kernel_rfl) (by kernel_rfl) (by kernel_rfl) (fun _ _ _ h => h) (Or.inl ⟨by rfl, ?_⟩) hHeld0 ?_
      rotate_left
      · (intro w hSw; (try dsimp only at hSw); go_simp; (first | done | (with_reducible rfl) | (rw [if_neg (by omega)]) | (rw [if_neg (by simp only [ByteArray.size_append]; omega)])))
      (try simp only [Act.put, List.setIfInBounds_toArray, List.set_cons_zero, List.set_cons_succ])
      refine wpAnyH_take (i := 2) (oi := { dst := some 19, op := Go.Op.indexAddr 22 (Go.Operand.tmp 17) (Go.Operand.tmp 18), type := 0, pos := "exact.go:77", after := #[{ on := 0, ground := Go.Ground.data }, { on := 1, ground := Go.Ground.data }], guard := none }) (v := ?_) rfl (by kernel_rfl) (by kernel_rfl) (by kernel_rfl) (fun _ _ _ h => h) (Or.inl ⟨by rfl, ?_⟩) hHeld0 ?_
      rotate_left
      · (intro w hSw; (try dsimp only at hSw); go_simp; (first | done | (with_reducible rfl) | (rw [if_neg (by omega)]) | (rw [if_neg (by simp only [ByteArray.size_append]; omega)])))
      (try simp only [Act.put, List.setIfInBounds_toArray, List.set_cons_zero, List.set_cons_succ])
      refine wpAnyH_take (i := 3) (oi := { dst := some 20, op := Go.Op.load 44 (Go.Operand.tmp 19), type := 44, pos := "exact.go:77", after := #[{ on := 2, ground := Go.Ground.data }], guard := none }) (v := ?_) rfl (by kernel_rfl) (by kernel_rfl) (by kernel_rfl) (fun _ _ _ h => h) (Or.inl ⟨by rfl, ?_⟩) hHeld0 ?_
      rotate_left
      · (intro w hSw; (try dsimp only at hSw); go_simp; (first | done | (with_reducible rfl) | (rw [if_neg (by omega)]) | (rw [if_neg (by simp only [ByteArray.size_append]; omega)])))
      (try simp only [Act.put, List.setIfInBounds_toArray, List.set_cons_zero, List.set_cons_succ])
      refine wpAnyH_take (i := 4) (oi := { dst := some 21, op := Go.Op.move (Go.Operand.tmp 1), type := 22, pos := "exact.go:77", after := #[], guard := none }) (v := ?_) rfl (by kernel_rfl) (by kernel_rfl) (by kernel_rfl) (fun _ _ _ h => h) (Or.inl ⟨by rfl, ?_⟩) hHeld0 ?_
      rotate_left
      · (intro w hSw; (try dsimp only at hSw); go_simp; (first | done | (with_reducible rfl) | (rw [if_neg (by omega)]) | (rw [if_neg (by simp only [ByteArray.size_append]; omega)])))
      (try simp only [Act.put, List.setIfInBounds_toArray, List.set_cons_zero, List.set_cons_succ])
      refine wpAnyH_take (i := 5) (oi := { dst := some 22, op := Go.Op.move (Go.Operand.tmp 5), type := 3, pos := "exact.go:77", after := #[], guard := none }) (v := ?_) rfl (by kernel_rfl) (by kernel_rfl) (by kernel_rfl) (fun _ _ _ h => h) (Or.inl ⟨by rfl, ?_⟩) hHeld0 ?_
      rotate_left
      · (intro w hSw; (try dsimp only at hSw); go_simp; (first | done | (with_reducible rfl) | (rw [if_neg (by omega)]) | (rw [if_neg (by simp only [ByteArray.size_append]; omega)])))
      (try simp only [Act.put, List.setIfInBounds_toArray, List.set_cons_zero, List.set_cons_succ])
      refine wpAnyH_take (i := 6) (oi := { dst := some 23, op := Go.Op.indexAddr 22 (Go.Operand.tmp 21) (Go.Operand.tmp 22), type := 0, pos := "exact.go:77", after := #[{ on := 4, ground := Go.Ground.data }, { on := 5, ground := Go.Ground.data }], guard := none }) (v := ?_) rfl (by kernel_rfl) (by kernel_rfl) (by kernel_rfl) (fun _ _ _ h => h) (Or.inl ⟨by rfl, ?_⟩) hHeld0 ?_
      rotate_left
      · (intro w hSw; (try dsimp only at hSw); go_simp; (first | done | (with_reducible rfl) | (rw [if_neg (by omega)]) | (rw [if_neg (by simp only [ByteArray.size_append]; omega)])))
      (try simp only [Act.put, List.setIfInBounds_toArray, List.set_cons_zero, List.set_cons_succ])
      refine wpAnyH_take (i := 7) (oi := { dst := some 24, op := Go.Op.load 44 (Go.Operand.tmp 23), type := 44, pos := "exact.go:77", after := #[{ on := 6, ground := Go.Ground.data }], guard := none }) (v := ?_) rfl (by kernel_rfl) (by kernel_rfl) (by kernel_rfl) (fun _ _ _ h => h) (Or.inl ⟨by rfl, ?_⟩) hHeld0 ?_
      rotate_left
      · (intro w hSw; (try dsimp only at hSw); go_simp; (first | done | (with_reducible rfl) | (rw [if_neg (by omega)]) | (rw [if_neg (by simp only [ByteArray.size_append]; omega)])))
      (try simp only [Act.put, List.setIfInBounds_toArray, List.set_cons_zero, List.set_cons_succ])
      refine wpAnyH_ready (rs := [8]) (by kernel_rfl) (by simp) ?_
      refine AllReadyH.cons (o := { dst := some 25, op := Go.Op.call { callee := Go.Callee.value (Go.Operand.func 20), args := #[Go.Operand.tmp 20, Go.Operand.tmp 24], argTypes := #[44, 44] }, type := 4, pos := "exact.go:77", after := #[{ on := 3, ground := Go.Ground.data }, { on := 7, ground := Go.Ground.data }], guard := none }) rfl (fun K hK => ?_) AllReadyH.nil
      go_simp
      (with_reducible refine (eqPage_any pl pl po po pz pz (some ⟨pg, pq, none⟩) (some ⟨qg, qq, none⟩) pc qc wr.heap.size wr.drew hdr IP.out IQ.out mp9 mp9).mono ?_)
      rintro e w2 ⟨rfl, b2⟩
      simp only [beq_self_eq_true, Bool.and_self]
      have b2' : Below wr.heap.size wr w2 := ⟨b2.os, b2.tape, b2.output, b2.size, b2.block⟩
      have Hb2 : Hid (Below w.heap.size w w2) := Hb.out.trans (b2'.mono hsz)
      have Hs2 : Hid ((w2.cell? ⟨ra, k * 3, none⟩ = some (.int .i64 pl) ∧ w2.cell? ⟨ra, k * 3 + 1, none⟩ = some (.int .i64 po) ∧ w2.cell? ⟨ra, k * 3 + 2, none⟩ = some (.slice (some ⟨pg, pq, none⟩) pz.length pc)) ∧ w2.cell? ⟨rb, k * 3, none⟩ = some (.int .i64 pl) ∧ w2.cell? ⟨rb, k * 3 + 1, none⟩ = some (.int .i64 po) ∧ w2.cell? ⟨rb, k * 3 + 2, none⟩ = some (.slice (some ⟨qg, qq, none⟩) pz.length qc)) := ⟨⟨(b2'.cell P1.out.lt).trans c0, (b2'.cell P1.out.lt).trans c1, (b2'.cell P1.out.lt).trans c2⟩, (b2'.cell Q1.out.lt).trans d0, (b2'.cell Q1.out.lt).trans d1, (b2'.cell Q1.out.lt).trans d2⟩
      clear b2 b2'
      (try go_wp2_with fail)
      refine hK.out _ _ ?_ (fun hHeld1 => ?_)
      · (first | exact Hs.out | exact Hs2.out)
      clear hK K hHeld0
      (try simp only [Act.put, List.setIfInBounds_toArray, List.set_cons_zero, List.set_cons_succ])
      refine wpAnyH_take (i := 9) (oi := { dst := some 26, op := Go.Op.unOp Go.UnOp.not 4 (Go.Operand.tmp 25), type := 4, pos := "exact.go:77", after := #[{ on := 8, ground := Go.Ground.data }], guard := none }) (v := ?_) rfl (by kernel_rfl) (by kernel_rfl) (by kernel_rfl) (fun _ _ _ h => h) (Or.inl ⟨by rfl, ?_⟩) hHeld1 ?_
      rotate_left
      · (intro w hSw; (try dsimp only at hSw); go_simp; (first | done | (with_reducible rfl) | (rw [if_neg (by omega)]) | (rw [if_neg (by simp only [ByteArray.size_append]; omega)])))
      (try simp only [Act.put, List.setIfInBounds_toArray, List.set_cons_zero, List.set_cons_succ])
      refine wpAnyH_done (by kernel_rfl) ?_ _
      clear hHeld1
      clear c0 c1 c2 d0 d1 d2
      go_wp2
      exact ⟨⟨k + 1, by omega, by go_num, Hb2.out⟩, by simp [intOf]; omega⟩
    · obtain rfl : k = ps.length := by omega
      go_wp2
      go_ret
      exact ⟨rfl, Hb.out⟩

/-- the i-th page of a row that is marked -/
def markP (k : Int) (i : Nat) (p : Pg) : Pg := ⟨k + 5 * i, k + 5 * i + 1, p.g, p.q, p.c, marks (k + 5 * i + 2) 3⟩
/-- a row whose first n pages are marked -/
def MarksTo (w : World) (rb : Nat) (k : Int) (ps : List Pg) (n : Nat) : Prop := ∀ j p, ps[j]? = some p → PgIn w rb j (if j < n then markP k j p else p)
theorem MarksTo.below {w w' : World} {rb : Nat} {k : Int} {ps : List Pg} {n B : Nat} (h : MarksTo w rb k ps n) (b : Below B w w') (h1 : rb < B) (h2 : ∀ p ∈ ps, p.g < B) : MarksTo w' rb k ps n := fun j p hp => by
  have hg : (if j < n then markP k j p else p).g = p.g := by split <;> rfl
  exact (h j p hp).keep b.size (b.block rb h1) (by rw [hg]; exact b.block _ (h2 p (List.mem_of_getElem? hp)))
/-- no other block than those of the row has turned -/
def OnlyIn (rb : Nat) (ps : List Pg) (w w' : World) : Prop := ∀ i, i < w.heap.size → i ≠ rb → (∀ p ∈ ps, i ≠ p.g) → w'.heap[i]? = w.heap[i]?
/-- what markPageS leaves -/
def MarkedPs (k : Int) (base rb : Nat) (ps : List Pg) (w : World) (e : Ending) (w' : World) : Prop :=
  e = .returned (.int .i64 (k + 5 * ps.length)) ∧ Below base w w' ∧ w'.heap.size = w.heap.size ∧ MarksTo w' rb k ps ps.length ∧ OnlyIn rb ps w w'
theorem MarksTo.step {w w' : World} {rb : Nat} {k : Int} {ps : List Pg} {n : Nat} {p : Pg} (h : MarksTo w rb k ps n) (hp : ps[n]? = some p) (hz : p.zs.length = 3) (hd : (ps.map Pg.g).Nodup)
    (hg : ((w.setCell ⟨rb, n * 3, none⟩ (.int .i64 (k + 5 * n))).setCell ⟨rb, n * 3 + 1, none⟩ (.int .i64 (k + 5 * n + 1))).grownBy w' (some p.g)) (hs : w'.heap.size = w.heap.size)
    (hr : Rd .i64 w' p.g p.q (marks (k + 5 * n + 2) 3)) (hw : Wr w' p.g p.q 3) : MarksTo w' rb k ps (n + 1) := by
  intro j r hr'
  have hn := h n p hp
  rw [if_neg (by omega)] at hn
  have hrow : w'.heap[rb]? = ((w.setCell ⟨rb, n * 3, none⟩ (.int .i64 (k + 5 * n))).setCell ⟨rb, n * 3 + 1, none⟩ (.int .i64 (k + 5 * n + 1))).heap[rb]? :=
    hg.block rb (by rw [size_set, size_set]; exact hn.lt) (fun e => hn.ne (by injection e with e; exact e.symm))
  have cell : ∀ i, w'.cell? ⟨rb, i, none⟩ = ((w.setCell ⟨rb, n * 3, none⟩ (.int .i64 (k + 5 * n))).setCell ⟨rb, n * 3 + 1, none⟩ (.int .i64 (k + 5 * n + 1))).cell? ⟨rb, i, none⟩ := fun i => World.cell?_of_block (a := ⟨rb, i, none⟩) hrow
  have froz : ∀ i, w'.frozen? ⟨rb, i, none⟩ = w.frozen? ⟨rb, i, none⟩ := fun i => by
    rw [World.frozen?_of_block (a := ⟨rb, i, none⟩) hrow, World.frozen?_setCell, World.frozen?_setCell]
  have c1' : (w.setCell ⟨rb, n * 3, none⟩ (.int .i64 (k + 5 * n))).cell? ⟨rb, n * 3 + 1, none⟩ = some (.int .i64 p.o) := (World.cell?_setCell_other _ _ _ _ (fun e => by injection e; omega)).trans hn.c1
  have other : ∀ i, i ≠ n * 3 → i ≠ n * 3 + 1 → w'.cell? ⟨rb, i, none⟩ = w.cell? ⟨rb, i, none⟩ := fun i h1 h2 => by
    rw [cell, World.cell?_setCell_other _ _ _ _ (fun e => by injection e; omega), World.cell?_setCell_other _ _ _ _ (fun e => by injection e; omega)]
  by_cases hj : j = n
  · subst hj
    obtain rfl : r = p := Option.some.inj (hr'.symm.trans hp)
    rw [if_pos (by omega)]
    refine ⟨?_, ?_, ?_, (froz _).trans hn.f0, (froz _).trans hn.f1, by rw [hs]; exact hn.lt, hr, by rw [show (markP k j r).zs.length = 3 from marks_len _ _]; exact hw, hn.ne⟩
    · rw [cell, World.cell?_setCell_other _ _ _ _ (fun e => by injection e; omega)]
      exact World.cell?_setCell_same _ _ _ hn.c0
    · rw [cell]
      exact World.cell?_setCell_same _ _ _ c1'
    · rw [other _ (by omega) (by omega), hn.c2, hz]
      show _ = some (Value.slice (some ⟨r.g, r.q, none⟩) (marks _ 3).length r.c)
      rw [marks_len]
  · have hold := h j r hr'
    have hif : (if j < n + 1 then markP k j r else r) = (if j < n then markP k j r else r) := by
      by_cases h1 : j < n
      · rw [if_pos h1, if_pos (by omega)]
      · rw [if_neg h1, if_neg (by omega)]
    rw [hif]
    have hgr : (if j < n then markP k j r else r).g = r.g := by split <;> rfl
    have hne : r.g ≠ p.g := fun e => by
      have h1 : (ps.map Pg.g)[j]? = some r.g := by simp [hr']
      have h2 : (ps.map Pg.g)[n]? = some r.g := by simp [hp, e]
      exact hj ((List.getElem?_inj (List.getElem?_eq_some_iff.1 h1).1 hd).1 (h1.trans h2.symm))
    have hblk : w'.heap[r.g]? = w.heap[r.g]? := by
      rw [hg.block r.g (by rw [size_set, size_set]; have := hold.wr.1; rw [hgr] at this; exact this) (fun e => hne (by injection e)), Below.heap_setCell _ _ _ _ (by have := hold.ne; rw [hgr] at this; exact this), Below.heap_setCell _ _ _ _ (by have := hold.ne; rw [hgr] at this; exact this)]
    refine ⟨(other _ (by omega) (by omega)).trans hold.c0, (other _ (by omega) (by omega)).trans hold.c1, (other _ (by omega) (by omega)).trans hold.c2, (froz _).trans hold.f0, (froz _).trans hold.f1, by rw [hs]; exact hold.lt, hold.rd.keep (by rw [hgr]; exact hblk), hold.wr.keep (by omega) (by rw [hgr]; exact hblk), hold.ne⟩

set_option maxHeartbeats 4000000 in
theorem markPageS_any (ps : List Pg) (rb cap base : Nat) (k : Int) (w : World) (hm : MarksTo w rb k ps 0) (h3 : ∀ p ∈ ps, p.zs.length = 3) (hd : (ps.map Pg.g).Nodup) (hb : base ≤ rb) (hbp : ∀ p ∈ ps, base ≤ p.g) (hbw : base ≤ w.heap.size) (k0 : 0 ≤ k) (k1 : k ≤ 1000000) (mx : ps.length ≤ 1000) :
    Calls Try.prog 13 #[.slice (some ⟨rb, 0, none⟩) ps.length cap, .int .i64 k] w (MarkedPs k base rb ps w) := by
  have M := Lib.hid hm
  have H3 := Lib.hid h3
  have D := Lib.hid hd
  have P := Lib.hid hbp
  clear hm h3 hd hbp
  go_enter Try.func13, Try.ntmps13
  go_wp2
  go_loopw [1, 5] (fun q i wx => ∃ t : Nat, t ≤ ps.length ∧ i = .int .i64 t ∧ q = .int .i64 (k + 5 * t) ∧ Below base w wx ∧ wx.heap.size = w.heap.size ∧ MarksTo wx rb k ps t ∧ OnlyIn rb ps w wx) (fun _ i _ => ps.length - (intOf i).toNat)
  case atStart => exact ⟨0, Nat.zero_le _, rfl, by simp, Below.refl _ _, rfl, M.out, fun _ _ _ _ => rfl⟩
  case round =>
    obtain ⟨t, ht, rfl, rfl, hbl, hs, hm, hon⟩ := hrel
    have Hb := Lib.hid hbl
    have Hs := Lib.hid hs
    have Hm := Lib.hid hm
    have Hn := Lib.hid hon
    clear hbl hs hm hon
    by_cases hlt : t < ps.length
    · obtain ⟨p, hp⟩ : ∃ p, ps[t]? = some p := ⟨_, List.getElem?_eq_getElem hlt⟩
      have hin := Hm.out t p hp
      rw [if_neg (by omega)] at hin
      have z3 := H3.out p (List.mem_of_getElem? hp)
      have bp := P.out p (List.mem_of_getElem? hp)
      have In := Lib.hid hin
      have Hp := Lib.hid hp
      have c0 := hin.c0
      have c1 := hin.c1
      have c2 := hin.c2
      have f0 := hin.f0
      have f1 := hin.f1
      rw [z3] at c2
      clear hin hp
      obtain ⟨pl, po, pg, pq, pc, pz⟩ := p
      simp only at c0 c1 c2 z3 bp
      have hlt' : (t : Int) < ps.length := by omega
      have t0 : (0 : Int) ≤ (t : Int) := by omega
      have lpg : pg < wr.heap.size := In.out.wr.1
      have nrb : pg ≠ rb := In.out.ne
      have Rr : Hid (Rd .i64 ((wr.setCell ⟨rb, t * 3, none⟩ (.int .i64 (k + 5 * t))).setCell ⟨rb, t * 3 + 1, none⟩ (.int .i64 (k + 5 * t + 1))) pg pq pz) := (In.out.rd.keep (Below.heap_setCell _ _ _ _ nrb)).keep (Below.heap_setCell _ _ _ _ nrb)
      have Wr' : Hid (Wr ((wr.setCell ⟨rb, t * 3, none⟩ (.int .i64 (k + 5 * t))).setCell ⟨rb, t * 3 + 1, none⟩ (.int .i64 (k + 5 * t + 1))) pg pq pz.length) := (In.out.wr.set _ _).set _ _
      go_wp2_with fail
      have C : Hid (∀ W : World, Rd .i64 W pg pq pz → Wr W pg pq pz.length → Calls Try.prog 22 #[.slice (some ⟨pg, pq, none⟩) 3 pc, .int .i64 (k + 5 * t + 1 + 1)] W (Marked (k + 5 * t + 1 + 1) pg pq 3 W)) := fun W h1 h2 => by
        have := markIntS_any pz pg pq pc (k + 5 * t + 1 + 1) W h1 h2 (by omega) (by omega) (by omega)
        rwa [z3] at this
      refine (C.out _ Rr.out Wr'.out).mono ?_
      rintro e w2 ⟨rfl, hgr, hsz, hrd, hwr⟩
      have e2 : k + 5 * (t : Int) + 1 + 1 = k + 5 * t + 2 := by omega
      rw [e2] at hrd
      have N : Hid (MarksTo w2 rb k ps (t + 1)) := Hm.out.step Hp.out z3 D.out hgr (by rw [hsz, size_set, size_set]) hrd hwr
      have hb2 : Below base w w2 := ((Hb.out.setCell hb _).setCell hb _).trans (below_grown hgr bp (by rw [size_set, size_set, Hs.out]; exact hbw))
      have B2 := Lib.hid hb2
      have N2 : Hid (OnlyIn rb ps w w2) := fun i hi h1 h2 => by
        rw [hgr.block i (by rw [size_set, size_set, Hs.out]; exact hi) (fun e => h2 _ (List.mem_of_getElem? Hp.out) (by injection e)), Below.heap_setCell _ _ _ _ h1, Below.heap_setCell _ _ _ _ h1]
        exact Hn.out i hi h1 h2
      have S2 : Hid (w2.heap.size = w.heap.size) := by
        show w2.heap.size = w.heap.size
        rw [hsz, size_set, size_set, Hs.out]
      clear hgr hsz hrd hwr hb2 c0 c1 c2 f0 f1 e2
      go_wp2
      exact ⟨⟨t + 1, by omega, by go_num, by go_num, B2.out, S2.out, N.out, N2.out⟩, by simp [intOf]; omega⟩
    · obtain rfl : t = ps.length := by omega
      go_wp2
      go_ret
      exact ⟨rfl, Hb.out, Hs.out, Hm.out, Hn.out⟩

set_option maxHeartbeats 4000000 in
theorem heldPageS_any (ps : List Pg) (rb cap : Nat) (k : Int) (w : World) (hm : MarksTo w rb k ps ps.length) (k0 : 0 ≤ k) (k1 : k ≤ 1000000) (mx : ps.length ≤ 1000) :
    Calls Try.prog 15 #[.slice (some ⟨rb, 0, none⟩) ps.length cap, .int .i64 k] w (fun e w' => e = .returned (.int .i64 (k + 5 * ps.length)) ∧ w = w') := by
  have M := Lib.hid hm
  clear hm
  go_enter Try.func15, Try.ntmps15
  go_wp2
  go_loop [1, 5] (fun q i => ∃ t : Nat, t ≤ ps.length ∧ i = .int .i64 t ∧ q = .int .i64 (k + 5 * t)) (fun _ i => ps.length - (intOf i).toNat)
  case atStart => exact ⟨0, Nat.zero_le _, rfl, by simp⟩
  case round =>
    obtain ⟨t, ht, rfl, rfl⟩ := hrel
    by_cases hlt : t < ps.length
    · obtain ⟨p, hp⟩ : ∃ p, ps[t]? = some p := ⟨_, List.getElem?_eq_getElem hlt⟩
      have hin := M.out t p hp
      rw [if_pos hlt] at hin
      have c0 := hin.c0
      have c1 := hin.c1
      have c2 := hin.c2
      have lpg := hin.wr.1
      have Rr : Hid (Rd .i64 w p.g p.q (marks (k + 5 * t + 2) 3)) := hin.rd
      clear hin hp
      obtain ⟨pl, po, pg, pq, pc, pz⟩ := p
      simp only [markP, marks_len] at c0 c1 c2 lpg Rr
      have hlt' : (t : Int) < ps.length := by omega
      have t0 : (0 : Int) ≤ (t : Int) := by omega
      have n0 : (k + 5 * (t : Int) != k + 5 * (t : Int)) = false := by simp
      have n1 : (k + 5 * (t : Int) + 1 != k + 5 * (t : Int) + 1) = false := by simp
      have C : Hid (Calls Try.prog 23 #[.slice (some ⟨pg, pq, none⟩) 3 pc, .int .i64 (k + 5 * t + 1 + 1)] w fun e w' => e = .returned (.int .i64 (k + 5 * t + 1 + 1 + (3 : Nat))) ∧ w = w') := by
        have e2 : k + 5 * (t : Int) + 1 + 1 = k + 5 * t + 2 := by omega
        rw [e2]
        exact heldIntS_any 3 (some ⟨pg, pq, none⟩) pc w.heap.size _ w (Rr.out.ints lpg) (by omega) (by omega) (by omega)
      go_wp2_with fail
      refine (C.out).mono ?_
      rintro e w2 ⟨rfl, rfl⟩
      clear c0 c1 c2 n0 n1
      go_wp2
      exact ⟨⟨t + 1, by omega, by go_num, by go_num⟩, by simp [intOf]; omega⟩
    · obtain rfl : t = ps.length := by omega
      go_wp2
      go_ret
      exact ⟨rfl, rfl⟩
end Go.Proofs.Ytoihdbcdlodkgaa.Base
