/-
  Contracts of EngineNew, of the program and of the model, and of the laws' helpers on engines, for engines with no records. No conditions but those in each.
-/
import Derived.Test.YtoihdbcdlodkgaaPgOf
import Derived.Test.YtoihdbcdlodkgaaPgLaws
import Derived.Lib.SliceRun
namespace Go.Proofs.Ytoihdbcdlodkgaa.Base
open Go.RowKit

/-- an engine with no records, as a value -/
abbrev engV (rd n cd rm m cm : Nat) (lg : Option Addr) : Value := .agg #[.slice (some ⟨rd, 0, none⟩) n cd, .slice (some ⟨rm, 0, none⟩) m cm, .slice lg 0 0, .int .i64 0, .bool false]
theorem Row.far {w : World} {base B rb : Nat} {ps : List Pg} (h : Row w base B rb ps) {x i : Nat} (hx : x < base) (u : Value) : Row (w.setCell ⟨x, i, none⟩ u) base B rb ps :=
  ⟨fun j p hp => (h.at_ j p hp).keep (by rw [size_set]; exact Nat.le_refl _) (Below.heap_setCell _ _ _ _ (by have := h.low.1; show rb ≠ x; omega)) (Below.heap_setCell _ _ _ _ (by have := h.low.2 p (List.mem_of_getElem? hp); show p.g ≠ x; omega)), h.low, h.up⟩
theorem Row.down {w : World} {base base' B rb : Nat} {ps : List Pg} (h : Row w base B rb ps) (hb : base' ≤ base) : Row w base' B rb ps :=
  ⟨h.at_, ⟨Nat.le_trans hb h.low.1, fun p hp => Nat.le_trans hb (h.low.2 p hp)⟩, h.up⟩
/-- two rows of five new pages each, in new memory, one above the other -/
structure TwoRows (w : World) (base top : Nat) (rd rm : Nat) (ps qs : List Pg) : Prop where
  mid : ∃ B1, base ≤ B1 ∧ B1 ≤ top ∧ Row w base B1 rd ps ∧ Row w B1 top rm qs
  len : ps.length = 5 ∧ qs.length = 5
  says : (∀ p ∈ ps, p.says = (0, 0, [0, 0, 0])) ∧ ∀ p ∈ qs, p.says = (0, 0, [0, 0, 0])
  apart : (ps.map Pg.g).Nodup ∧ (qs.map Pg.g).Nodup
theorem TwoRows.below {w w' : World} {base top rd rm : Nat} {ps qs : List Pg} (h : TwoRows w base top rd rm ps qs) (b : Below top w w') : TwoRows w' base top rd rm ps qs := by
  obtain ⟨⟨M, m0, m1, r1, r2⟩, a, c, d⟩ := h
  exact ⟨⟨M, m0, m1, r1.below (b.mono m1), r2.below b⟩, a, c, d⟩
/-- what EngineNew leaves -/
def NewEng (w : World) (e : Ending) (w' : World) : Prop :=
  ∃ rd cd rm cm lg ps qs, e = .returned (engV rd ps.length cd rm qs.length cm lg) ∧ Below w.heap.size w w' ∧ TwoRows w' w.heap.size w'.heap.size rd rm ps qs
/-- the cells of an engine's block, none of them anything -/
abbrev engZ : Array Value := #[.slice none 0 0, .slice none 0 0, .slice none 0 0, .int .i64 0, .bool false]

set_option maxHeartbeats 4000000 in
theorem specEngineNew_any (w : World) : Calls Try.prog 4 #[] w (NewEng w) := by
  go_enter Try.func4, Try.ntmps4
  go_wp2_with fail
  refine (l11Pages_any _).mono ?_
  rintro e w1 ⟨v1, ps, rfl, l1, b1, o1, z1, n1⟩
  obtain ⟨rd, cd, rfl, r1⟩ := o1.open (by omega)
  have Q1 := Lib.hid ((Has.new w 25 engZ).below b1 (by simp))
  have B1 : Hid (Below w.heap.size w w1) := (below_one _ _).trans (b1.mono (by simp))
  have R1 := Lib.hid r1
  have s1 := b1.size
  simp only [World.size_alloc] at s1 R1
  have F1 := Lib.hid (And.intro l1 (And.intro z1 n1))
  clear b1 r1 o1 l1 z1 n1
  go_wp2_with fail
  refine (l11Pages_any _).mono ?_
  rintro e w2 ⟨v2, qs, rfl, l2, b2, o2, z2, n2⟩
  obtain ⟨rm, cm, rfl, r2⟩ := o2.open (by omega)
  have Q2 := Lib.hid ((Q1.out.below b2 (by omega)).alloc (.cells #[] 49))
  have s2 := b2.size
  have B2 : Hid (Below w.heap.size w (w2.alloc (.cells #[] 49))) := (B1.out.trans (b2.mono (by omega))).alloc (by omega) _
  have R12 : Hid (Row (w2.alloc (.cells #[] 49)) (w.heap.size + 1) w1.heap.size rd ps) := (R1.out.below b2).below ((below_one w2 _).mono s2)
  have R2 : Hid (Row (w2.alloc (.cells #[] 49)) w1.heap.size w2.heap.size rm qs) := r2.below (below_one w2 _)
  have F2 := Lib.hid (And.intro l2 (And.intro z2 n2))
  clear b2 r2 o2 l2 z2 n2 Q1 B1 R1
  have c0 := Q2.out.cell 0
  have c1 := Q2.out.cell 1
  have c2 := Q2.out.cell 2
  have c3 := Q2.out.cell 3
  have c4 := Q2.out.cell 4
  simp at c0 c1 c2 c3 c4
  have f0 := Q2.out.frozen 0
  have f1 := Q2.out.frozen 1
  have f2 := Q2.out.frozen 2
  have f3 := Q2.out.frozen 3
  have f4 := Q2.out.frozen 4
  go_wp2_with fail
  refine bodyPost_ret (v := engV rd ps.length cd rm qs.length cm (some ⟨w2.heap.size, 0, none⟩)) (by simp [results, Try.results4, go_sem, c0, c1, c2, c3, c4]) rfl ⟨rd, cd, rm, cm, some ⟨w2.heap.size, 0, none⟩, ps, qs, rfl, ?_, ?_⟩
  · exact ((((B2.out.setCell (Nat.le_refl _) _).setCell (Nat.le_refl _) _).setCell (Nat.le_refl _) _).setCell (Nat.le_refl _) _).setCell (Nat.le_refl _) _
  · have k1 := ((((R12.out.far (i := 0) (by omega : w.heap.size < w.heap.size + 1) (.slice (some ⟨rd, 0, none⟩) ps.length cd)).far (i := 1) (by omega : w.heap.size < w.heap.size + 1) (.slice (some ⟨rm, 0, none⟩) qs.length cm)).far (i := 2) (by omega : w.heap.size < w.heap.size + 1) (.slice (some ⟨w2.heap.size, 0, none⟩) 0 0)).far (i := 3) (by omega : w.heap.size < w.heap.size + 1) (.int .i64 0)).far (i := 4) (by omega : w.heap.size < w.heap.size + 1) (.bool false)
    have k2 := ((((R2.out.far (i := 0) (by omega : w.heap.size < w1.heap.size) (.slice (some ⟨rd, 0, none⟩) ps.length cd)).far (i := 1) (by omega : w.heap.size < w1.heap.size) (.slice (some ⟨rm, 0, none⟩) qs.length cm)).far (i := 2) (by omega : w.heap.size < w1.heap.size) (.slice (some ⟨w2.heap.size, 0, none⟩) 0 0)).far (i := 3) (by omega : w.heap.size < w1.heap.size) (.int .i64 0)).far (i := 4) (by omega : w.heap.size < w1.heap.size) (.bool false)
    refine ⟨⟨w1.heap.size, by omega, ?_, k1.down (by omega), k2.up' ?_⟩, ⟨F1.out.1, F2.out.1⟩, ⟨F1.out.2.1, F2.out.2.1⟩, F1.out.2.2, F2.out.2.2⟩
    · simp only [size_set, World.size_alloc]
      omega
    · simp only [size_set, World.size_alloc]
      omega

/-- the cells of a state that holds nothing: five frames twice, and three more -/
structure S53 (S Z : Array Value) : Prop where
  d : ∀ (j : Nat) (v : Value), Z.toList[j]? = some v → S[j]? = some v
  m : ∀ (j : Nat) (v : Value), Z.toList[j]? = some v → S[25 + j]? = some v
  l : S[50]? = some (.slice none 0 0)
  s : S[51]? = some (.int .i64 0)
  b : S[52]? = some (.bool false)
/-- such a state in memory -/
abbrev StAt (Z : Array Value) (b : Nat) (w : World) : Prop :=
  w.rangeAt b 0 Z.toList ∧ w.rangeAt b 25 Z.toList ∧ w.cell? ⟨b, 50, none⟩ = some (.slice none 0 0) ∧ w.cell? ⟨b, 51, none⟩ = some (.int .i64 0) ∧ w.cell? ⟨b, 52, none⟩ = some (.bool false)
theorem StAt.keep {Z : Array Value} {b : Nat} {w w' : World} (h : StAt Z b w) (e : w'.heap[b]? = w.heap[b]?) : StAt Z b w' :=
  ⟨fun j v hv => (World.cell?_of_block (a := ⟨b, 0 + j, none⟩) e).trans (h.1 j v hv), fun j v hv => (World.cell?_of_block (a := ⟨b, 25 + j, none⟩) e).trans (h.2.1 j v hv), (World.cell?_of_block (a := ⟨b, 50, none⟩) e).trans h.2.2.1, (World.cell?_of_block (a := ⟨b, 51, none⟩) e).trans h.2.2.2.1, (World.cell?_of_block (a := ⟨b, 52, none⟩) e).trans h.2.2.2.2⟩
theorem StAt.new {S Z : Array Value} (h : S53 S Z) {w : World} {b : Nat} {t : TypeId} (hh : Has w b t S) : StAt Z b w :=
  ⟨fun j v hv => by rw [Nat.zero_add, hh.cell]; exact h.d j v hv, fun j v hv => by rw [hh.cell]; exact h.m j v hv, by rw [hh.cell]; exact h.l, by rw [hh.cell]; exact h.s, by rw [hh.cell]; exact h.b⟩
theorem eql_nil (w : World) : (binOp .eql 23 (.slice none 0 0) (.slice none 0 0)).run Try.prog w = .ok (.bool true) w := Lib.run_eql_slice_nil w 23 49 none 0 0 0 0 Try.underlying23
attribute [local go_sem ↓] eql_nil
set_option maxHeartbeats 400000 in
theorem clone_nil (w : World) : Calls Try.prog 19 #[.slice none 0 0] w (fun e w' => e = .returned (.slice none 0 0) ∧ w = w') := by
  go_enter Try.func19, Try.ntmps19
  go_wp2
  go_ret
  exact ⟨rfl, rfl⟩

set_option maxHeartbeats 8000000 in
theorem engine_zero (S Z : Array Value) (hS : S53 S Z) (hZ : Z25 Z) (w : World) : Calls Try.prog 10 #[.agg S] w (NewEng w) := by
  have Hi : Hid ((Try.prog.info? 35).map (·.size) = some Z.toList.length) := by
    show _ = _
    rw [Array.length_toList, hZ.size]
    kernel_rfl
  have PZ : Hid (∀ W, Calls Try.prog 18 #[.agg Z.toList.toArray] W (FivePs W)) := fun W => by
    rw [Array.toArray_toList]
    exact pagesOf_zero Z hZ W
  have A0 : Hid (StAt Z w.heap.size ((w.alloc (.cells S 37)).alloc (.cells engZ 25)).drew) := (StAt.new hS (Has.new w 37 S)).keep (Below.heap_alloc _ _ _ (by simp))
  have Q0 : Hid (Has ((w.alloc (.cells S 37)).alloc (.cells engZ 25)).drew (w.heap.size + 1) 25 engZ) := by
    have := Has.new (w.alloc (.cells S 37)) 25 engZ
    simp only [World.size_alloc] at this
    exact this
  have B0 : Hid (Below w.heap.size w ((w.alloc (.cells S 37)).alloc (.cells engZ 25)).drew) := (below_two _ _ _).drew
  clear hS hZ
  go_enter Try.func10, Try.ntmps10
  go_upto_region 1 with (fail)
  refine wp_region_held_drew (S := (fun w' => w'.rangeAt w.heap.size 0 Z.toList ∧ w'.rangeAt w.heap.size 25 Z.toList ∧ w'.cell? ⟨w.heap.size, 50, none⟩ = some (.slice none 0 0) ∧ w'.cell? ⟨w.heap.size, 51, none⟩ = some (.int .i64 0) ∧ w'.cell? ⟨w.heap.size, 52, none⟩ = some (.bool false))) (by kernel_rfl) ?_ (fun hHeld0 => ?_)
  · (first | with_reducible exact A0.out | with_reducible exact A1.out | with_reducible exact A2.out | with_reducible exact A3.out)
  refine wpAnyH_take (i := 0) (oi := { dst := some 3, op := Go.Op.fieldAddr 37 (Go.Operand.tmp 1) 0, type := 0, pos := "l11_engine.go:143", after := #[], guard := none }) (v := ?_) rfl (by kernel_rfl) (by kernel_rfl) (by kernel_rfl) (fun _ _ _ h => h) (Or.inl ⟨by rfl, ?_⟩) hHeld0 ?_
  rotate_left
  · (intro w hSw; (try dsimp only at hSw); go_simp; (first | done | (with_reducible rfl) | (rw [if_neg (by omega)]) | (rw [if_neg (by simp only [ByteArray.size_append]; omega)])))
  (try simp only [Act.put, List.setIfInBounds_toArray, List.set_cons_zero, List.set_cons_succ])
  refine wpAnyH_take (i := 1) (oi := { dst := some 4, op := Go.Op.load 35 (Go.Operand.tmp 3), type := 35, pos := "l11_engine.go:143", after := #[{ on := 0, ground := Go.Ground.data }], guard := none }) (v := _) rfl (by kernel_rfl) (by kernel_rfl) (by kernel_rfl) (fun _ _ _ h => h) (yieldsIf_load_mid (by rfl) 35 (.tmp 3) rfl w.heap.size 0 rfl Z.toList _ (fun _ h => h.1) Try.underlying35 rfl Hi.out) hHeld0 ?_
  (try simp only [Act.put, List.setIfInBounds_toArray, List.set_cons_zero, List.set_cons_succ])
  refine wpAnyH_take (i := 3) (oi := { dst := some 6, op := Go.Op.fieldAddr 37 (Go.Operand.tmp 1) 1, type := 0, pos := "l11_engine.go:143", after := #[], guard := none }) (v := ?_) rfl (by kernel_rfl) (by kernel_rfl) (by kernel_rfl) (fun _ _ _ h => h) (Or.inl ⟨by rfl, ?_⟩) hHeld0 ?_
  rotate_left
  · (intro w hSw; (try dsimp only at hSw); go_simp; (first | done | (with_reducible rfl) | (rw [if_neg (by omega)]) | (rw [if_neg (by simp only [ByteArray.size_append]; omega)])))
  (try simp only [Act.put, List.setIfInBounds_toArray, List.set_cons_zero, List.set_cons_succ])
  refine wpAnyH_take (i := 4) (oi := { dst := some 7, op := Go.Op.load 35 (Go.Operand.tmp 6), type := 35, pos := "l11_engine.go:143", after := #[{ on := 3, ground := Go.Ground.data }], guard := none }) (v := _) rfl (by kernel_rfl) (by kernel_rfl) (by kernel_rfl) (fun _ _ _ h => h) (yieldsIf_load_mid (by rfl) 35 (.tmp 6) rfl w.heap.size 25 rfl Z.toList _ (fun _ h => h.2.1) Try.underlying35 rfl Hi.out) hHeld0 ?_
  (try simp only [Act.put, List.setIfInBounds_toArray, List.set_cons_zero, List.set_cons_succ])
  refine wpAnyH_take (i := 6) (oi := { dst := some 9, op := Go.Op.fieldAddr 37 (Go.Operand.tmp 1) 2, type := 0, pos := "l11_engine.go:143", after := #[], guard := none }) (v := ?_) rfl (by kernel_rfl) (by kernel_rfl) (by kernel_rfl) (fun _ _ _ h => h) (Or.inl ⟨by rfl, ?_⟩) hHeld0 ?_
  rotate_left
  · (intro w hSw; (try dsimp only at hSw); go_simp; (first | done | (with_reducible rfl) | (rw [if_neg (by omega)]) | (rw [if_neg (by simp only [ByteArray.size_append]; omega)])))
  (try simp only [Act.put, List.setIfInBounds_toArray, List.set_cons_zero, List.set_cons_succ])
  refine wpAnyH_take (i := 7) (oi := { dst := some 10, op := Go.Op.load 23 (Go.Operand.tmp 9), type := 23, pos := "l11_engine.go:143", after := #[{ on := 6, ground := Go.Ground.data }], guard := none }) (v := ?_) rfl (by kernel_rfl) (by kernel_rfl) (by kernel_rfl) (fun _ _ _ h => h) (Or.inl ⟨by rfl, ?_⟩) hHeld0 ?_
  rotate_left
  · (intro w hSw; (try dsimp only at hSw); go_simp; (first | done | (with_reducible rfl) | (rw [if_neg (by omega)]) | (rw [if_neg (by simp only [ByteArray.size_append]; omega)])))
  (try simp only [Act.put, List.setIfInBounds_toArray, List.set_cons_zero, List.set_cons_succ])
  refine wpAnyH_take (i := 9) (oi := { dst := some 12, op := Go.Op.fieldAddr 37 (Go.Operand.tmp 1) 3, type := 0, pos := "l11_engine.go:143", after := #[], guard := none }) (v := ?_) rfl (by kernel_rfl) (by kernel_rfl) (by kernel_rfl) (fun _ _ _ h => h) (Or.inl ⟨by rfl, ?_⟩) hHeld0 ?_
  rotate_left
  · (intro w hSw; (try dsimp only at hSw); go_simp; (first | done | (with_reducible rfl) | (rw [if_neg (by omega)]) | (rw [if_neg (by simp only [ByteArray.size_append]; omega)])))
  (try simp only [Act.put, List.setIfInBounds_toArray, List.set_cons_zero, List.set_cons_succ])
  refine wpAnyH_take (i := 10) (oi := { dst := some 13, op := Go.Op.load 3 (Go.Operand.tmp 12), type := 3, pos := "l11_engine.go:143", after := #[{ on := 9, ground := Go.Ground.data }], guard := none }) (v := ?_) rfl (by kernel_rfl) (by kernel_rfl) (by kernel_rfl) (fun _ _ _ h => h) (Or.inl ⟨by rfl, ?_⟩) hHeld0 ?_
  rotate_left
  · (intro w hSw; (try dsimp only at hSw); go_simp; (first | done | (with_reducible rfl) | (rw [if_neg (by omega)]) | (rw [if_neg (by simp only [ByteArray.size_append]; omega)])))
  (try simp only [Act.put, List.setIfInBounds_toArray, List.set_cons_zero, List.set_cons_succ])
  refine wpAnyH_take (i := 11) (oi := { dst := some 14, op := Go.Op.fieldAddr 37 (Go.Operand.tmp 1) 4, type := 0, pos := "l11_engine.go:143", after := #[], guard := none }) (v := ?_) rfl (by kernel_rfl) (by kernel_rfl) (by kernel_rfl) (fun _ _ _ h => h) (Or.inl ⟨by rfl, ?_⟩) hHeld0 ?_
  rotate_left
  · (intro w hSw; (try dsimp only at hSw); go_simp; (first | done | (with_reducible rfl) | (rw [if_neg (by omega)]) | (rw [if_neg (by simp only [ByteArray.size_append]; omega)])))
  (try simp only [Act.put, List.setIfInBounds_toArray, List.set_cons_zero, List.set_cons_succ])
  refine wpAnyH_take (i := 12) (oi := { dst := some 15, op := Go.Op.load 4 (Go.Operand.tmp 14), type := 4, pos := "l11_engine.go:143", after := #[{ on := 11, ground := Go.Ground.data }], guard := none }) (v := ?_) rfl (by kernel_rfl) (by kernel_rfl) (by kernel_rfl) (fun _ _ _ h => h) (Or.inl ⟨by rfl, ?_⟩) hHeld0 ?_
  rotate_left
  · (intro w hSw; (try dsimp only at hSw); go_simp; (first | done | (with_reducible rfl) | (rw [if_neg (by omega)]) | (rw [if_neg (by simp only [ByteArray.size_append]; omega)])))
  (try simp only [Act.put, List.setIfInBounds_toArray, List.set_cons_zero, List.set_cons_succ])
  refine wpAnyH_ready (rs := [2]) (by kernel_rfl) (by simp) ?_
  refine AllReadyH.cons (o := { dst := some 5, op := Go.Op.call { callee := Go.Callee.value (Go.Operand.func 18), args := #[Go.Operand.tmp 4], argTypes := #[35] }, type := 22, pos := "l11_engine.go:143", after := #[{ on := 1, ground := Go.Ground.data }], guard := none }) rfl (fun K hK => ?_) AllReadyH.nil
  go_simp
  (with_reducible refine (PZ.out _).mono ?_)
  rintro e w1 ⟨v1, ps, rfl, l1, b1, o1, z1, n1⟩
  obtain ⟨rd, cd, rfl, r1⟩ := o1.open (by omega)
  simp only [World.size_drew, World.size_alloc] at b1 r1
  have A1 : Hid (StAt Z w.heap.size w1) := A0.out.keep (b1.block _ (by omega))
  have Q1 : Hid (Has w1 (w.heap.size + 1) 25 engZ) := Q0.out.below b1 (by omega)
  have B1 : Hid (Below w.heap.size w w1) := B0.out.trans (b1.mono (by omega))
  have R1 := Lib.hid r1
  have s1 : w.heap.size + 2 ≤ w1.heap.size := (by have := b1.size; simp only [World.size_drew, World.size_alloc] at this; omega)
  have F1 := Lib.hid (And.intro l1 (And.intro z1 n1))
  clear b1 r1 o1 l1 z1 n1
  (try go_wp2_with fail)
  refine hK.out _ _ ?_ (fun hHeld1 => ?_)
  · (first | with_reducible exact A0.out | with_reducible exact A1.out | with_reducible exact A2.out | with_reducible exact A3.out)
  clear hK K hHeld0
  (try simp only [Act.put, List.setIfInBounds_toArray, List.set_cons_zero, List.set_cons_succ])
  refine wpAnyH_ready (rs := [5]) (by kernel_rfl) (by simp) ?_
  refine AllReadyH.cons (o := { dst := some 8, op := Go.Op.call { callee := Go.Callee.value (Go.Operand.func 18), args := #[Go.Operand.tmp 7], argTypes := #[35] }, type := 22, pos := "l11_engine.go:143", after := #[{ on := 4, ground := Go.Ground.data }, { on := 2, ground := Go.Ground.chain }], guard := none }) rfl (fun K hK => ?_) AllReadyH.nil
  go_simp
  (with_reducible refine (PZ.out _).mono ?_)
  rintro e w2 ⟨v2, qs, rfl, l2, b2, o2, z2, n2⟩
  obtain ⟨rm, cm, rfl, r2⟩ := o2.open (by omega)
  have s2 := b2.size
  have A2 : Hid (StAt Z w.heap.size w2) := A1.out.keep (b2.block _ (by have := Q1.out.lt; omega))
  have Q2 : Hid (Has w2 (w.heap.size + 1) 25 engZ) := Q1.out.below b2 Q1.out.lt
  have B2 : Hid (Below w.heap.size w w2) := B1.out.trans (b2.mono B1.out.size)
  have R12 := Lib.hid (R1.out.below b2)
  have R2 := Lib.hid r2
  have F2 := Lib.hid (And.intro l2 (And.intro z2 n2))
  clear b2 r2 o2 l2 z2 n2
  (try go_wp2_with fail)
  refine hK.out _ _ ?_ (fun hHeld2 => ?_)
  · (first | with_reducible exact A0.out | with_reducible exact A1.out | with_reducible exact A2.out | with_reducible exact A3.out)
  clear hK K hHeld1
  (try simp only [Act.put, List.setIfInBounds_toArray, List.set_cons_zero, List.set_cons_succ])
  refine wpAnyH_ready (rs := [8]) (by kernel_rfl) (by simp) ?_
  refine AllReadyH.cons (o := { dst := some 11, op := Go.Op.call { callee := Go.Callee.value (Go.Operand.func 19), args := #[Go.Operand.tmp 10], argTypes := #[23] }, type := 23, pos := "l11_engine.go:143", after := #[{ on := 7, ground := Go.Ground.data }, { on := 5, ground := Go.Ground.chain }], guard := none }) rfl (fun K hK => ?_) AllReadyH.nil
  go_simp
  (with_reducible refine (clone_nil _).mono ?_)
  rintro e w3 ⟨rfl, rfl⟩
  have c0 := Q2.out.cell 0
  have c1 := Q2.out.cell 1
  have c2 := Q2.out.cell 2
  have c3 := Q2.out.cell 3
  have c4 := Q2.out.cell 4
  simp at c0 c1 c2 c3 c4
  have f0 := Q2.out.frozen 0
  have f1 := Q2.out.frozen 1
  have f2 := Q2.out.frozen 2
  have f3 := Q2.out.frozen 3
  have f4 := Q2.out.frozen 4
  (try go_wp2_with fail)
  refine hK.out _ _ ?_ (fun hHeld3 => ?_)
  · (first | with_reducible exact A0.out | with_reducible exact A1.out | with_reducible exact A2.out | with_reducible exact A3.out)
  clear hK K hHeld2
  (try simp only [Act.put, List.setIfInBounds_toArray, List.set_cons_zero, List.set_cons_succ])
  refine wpAnyH_take (i := 13) (oi := { dst := some 16, op := Go.Op.build 25 #[(0, Go.Operand.tmp 5), (1, Go.Operand.tmp 8), (2, Go.Operand.tmp 11), (3, Go.Operand.tmp 13), (4, Go.Operand.tmp 15)], type := 25, pos := "l11_engine.go:143", after := #[{ on := 2, ground := Go.Ground.data }, { on := 5, ground := Go.Ground.data }, { on := 8, ground := Go.Ground.data }, { on := 10, ground := Go.Ground.data }, { on := 12, ground := Go.Ground.data }], guard := none }) (v := ?_) rfl (by kernel_rfl) (by kernel_rfl) (by kernel_rfl) (fun _ _ _ h => h) (Or.inl ⟨by rfl, ?_⟩) hHeld3 ?_
  rotate_left
  · (intro w hSw; (try dsimp only at hSw); go_simp; (first | done | (with_reducible rfl) | (rw [if_neg (by omega)]) | (rw [if_neg (by simp only [ByteArray.size_append]; omega)])))
  (try simp only [Act.put, List.setIfInBounds_toArray, List.set_cons_zero, List.set_cons_succ])
  refine wpAnyH_ready (rs := [14]) (by kernel_rfl) (by simp) ?_
  refine AllReadyH.cons (o := { dst := none, op := Go.Op.store 25 (Go.Operand.tmp 2) (Go.Operand.tmp 16), type := 0, pos := "l11_engine.go:143", after := #[{ on := 13, ground := Go.Ground.data }, { on := 8, ground := Go.Ground.chain }, { on := 0, ground := Go.Ground.phase }, { on := 1, ground := Go.Ground.phase }, { on := 2, ground := Go.Ground.phase }, { on := 3, ground := Go.Ground.phase }, { on := 4, ground := Go.Ground.phase }, { on := 5, ground := Go.Ground.phase }, { on := 6, ground := Go.Ground.phase }, { on := 7, ground := Go.Ground.phase }, { on := 8, ground := Go.Ground.phase }, { on := 9, ground := Go.Ground.phase }, { on := 10, ground := Go.Ground.phase }, { on := 11, ground := Go.Ground.phase }, { on := 12, ground := Go.Ground.phase }, { on := 13, ground := Go.Ground.phase }], guard := none }) rfl (fun K hK => ?_) AllReadyH.nil
  go_simp
  have A3 : Hid (StAt Z w.heap.size (((((w2.setCell ⟨w.heap.size + 1, 0, none⟩ (.slice (some ⟨rd, 0, none⟩) ps.length cd)).setCell ⟨w.heap.size + 1, 1, none⟩ (.slice (some ⟨rm, 0, none⟩) qs.length cm)).setCell ⟨w.heap.size + 1, 2, none⟩ (.slice none 0 0)).setCell ⟨w.heap.size + 1, 3, none⟩ (.int .i64 0)).setCell ⟨w.heap.size + 1, 4, none⟩ (.bool false))) := ((((A2.out.keep (Below.heap_setCell _ _ _ _ (by simp))).keep (Below.heap_setCell _ _ _ _ (by simp))).keep (Below.heap_setCell _ _ _ _ (by simp))).keep (Below.heap_setCell _ _ _ _ (by simp))).keep (Below.heap_setCell _ _ _ _ (by simp))
  (try go_wp2_with fail)
  refine hK.out _ _ ?_ (fun hHeld4 => ?_)
  · (first | with_reducible exact A0.out | with_reducible exact A1.out | with_reducible exact A2.out | with_reducible exact A3.out)
  clear hK K hHeld3
  (try simp only [Act.put, List.setIfInBounds_toArray, List.set_cons_zero, List.set_cons_succ])
  refine wpAnyH_done (by kernel_rfl) ?_ _
  clear hHeld4
  go_wp2_with fail
  refine bodyPost_ret (v := engV rd ps.length cd rm qs.length cm none) (by simp [results, Try.results10, go_sem, c0, c1, c2, c3, c4]) rfl ⟨rd, cd, rm, cm, none, ps, qs, rfl, ?_, ?_⟩
  · exact ((((B2.out.setCell (Nat.le_succ _) _).setCell (Nat.le_succ _) _).setCell (Nat.le_succ _) _).setCell (Nat.le_succ _) _).setCell (Nat.le_succ _) _
  · have k1 := (((((R12.out.far (i := 0) (by omega : w.heap.size + 1 < w.heap.size + 1 + 1) (.slice (some ⟨rd, 0, none⟩) ps.length cd)).far (i := 1) (by omega : w.heap.size + 1 < w.heap.size + 1 + 1) (.slice (some ⟨rm, 0, none⟩) qs.length cm)).far (i := 2) (by omega : w.heap.size + 1 < w.heap.size + 1 + 1) (.slice none 0 0)).far (i := 3) (by omega : w.heap.size + 1 < w.heap.size + 1 + 1) (.int .i64 0)).far (i := 4) (by omega : w.heap.size + 1 < w.heap.size + 1 + 1) (.bool false))
    have k2 := (((((R2.out.far (i := 0) (by omega : w.heap.size + 1 < w1.heap.size) (.slice (some ⟨rd, 0, none⟩) ps.length cd)).far (i := 1) (by omega : w.heap.size + 1 < w1.heap.size) (.slice (some ⟨rm, 0, none⟩) qs.length cm)).far (i := 2) (by omega : w.heap.size + 1 < w1.heap.size) (.slice none 0 0)).far (i := 3) (by omega : w.heap.size + 1 < w1.heap.size) (.int .i64 0)).far (i := 4) (by omega : w.heap.size + 1 < w1.heap.size) (.bool false))
    refine ⟨⟨w1.heap.size, by omega, ?_, k1.down (by omega), k2.up' ?_⟩, ⟨F1.out.1, F2.out.1⟩, ⟨F1.out.2.1, F2.out.2.1⟩, F1.out.2.2, F2.out.2.2⟩
    · simp only [size_set]
      omega
    · simp only [size_set]
      omega

theorem s53 : S53 (zeros25 ++ zeros25 ++ #[.slice none 0 0, .int .i64 0, .bool false]) zeros25 := by
  refine ⟨fun j v h => ?_, fun j v h => ?_, rfl, rfl, rfl⟩
  · have hj : j < 25 := by
      have := (List.getElem?_eq_some_iff.1 h).1
      simpa using this
    rw [Array.getElem?_append_left (by simp; omega), Array.getElem?_append_left (by simpa using hj)]
    simpa using h
  · have hj : j < 25 := by
      have := (List.getElem?_eq_some_iff.1 h).1
      simpa using this
    rw [Array.getElem?_append_left (by simp; omega), Array.getElem?_append_right (by simp)]
    simpa using h
set_option maxHeartbeats 4000000 in
theorem engineNew_any (w : World) : Calls Try.prog 5 #[] w (NewEng w) := by
  have E : Hid (∀ W, Calls Try.prog 10 #[.agg (zeros25 ++ zeros25 ++ #[.slice none 0 0, .int .i64 0, .bool false])] W (NewEng W)) := fun W => engine_zero _ _ s53 z25 W
  go_enter Try.func5, Try.ntmps5
  go_wp2_with fail
  refine (E.out _).mono ?_
  rintro e w1 ⟨rd, cd, rm, cm, lg, ps, qs, rfl, b1, t1⟩
  have Q1 := Lib.hid ((Has.new w 25 engZ).below b1 (by simp))
  have B1 : Hid (Below w.heap.size w w1) := (below_one _ _).trans (b1.mono (by simp))
  simp only [World.size_alloc] at t1
  have T1 := Lib.hid t1
  clear b1 t1
  have c0 := Q1.out.cell 0
  have c1 := Q1.out.cell 1
  have c2 := Q1.out.cell 2
  have c3 := Q1.out.cell 3
  have c4 := Q1.out.cell 4
  simp at c0 c1 c2 c3 c4
  have f0 := Q1.out.frozen 0
  have f1 := Q1.out.frozen 1
  have f2 := Q1.out.frozen 2
  have f3 := Q1.out.frozen 3
  have f4 := Q1.out.frozen 4
  go_wp2_with fail
  refine bodyPost_ret (v := engV rd ps.length cd rm qs.length cm lg) (by simp [results, Try.results5, go_sem, c0, c1, c2, c3, c4]) rfl ⟨rd, cd, rm, cm, lg, ps, qs, rfl, ?_, ?_⟩
  · exact ((((B1.out.setCell (Nat.le_refl _) _).setCell (Nat.le_refl _) _).setCell (Nat.le_refl _) _).setCell (Nat.le_refl _) _).setCell (Nat.le_refl _) _
  · obtain ⟨⟨M, m0, m1, r1, r2⟩, hl, hs, hd⟩ := T1.out
    have k1 := (((((r1.far (i := 0) (by omega : w.heap.size < w.heap.size + 1) (.slice (some ⟨rd, 0, none⟩) ps.length cd)).far (i := 1) (by omega : w.heap.size < w.heap.size + 1) (.slice (some ⟨rm, 0, none⟩) qs.length cm)).far (i := 2) (by omega : w.heap.size < w.heap.size + 1) (.slice lg 0 0)).far (i := 3) (by omega : w.heap.size < w.heap.size + 1) (.int .i64 0)).far (i := 4) (by omega : w.heap.size < w.heap.size + 1) (.bool false))
    have k2 := (((((r2.far (i := 0) (by omega : w.heap.size < M) (.slice (some ⟨rd, 0, none⟩) ps.length cd)).far (i := 1) (by omega : w.heap.size < M) (.slice (some ⟨rm, 0, none⟩) qs.length cm)).far (i := 2) (by omega : w.heap.size < M) (.slice lg 0 0)).far (i := 3) (by omega : w.heap.size < M) (.int .i64 0)).far (i := 4) (by omega : w.heap.size < M) (.bool false))
    exact ⟨⟨M, by omega, by simp only [size_set]; exact m1, k1.down (by omega), k2.up' (by simp only [size_set]; exact Nat.le_refl _)⟩, hl, hs, hd⟩
end Go.Proofs.Ytoihdbcdlodkgaa.Base
