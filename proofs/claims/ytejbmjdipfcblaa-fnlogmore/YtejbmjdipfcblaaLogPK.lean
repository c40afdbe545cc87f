/-
  The program's LogPages. Conditions: the slice leads to records.
-/
import Derived.Test.YtejbmjdipfcblaaPagesRowK
import Derived.Test.YtejbmjdipfcblaaChainsK
namespace Go.Proofs.Ytejbmjdipfcblaa.Base
open Go.RowKit Go.Shelf

attribute [local go_sem] Oper.semAt_some

/-- a row of one's own that is not empty: where it lies -/
theorem OwnI.row {w : World} {base : Nat} {v : Value} {zs : List Int} (h : OwnI w base v zs) (hp : 0 < zs.length) : ∃ g cap, v = .slice (some ⟨g, 0, none⟩) zs.length cap ∧ base ≤ g ∧ zs.length ≤ cap ∧ (∃ cur, Has w g 3 cur) ∧ Rd .i64 w g 0 zs ∧ Wr w g 0 zs.length := by
  obtain ⟨a, c, e, m⟩ := h.mine
  obtain ⟨g, rfl, hg, hr, hw⟩ := m hp
  rcases h.2 with ⟨e2, h0⟩ | ⟨g2, cap, cur, e2, hlow, hhas, hnc, hmax, hsz, htk⟩
  · omega
  · rw [e] at e2
    injection e2 with e3 e4 e5
    injection e3 with e6
    injection e6 with e7
    subst e7 e5
    exact ⟨g, c, e, hg, hnc, ⟨cur, hhas⟩, hr, hw⟩

/-- the record that the loop has in its box -/
def BoxR (r : R) (mk : Nat → Act) (a' : Act) (W : World) : Prop :=
  ∃ Bx, Has W Bx 27 #[.int .i64 r.k, .int .i64 r.t, .int .i64 r.p, .int .i64 r.s, .int .i64 r.o, .int .i64 r.n, .int .i64 r.v, .int .i64 r.x] ∧ a' = mk Bx
theorem boxR_own (B : Nat) (r : R) (mk : Nat → Act) (a' : Act) : OwnFrom B (fun (_ : Unit) W => BoxR r mk a' W) := by
  rintro u W W' row ⟨Bx, h, e⟩ hg hr
  refine ⟨Bx, (hg.block Bx h.lt (fun e' => ?_)).trans h, e⟩
  obtain ⟨_, o, ho, hc⟩ := hr Bx e'.symm
  rw [show W.heap[Bx]? = _ from h] at ho
  cases ho
  cases hc

theorem sort_some (g cap : Nat) (zs ys : List Int) (w : World) (hr : Rd .i64 w g 0 zs) (hw : Wr w g 0 zs.length) (hn : zs.length ≤ 1000000) (hy : Lib.compact (zs.mergeSort fun x y => decide (x ≤ y)) = ys) :
    Calls Try.prog 36 #[.slice (some ⟨g, 0, none⟩) zs.length cap] w fun e w' =>
      e = .returned (.tuple #[]) ∧ w.grownBy w' (some g) ∧ ∃ ms : List Int, ms.length = zs.length ∧ Lib.compact ms = ys ∧ Rd .i64 w' g 0 ms ∧ Wr w' g 0 ms.length := by
  refine (sort_any g cap zs w hr hw hn).mono ?_
  rintro e w' ⟨he, h1, h2, h3⟩
  have hl : (zs.mergeSort fun x y => decide (x ≤ y)).length = zs.length := List.length_mergeSort _
  exact ⟨he, h1, _, hl, hy, h2, by rw [hl]; exact h3⟩

set_option maxRecDepth 100000 in
set_option maxHeartbeats 400000 in
theorem logPages_any (rs : List R) (t : Int) (a : Option Addr) (cap B : Nat) (w : World) (hB : B ≤ w.heap.size) (hz : Recs w B a rs) (hc : rs.length ≤ cap) (mx : rs.length ≤ 1000000000) :
    Calls Try.prog 21 #[.slice a rs.length cap, .int .i64 t] w (Gives (pagesB rs t) w) := by
  have Hz := Lib.hid (hz.more hB)
  clear hz
  obtain ⟨i0, hi, hz0, hz1, hz2⟩ := info_parts infoInt
  refine (callsIn_wide (n := 3)).1 ?_
  refine callsIn_of_wp_marks Try.func21 rfl trivial ?_ rfl
  simp only [Try.ntmps21, List.size_toArray, List.length_cons, List.length_nil, Nat.reduceAdd, Nat.reduceSub, Array.replicate_succ, Array.replicate_zero, List.push_toArray, List.append_toArray, List.nil_append, List.cons_append]
  gi_wp2_with (refine ⟨trivial, ?_⟩; gi_at_call 34; refine (callsIn_wide.2 (chainOf_any t a rs.length cap _)).mono ?_; rintro e w' ⟨rfl, rfl⟩)
  have bO := Boxed.new w 31 (.slice none 0 0)
  have hl := Has.new (w.alloc (.cells #[.slice none 0 0] 31)) 23 #[.slice a rs.length cap]
  have ht := Has.new ((w.alloc (.cells #[.slice none 0 0] 31)).alloc (.cells #[.slice a rs.length cap] 23)) 3 #[.int .i64 t]
  simp only [World.size_alloc] at hl ht
  have hB0 : Below w.heap.size w (((w.alloc (.cells #[.slice none 0 0] 31)).alloc (.cells #[.slice a rs.length cap] 23)).alloc (.cells #[.int .i64 t] 3)) := ((below_two _ _ _).alloc (by simp; omega) _)
  have hI : Its (((w.alloc (.cells #[.slice none 0 0] 31)).alloc (.cells #[.slice a rs.length cap] 23)).alloc (.cells #[.int .i64 t] 3)) (w.heap.size + 1) (w.heap.size + 1 + 1) w.heap.size (w.heap.size + 1 + 1 + 1) a cap t rs :=
    ⟨(hl.alloc _).cell 0, ht.cell 0, Hz.out.below hB0, by omega⟩
  have hb3 : Boxed (((w.alloc (.cells #[.slice none 0 0] 31)).alloc (.cells #[.slice a rs.length cap] 23)).alloc (.cells #[.int .i64 t] 3)) w.heap.size 31 (.slice none 0 0) := (bO.alloc _).alloc _
  have hsz : (w.heap.size + 1 + 1 + 1) ≤ (((w.alloc (.cells #[.slice none 0 0] 31)).alloc (.cells #[.slice a rs.length cap] 23)).alloc (.cells #[.int .i64 t] 3)).heap.size := by simp
  have hsz' : (((w.alloc (.cells #[.slice none 0 0] 31)).alloc (.cells #[.slice a rs.length cap] 23)).alloc (.cells #[.int .i64 t] 3)).heap.size = w.heap.size + 1 + 1 + 1 := by simp
  have Hsz := Lib.hid hsz'
  clear hl ht bO hsz'
  generalize (((w.alloc (.cells #[.slice none 0 0] 31)).alloc (.cells #[.slice a rs.length cap] 23)).alloc (.cells #[.int .i64 t] 3)) = W0 at *
  refine wpIn_rangeFunc_ownH rfl (by omega) (gf := 45) (lb := #[.pointer (some ⟨w.heap.size + 1, 0, none⟩), .pointer (some ⟨w.heap.size + 1 + 1, 0, none⟩)]) rfl trivial (enters_of Try.func45 (by kernel_rfl) rfl)
    (chain_stops 2 (by omega) (w.heap.size + 1) (w.heap.size + 1 + 1) w.heap.size (w.heap.size + 1 + 1 + 1) a cap t rs hc mx W0 hI hsz) Kx.trans (kx_b hsz) (Below.refl _ _) (fun _ => rfl)
    (fun pre W => (∃ v, Boxed W w.heap.size 31 v ∧ W.ownsRow (w.heap.size + 1 + 1 + 1) 3 1 v pre.length (pre.map fun n : Nat => Value.int .i64 (recAt rs (n - 1)).p) ∧ True) ∧ (Below w.heap.size w W ∧ (w.heap.size + 1 + 1 + 1) ≤ W.heap.size))
    (fun _ _ _ => False)
    (OwnFrom.and (Own.from (holdsRow_own (w.heap.size + 1 + 1 + 1) w.heap.size 31 3 1 (fun pre : List Nat => pre.length) (fun pre => pre.map fun n : Nat => Value.int .i64 (recAt rs (n - 1)).p) (fun _ _ => True)) _) (OwnFrom.and (ownFrom_below (Nat.le_refl _) (by omega)) (fun _ _ _ _ h hg _ => Nat.le_trans h hg.size)))
    (fun _ _ _ _ _ hs _ _ => hs)
    ⟨⟨_, hb3, World.ownsRow_nil _ _ _ _, trivial⟩, hB0, hsz⟩
    (fun n => BoxR (recAt rs (n - 1)) (fun Bx => { tmps := #[.slice a rs.length cap, .int .i64 t, undef, undef, .slice none 0 0, .pointer (some ⟨w.heap.size, 0, none⟩), undef, .pointer (some ⟨Bx, 0, none⟩), .slice a rs.length cap, .int .i64 t, .func (.func 45) #[] #[.pointer (some ⟨w.heap.size + 1, 0, none⟩), .pointer (some ⟨w.heap.size + 1 + 1, 0, none⟩)], .int .i64 (n : Int), recV (recAt rs (n - 1)), undef, undef, undef, undef, undef, undef, undef, undef, undef], defers := [] })) (fun _ _ => boxR_own _ _ _ _) ?assign ?body ?done ?stop
  case assign =>
    rintro l pre x W K ⟨⟨v, hv, hrow, -⟩, hB, hn⟩ hK
    gi_wp2
    exact hK _ _ ((KeepsOthers.alloc _ _).from _) ⟨by simp, fun i hi _ => Below.heap_alloc _ _ _ (by omega)⟩ ⟨⟨v, hv.alloc _, hrow.alloc _, trivial⟩, hB.alloc (by omega) _, by simp; omega⟩ ⟨_, Has.new _ _ _, rfl⟩
  case body =>
    rintro l pre x a' W hl0 hl1 ⟨⟨v, hv, hrow, -⟩, hB, hn⟩ ⟨Bx, hbx, rfl⟩ hlt
    have hc0 := hv.cell
    have hp0 : W.cell? ⟨Bx, 2, none⟩ = some (.int .i64 (recAt rs (x - 1)).p) := hbx.cell 2
    gi_wp2_with (gi_at_builtin; refine wpListIn_append_own _ rfl _ _ 31 rfl (w.heap.size + 1 + 1 + 1) 3 i0 (.int .i64 0) 1 8 Try.underlying31 hi hz0 hz1 hz2 rfl (by decide) _ _ _ rfl (hrow.alloc _) ⟨W.heap.size, 0, none⟩ 1 1 [.int .i64 (recAt rs (x - 1)).p] rfl rfl (cell_one_new _ _ _) (by simp [Value.oneCell']) (by simp [maxLen]; omega) (by omega) (by simp; omega) ?_; intro v' w1 hown' hgrow _; obtain ⟨g', cap', rfl⟩ := ownsRow_succ hown'; obtain ⟨hv1, hv2, hr2, hk2, hx2, hb2⟩ := appended_x hv (by decide) hrow hn hown' hgrow; have hc1 := hv1.cell; have hf1 := hv1.frozen)
    have hbb := hb2 w.heap.size (by omega) (Nat.le_refl _)
    exact ⟨hk2.from _, hx2, ⟨_, hv2, by simpa using hr2, trivial⟩, hB.trans hbb, Nat.le_trans hn hx2.size⟩
  case done =>
    rintro D ys W hD rfl ⟨⟨v, hv, hrow, -⟩, hB, hn⟩ hK
    have hc0 := hv.cell
    have hown : OwnI W (w.heap.size + 1 + 1 + 1) v (pageL rs t) := by
      unfold OwnI pageL
      rw [List.length_map, List.map_map]
      exact hrow
    have hD' : w.heap.size ≤ D := by have := Hsz.out; omega
    have hps := pages_sorted rs t
    have hpl := pageL_len rs t
    clear hrow Hsz hI hb3 hsz hB0
    by_cases hp : 0 < (pageL rs t).length
    · obtain ⟨g, cp, rfl, hg, hcp, ⟨cur, hcur⟩, hr, hw⟩ := hown.row hp
      have hne : g ≠ w.heap.size := by omega
      have hDg : g ≠ D := fun e => by subst e; rw [show W.heap[g]? = _ from hcur] at hK; cases hK
      clear hown hcur
      gi_wp2_with (refine ⟨trivial, ?_⟩; gi_at_call 36; refine (callsIn_wide.2 (sort_some g cp (pageL rs t) (pagesB rs t) _ hr hw (by omega) hps)).mono ?_; rintro e w1 ⟨rfl, g1, ms, hl, hms, r1, f1⟩; have hc1 := (hv.kept g1 (fun e => hne (by injection e with e; exact e.symm))).cell; rw [← hl] at hc1 hcp)
      have hK1 : w1.heap[D]? = some (.deferred (some [])) := (g1.block D (Array.getElem?_eq_some_iff.1 hK).1 (fun e => hDg (by injection e with e; exact e.symm))).trans hK
      have hB1 : Below w.heap.size w w1 := hB.trans (below_grown g1 (by omega) (by omega))
      have hs1 := g1.size
      rw [← hl] at hpl
      clear hr hw hc0 hv g1 hK hB hps
      gi_wp2_with fail
      refine ⟨trivial, ?_⟩
      rw [← hl]
      clear hl
      refine (callsIn_wide.2 (compact_any g cp ms _ r1 f1 (by omega) hcp)).mono ?_
      rintro e w2 ⟨rfl, g2, r2, f2⟩
      have hK2 : w2.heap[D]? = some (.deferred (some [])) := (g2.block D (Array.getElem?_eq_some_iff.1 hK1).1 (fun e => hDg (by injection e with e; exact e.symm))).trans hK1
      have hB2 : Below w.heap.size w w2 := hB1.trans (below_grown g2 (by omega) (by omega))
      rw [hms] at r2 f2 ⊢
      gi_wp2
      refine ⟨by simp, .inl ⟨_, _, rfl, run_takeDeferred hK2, ?_⟩⟩
      refine ⟨_, results_tmp rfl _ _ _, _, cp, rfl, hB2.trans (belowK_b (w := w) (Nat.le_refl _) w2 D _ _ hD' hK2 rfl rfl), fun _ => ⟨g, rfl, by omega, ?_, ?_⟩⟩
      · exact r2.keep (World.putObj_heap_other (by omega))
      · exact f2.keep (by simp) (World.putObj_heap_other (by omega))
    · have h0 : (pageL rs t).length = 0 := by omega
      have hz : pagesB rs t = [] := by
        rw [← hps, List.eq_nil_of_length_eq_zero h0]
        simp [Lib.compact, Lib.compactUpTo]
      obtain ⟨a', cp, rfl, -⟩ := hown.mine
      rw [h0] at hc0
      clear hown hps hv
      gi_wp2_with fail
      refine ⟨trivial, ?_⟩
      try rw [h0]
      refine (callsIn_wide.2 (Try.slices_Sort_int_none a' cp W)).mono ?_
      rintro e w1 ⟨rfl, rfl⟩
      gi_wp2_with fail
      refine ⟨trivial, ?_⟩
      try rw [h0]
      refine (callsIn_wide.2 (Try.slices_Compact_int_empty a' cp w1)).mono ?_
      rintro e w2 ⟨rfl, rfl⟩
      gi_wp2
      refine ⟨by simp, .inl ⟨_, _, rfl, run_takeDeferred hK, ?_⟩⟩
      exact ⟨_, results_tmp rfl _ _ _, a', cp, by rw [hz]; rfl, hB.trans (belowK_b (w := w) (Nat.le_refl _) w2 D _ _ hD' hK rfl rfl), by rw [hz]; exact fun hp => absurd hp (by simp)⟩
  case stop =>
    rintro D c pre W _ _ h _
    exact h.elim
end Go.Proofs.Ytejbmjdipfcblaa.Base
