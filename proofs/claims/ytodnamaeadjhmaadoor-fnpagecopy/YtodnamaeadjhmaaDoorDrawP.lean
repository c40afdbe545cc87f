/-
  Contracts of DrawPageOk and DrawPageEmpty. Only the form of a drawn page is said. Conditions: the code is a slice of bytes.
-/
import Derived.Test.YtodnamaeadjhmaaDoorDraw
namespace Go.Proofs.YtodnamaeadjhmaaDoor.Base
open Go.RowKit

/-- a code: a slice of bytes, below block B -/
structure Bytes (w : World) (B : Nat) (a : Option Addr) (zs : List Int) (cap : Nat) : Prop where
  ints : Ints .u8 w B a zs
  bytes : ∀ j, j < zs.length → 0 ≤ zs.getD j 0 ∧ zs.getD j 0 ≤ 255
  fit : zs.length ≤ cap
  most : cap ≤ maxLen
theorem Bytes.below {w w' : World} {B : Nat} {a : Option Addr} {zs : List Int} {cap : Nat} (h : Bytes w B a zs cap) (hb : Below B w w') : Bytes w' B a zs cap := ⟨h.ints.below hb, h.bytes, h.fit, h.most⟩

/-- a drawn page in new memory; nothing that was there has turned -/
def DrawnP (w : World) (e : Ending) (w' : World) : Prop := Drawn w.heap.size e w' ∧ Below w.heap.size w w'

theorem DrawnBy.out {g : Nat} {a : Option Addr} {bs : List Int} {cap B : Nat} {w w' : World} {e : Ending} {m : Int} (h : DrawnBy g a bs cap B m w e w') (hg : w.heap.size ≤ g) : DrawnP w e w' :=
  ⟨h.1, below_grown h.2.1 hg (Nat.le_refl _)⟩

set_option maxHeartbeats 4000000 in
theorem drawPageOk_any (a : Option Addr) (zs : List Int) (cap B : Nat) (w : World) (hB : B ≤ w.heap.size) (hc : Bytes w B a zs cap) :
    Calls Tryd.prog 8 #[.slice a zs.length cap] w (DrawnP w) := by
  have H := Lib.hid hc
  clear hc
  go_enter Tryd.func8, Tryd.ntmps8
  go_wp2_with fail
  refine (l6Open_any a zs cap B _ (by simp; omega) (H.out.ints.below ((below_one _ _).mono hB)) H.out.bytes H.out.fit H.out.most).mono ?_
  rintro e w1 ⟨a', bs, cap', rfl, b1, r1⟩
  rw [World.size_alloc] at r1
  have R1 := Lib.hid r1
  have B1 := Lib.hid b1
  have l1 := r1.has.lt
  clear r1 b1 H
  simp only [World.size_alloc]
  go_wp2_with fail
  refine (l71Page_any (w.heap.size + 1) a' bs cap' 0 B _ R1.out (by omega)).mono ?_
  rintro e w2 ⟨⟨l, o, ys, g1, q, c, rfl, hrd, hwr, hg1, hc1, hc2, hsm⟩, hgr, p, hp, hr⟩
  have S0 : St w (w2.alloc (.cells #[.int .i64 l, .int .i64 o, .slice (some ⟨g1, q, none⟩) ys.length c] 25)) (w.heap.size + 1) a' bs cap' B w.heap.size w2.heap.size g1 q c l o ys p := by
    have hb2 : Below w.heap.size w w1 := (below_one _ _).trans (B1.out.mono (by simp))
    have hn : some w.heap.size ≠ some (w.heap.size + 1) := fun e => by injection e; omega
    refine ⟨hr.below (below_one _ _) hr.has.lt, (((Has.new w _ _).below B1.out (by simp)).grown hgr hn).alloc _, Has.new _ _ _, hrd.below (below_one _ _) hwr.1, hwr.below (below_one _ _) hwr.1, hB, Nat.le_refl _, by omega, hwr.1, grown_alloc (grown_two (grown_below hb2 _) hgr) _, ⟨hc1, hc2⟩, hsm⟩
  have S := Lib.hid S0
  have n1 : w.heap.size < w2.heap.size := by have := S0.mid; have := S0.ord; omega
  have hg2 := hwr.1
  clear S0 hrd hwr hgr hr R1 B1
  go_wp2_with fail
  generalize (w2.alloc (.cells #[.int .i64 l, .int .i64 o, .slice (some ⟨g1, q, none⟩) ys.length c] 25)) = w3 at *
  refine (pick_any 5 (w.heap.size + 1) a' bs cap' p B _ S.out.rdr (by omega) (by omega) (by omega)).mono ?_
  rintro e w4 ⟨v, rfl, v0, v1, hgr, -, hr⟩
  have S4 := Lib.hid (S.out.pick hgr hr)
  clear v1 hgr hr S
  by_cases h0 : v = 0
  · subst h0
    have n4 : g1 < w4.heap.size := by have := S4.out.wr.1; omega
    have n5 : w2.heap.size < w4.heap.size := S4.out.box.lt
    have n6 : w.heap.size + 1 < w4.heap.size := S4.out.rdr.has.lt
    go_wp2_with fail
    have S5 := Lib.hid (S4.out.alloc (.cells #[.int .i64 (-1), .int .i64 150, .int .i64 151] 3))
    have t5 := Has.new w4 3 #[.int .i64 (-1), .int .i64 150, .int .i64 151]
    generalize (w4.alloc (.cells #[.int .i64 (-1), .int .i64 150, .int .i64 151] 3)) = w5 at *
    clear S4
    refine (pick_any 3 (w.heap.size + 1) a' bs cap' (p + 1) B _ S5.out.rdr (by omega) (by omega) (by omega)).mono ?_
    rintro e w6 ⟨x, rfl, x0, x1, hgr, -, hr⟩
    have x2 := x1 (by omega)
    have S6 := Lib.hid (S5.out.pick hgr hr)
    have t6 := t5.grown hgr (fun e => by injection e; omega)
    clear x1 hgr hr S5 t5
    obtain ⟨y, y0, y1, y2⟩ : ∃ y : Int, w6.cell? ⟨w4.heap.size, x.toNat, none⟩ = some (.int .i64 y) ∧ -1 ≤ y ∧ y ≤ 151 := by
      rw [t6.cell]
      have : x = 0 ∨ x = 1 ∨ x = 2 := by omega
      rcases this with rfl | rfl | rfl
      · exact ⟨-1, rfl, by omega, by omega⟩
      · exact ⟨150, rfl, by omega, by omega⟩
      · exact ⟨151, rfl, by omega, by omega⟩
    clear t6
    obtain ⟨k, rfl⟩ := Int.eq_ofNat_of_zero_le x0
    rw [Int.toNat_natCast] at y0
    obtain ⟨c0, c1, c2⟩ := S6.out.box.three
    have f0 := S6.out.box.frozen 0
    have S7 := Lib.hid (S6.out.setBox 0 (.int .i64 y) y o ys q c rfl S6.out.rd S6.out.wr S6.out.fit ⟨hsm.most, hsm.least, hsm.vals, by omega, hsm.own⟩)
    clear S6
    obtain ⟨d0, d1, d2⟩ := S7.out.box.three
    obtain ⟨r0, r1, r2⟩ := S7.out.res.three
    have t0 := S7.out.res.frozen 0
    have t1 := S7.out.res.frozen 1
    have t2 := S7.out.res.frozen 2
    have n2 : w.heap.size ≠ w2.heap.size := by omega
    go_wp2
    refine bodyPost_ret (v := pageV y o (some ⟨g1, q, none⟩) ys.length c) (by simp [results, Tryd.results8, go_sem, r0, r1, r2]) rfl ((S7.out.finish (Int.le_refl _)).out (by omega))
  · have b0 : (v == 0) = false := by simpa using h0
    clear h0
    obtain ⟨d0, d1, d2⟩ := S4.out.box.three
    obtain ⟨r0, r1, r2⟩ := S4.out.res.three
    have t0 := S4.out.res.frozen 0
    have t1 := S4.out.res.frozen 1
    have t2 := S4.out.res.frozen 2
    have n2 : w.heap.size ≠ w2.heap.size := by omega
    go_wp2
    refine bodyPost_ret (v := pageV l o (some ⟨g1, q, none⟩) ys.length c) (by simp [results, Tryd.results8, go_sem, r0, r1, r2]) rfl ((S4.out.finish (Int.le_refl _)).out (by omega))

attribute [local go_sem] make3

end Go.Proofs.YtodnamaeadjhmaaDoor.Base
