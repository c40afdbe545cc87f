/-
  Contracts of the model's DrawRecText and DrawRecOk: a record. Only that it is one is said, not which. Conditions: the code is a slice of bytes.
-/
import Derived.Test.YtoihdbcdlodkgaaGreatDoorDrawRec
import Derived.Test.YtoihdbcdlodkgaaGreatDoorDrawP
namespace Go.Proofs.YtoihdbcdlodkgaaGreatDoor.Base
open Go.RowKit

/-- a drawn record; nothing that was there has turned -/
def DrawnRec (w : World) (e : Ending) (w' : World) : Prop := Below w.heap.size w w' ∧ ∃ r : R, e = .returned (recV r)

set_option maxRecDepth 100000 in
set_option maxHeartbeats 4000000 in
theorem drawRecText_any (a : Option Addr) (zs : List Int) (cap B : Nat) (w : World) (hB : B ≤ w.heap.size) (hc : Bytes w B a zs cap) :
    Calls Tryz.prog 10 #[.slice a zs.length cap] w (DrawnRec w) := by
  have H := Lib.hid hc
  clear hc
  go_enter Tryz.func10, Tryz.ntmps10
  go_wp2_with fail
  refine (l6Open_any a zs cap B _ (by simp; omega) (H.out.ints.below ((below_one _ _).mono hB)) H.out.bytes H.out.fit H.out.most).mono ?_
  rintro e w1 ⟨a', bs, cap', rfl, b1, h1⟩
  have x1 := (Has.new w 23 #[.int .i64 0, .int .i64 0, .int .i64 0, .int .i64 0, .int .i64 0, .int .i64 0, .int .i64 0, .int .i64 0]).below b1 (by simp)
  have k1 : Below w.heap.size w w1 := (below_one _ _).trans (b1.mono (by simp))
  simp only [World.size_alloc] at h1 ⊢
  have H1 := Lib.hid h1
  have X1 := Lib.hid x1
  have K1 := Lib.hid k1
  clear b1 h1 x1 k1 H
  go_wp2_with fail
  refine (l71Rec_any (w.heap.size + 1) a' bs cap' 0 B _ H1.out (by omega)).mono ?_
  rintro e w2 ⟨r, rfl, hgr, p, hp, hr⟩
  have x2 := X1.out.grown hgr (fun e => by injection e; omega)
  have V : Hid (Below w.heap.size w (put8 w2 w.heap.size r)) := below_grown (grown_put8 (grown_two (grown_below K1.out (some (w.heap.size + 1))) hgr) (Nat.le_refl _) r) (by omega) (Nat.le_refl _)
  obtain ⟨s0, s1, s2, s3, s4, s5, s6, s7⟩ := eight x2
  have f0 := x2.frozen 0
  have f1 := x2.frozen 1
  have f2 := x2.frozen 2
  have f3 := x2.frozen 3
  have f4 := x2.frozen 4
  have f5 := x2.frozen 5
  have f6 := x2.frozen 6
  have f7 := x2.frozen 7
  clear hgr hr x2 H1 X1 K1
  go_wp2
  refine bodyPost_ret (v := recV r) (by simp [results, Tryz.results10, go_sem, s0, s1, s2, s3, s4, s5, s6, s7]) rfl ⟨V.out, r, rfl⟩

end Go.Proofs.YtoihdbcdlodkgaaGreatDoor.Base
