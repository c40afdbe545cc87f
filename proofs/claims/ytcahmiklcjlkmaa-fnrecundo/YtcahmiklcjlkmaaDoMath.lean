/-
  When a record can be applied to a page, and what then is in the page. No program in it.
-/
import Derived.Test.YtcahmiklcjlkmaaWith
import Derived.Test.YtcahmiklcjlkmaaRecOk
import Derived.Test.YtcahmiklcjlkmaaSpec
namespace Go.Proofs.Ytcahmiklcjlkmaa.Base
open Go.RowKit

/-- the slots behind record r -/
def newZ (r : R) (zs : List Int) : List Int := [sW 0 r.s r.n (zs.getD 0 0), sW 1 r.s r.n (zs.getD 1 0), sW 2 r.s r.n (zs.getD 2 0)]
/-- whether record r with the number lsn can be applied to a page -/
def doB (l o : Int) (zs : List Int) (r : R) (lsn : Int) : Bool := okP l o zs && (okR r && (chg r.k && (inB lsn (l + 1) 150 && okP lsn (oW r.s r.n o) (newZ r zs))))

/-- what RecDo leaves: the page behind the record, in new memory, or none -/
structure DoP (b : Bool) (lsn o : Int) (zs : List Int) (w : World) (e : Ending) (w' : World) : Prop where
  kept : Below w.heap.size w w'
  no : b = false → e = .returned (.tuple #[pageV 0 0 none 0 0, .bool false])
  yes : b = true → ∃ g q cap, e = .returned (.tuple #[pageV lsn o (some ⟨g, q, none⟩) 3 cap, .bool true]) ∧ w.heap.size ≤ g ∧ Rd .i64 w' g q zs ∧ Wr w' g q 3 ∧ 3 ≤ cap

/-- three cells, stored -/
abbrev put3 (w : World) (b : Nat) (x y z : Value) : World := ((w.setCell ⟨b, 0, none⟩ x).setCell ⟨b, 1, none⟩ y).setCell ⟨b, 2, none⟩ z
section
variable {w w0 : World} {b g B o : Nat} {T : TypeId} {cs : Array Value} {zs : List Int}
theorem put3_far (h : Has w g T cs) (hg : g ≠ b) (x y z : Value) : Has (put3 w b x y z) g T cs := ((h.far hg _).far hg _).far hg _
theorem put3_below (h : Below B w0 w) (hb : B ≤ b) (x y z : Value) : Below B w0 (put3 w b x y z) := ((h.setCell hb _).setCell hb _).setCell hb _
theorem put3_rd {k : IntKind} (h : Rd k w g o zs) (hg : g ≠ b) (x y z : Value) : Rd k (put3 w b x y z) g o zs :=
  h.keep (by rw [put3, Below.heap_setCell _ _ _ _ (by simpa using hg), Below.heap_setCell _ _ _ _ (by simpa using hg), Below.heap_setCell _ _ _ _ (by simpa using hg)])
theorem put3_wr {n : Nat} (h : Wr w g o n) (x y z : Value) : Wr (put3 w b x y z) g o n := ((h.set _ _).set _ _).set _ _
end

theorem ok_three {l o : Int} {zs : List Int} (h : okP l o zs = true) : ∃ x y z, zs = [x, y, z] := by
  have h3 : zs.length = 3 := by
    cases h' : (zs.length == 3)
    · simp only [okP, h', Bool.false_and] at h
      cases h
    · simpa using h'
  match zs, h3 with
  | [x, y, z], _ => exact ⟨x, y, z, rfl⟩
end Go.Proofs.Ytcahmiklcjlkmaa.Base
