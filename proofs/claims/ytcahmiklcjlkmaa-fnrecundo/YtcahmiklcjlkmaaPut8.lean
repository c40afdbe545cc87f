/-
  A record, stored whole: what stays. No conditions but those in each.
-/
import Derived.Test.YtcahmiklcjlkmaaRecs
namespace Go.Proofs.Ytcahmiklcjlkmaa.Base
open Go.RowKit

/-- a record, stored whole -/
abbrev stR (w : World) (b : Nat) (r : R) : World := (((((((w.setCell ⟨b, 0, none⟩ (.int .i64 r.k)).setCell ⟨b, 1, none⟩ (.int .i64 r.t)).setCell ⟨b, 2, none⟩ (.int .i64 r.p)).setCell ⟨b, 3, none⟩ (.int .i64 r.s)).setCell ⟨b, 4, none⟩ (.int .i64 r.o)).setCell ⟨b, 5, none⟩ (.int .i64 r.n)).setCell ⟨b, 6, none⟩ (.int .i64 r.v)).setCell ⟨b, 7, none⟩ (.int .i64 r.x)
theorem below_stR {B : Nat} {w0 w : World} (h : Below B w0 w) {b : Nat} (hb : B ≤ b) (r : R) : Below B w0 (stR w b r) :=
  (((((((h.setCell hb _).setCell hb _).setCell hb _).setCell hb _).setCell hb _).setCell hb _).setCell hb _).setCell hb _
end Go.Proofs.Ytcahmiklcjlkmaa.Base
