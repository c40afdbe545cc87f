/-
  Contracts of the program's frames and of its PageOk and PageEmpty. Conditions: the page's slots lead to numbers.
-/
import Derived.Test.YtoihdbcdlodkgaaGreatDoorPages
import Derived.Laws.Cover3
namespace Go.Proofs.YtoihdbcdlodkgaaGreatDoor.Base
open Go.RowKit

/-- a frame that is ok -/
def okF (l o a b c : Int) : Bool := inB l 0 150 && (inB o 0 3 && (inB a 0 9 && (inB b 0 9 && (inB c 0 9 && ((o != 0) || (a == 0 && (b == 0 && c == 0)))))))

/-- a page that is ok -/
def okP (l o : Int) (zs : List Int) : Bool := (zs.length == 3) && okF l o (zs.getD 0 0) (zs.getD 1 0) (zs.getD 2 0)

/-- what frameOf leaves -/
def FrameOf (l o : Int) (zs : List Int) (w : World) (e : Ending) (w' : World) : Prop :=
  e = .returned (.tuple #[if okP l o zs then frameV l o (zs.getD 0 0) (zs.getD 1 0) (zs.getD 2 0) else frameV 0 0 0 0 0, .bool (okP l o zs)]) ∧ Below w.heap.size w w'

end Go.Proofs.YtoihdbcdlodkgaaGreatDoor.Base
