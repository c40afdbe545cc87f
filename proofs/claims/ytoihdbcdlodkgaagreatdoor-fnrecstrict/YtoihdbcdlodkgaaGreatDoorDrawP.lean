/-
  Contracts of DrawPageOk and DrawPageEmpty. Only the form of a drawn page is said. Conditions: the code is a slice of bytes.
-/
import Derived.Test.YtoihdbcdlodkgaaGreatDoorDraw
namespace Go.Proofs.YtoihdbcdlodkgaaGreatDoor.Base
open Go.RowKit

/-- a code: a slice of bytes, below block B -/
structure Bytes (w : World) (B : Nat) (a : Option Addr) (zs : List Int) (cap : Nat) : Prop where
  ints : Ints .u8 w B a zs
  bytes : ∀ j, j < zs.length → 0 ≤ zs.getD j 0 ∧ zs.getD j 0 ≤ 255
  fit : zs.length ≤ cap
  most : cap ≤ maxLen
theorem Bytes.below {w w' : World} {B : Nat} {a : Option Addr} {zs : List Int} {cap : Nat} (h : Bytes w B a zs cap) (hb : Below B w w') : Bytes w' B a zs cap := ⟨h.ints.below hb, h.bytes, h.fit, h.most⟩

/-- a drawn page in new memory; nothing that was there has turned -/
def DrawnP (w : World) (e : Ending) (w' : World) : Prop := Drawn w.heap.size e w' ∧ Below w.heap.size w w'

theorem DrawnBy.out {g : Nat} {a : Option Addr} {bs : List Int} {cap B : Nat} {w w' : World} {e : Ending} {m : Int} (h : DrawnBy g a bs cap B m w e w') (hg : w.heap.size ≤ g) : DrawnP w e w' :=
  ⟨h.1, below_grown h.2.1 hg (Nat.le_refl _)⟩

end Go.Proofs.YtoihdbcdlodkgaaGreatDoor.Base
