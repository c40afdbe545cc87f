/-
  When a record is valid, in the program's words: the same as in the model's. No program in it.
-/
import Derived.Test.YtoihdbcdlodkgaaGreatDoorEntry
namespace Go.Proofs.YtoihdbcdlodkgaaGreatDoor.Base
open Go.RowKit

theorem okR_1 (t p s o n v x : Int) : okR ⟨1, t, p, s, o, n, v, x⟩ = (okPut t v p s o n && eqR ⟨1, t, p, s, o, n, v, 0⟩ ⟨1, t, p, s, o, n, v, x⟩) := by
  rw [Bool.eq_iff_iff]
  by_cases hs : s < 0 <;> simp [okR, formB, ofB, most, okPut, hdB_in, inB, eqR, hs] <;> omega

theorem okR_2 (t p s o n v x : Int) : okR ⟨2, t, p, s, o, n, v, x⟩ = (okOwn t v p o n && eqR ⟨2, t, p, -1, o, n, v, 0⟩ ⟨2, t, p, s, o, n, v, x⟩) := by
  rw [Bool.eq_iff_iff]
  by_cases hs : s < 0 <;> simp [okR, formB, ofB, most, okOwn, hdB_in, inB, eqR, hs] <;> omega

theorem okR_3 (t p s o n v x : Int) : okR ⟨3, t, p, s, o, n, v, x⟩ = (okLoad t v p && eqR ⟨3, t, p, 0, 0, 0, v, 0⟩ ⟨3, t, p, s, o, n, v, x⟩) := by
  rw [Bool.eq_iff_iff]
  simp [okR, formB, okLoad, hdB_in, inB, eqR] <;> omega

theorem okR_4 (t p s o n v x : Int) : okR ⟨4, t, p, s, o, n, v, x⟩ = (hdB t v && eqR ⟨4, t, 0, 0, 0, 0, v, 0⟩ ⟨4, t, p, s, o, n, v, x⟩) := by
  rw [Bool.eq_iff_iff]
  simp [okR, formB, hdB_in, inB, eqR] <;> omega

theorem okR_5 (t p s o n v x : Int) : okR ⟨5, t, p, s, o, n, v, x⟩ = (hdB t v && eqR ⟨5, t, 0, 0, 0, 0, v, 0⟩ ⟨5, t, p, s, o, n, v, x⟩) := by
  rw [Bool.eq_iff_iff]
  simp [okR, formB, hdB_in, inB, eqR] <;> omega

theorem okR_6 (t p s o n v x : Int) : okR ⟨6, t, p, s, o, n, v, x⟩ = (okUndo t v p s n x && eqR ⟨6, t, p, s, 0, n, v, x⟩ ⟨6, t, p, s, o, n, v, x⟩) := by
  rw [Bool.eq_iff_iff]
  by_cases hs : s < 0 <;> simp [okR, formB, ofB, most, okUndo, hdB_in, inB, eqR, hs] <;> (try split) <;> omega

end Go.Proofs.YtoihdbcdlodkgaaGreatDoor.Base
