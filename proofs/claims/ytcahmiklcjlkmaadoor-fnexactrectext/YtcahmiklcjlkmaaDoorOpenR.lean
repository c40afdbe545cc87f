/-
  A record that came in as an argument: eight numbers. No conditions.
-/
import Derived.Test.YtcahmiklcjlkmaaDoorRecs
import Derived.OpenShut
namespace Go.Proofs.YtcahmiklcjlkmaaDoor.Base
open Go.ChangeShapes Go.WideShapes Go.ChangeAt Go.RowKit

theorem array8 {α : Type} {cs : Array α} (h : cs.size = 8) : ∃ c0 c1 c2 c3 c4 c5 c6 c7, cs = #[c0, c1, c2, c3, c4, c5, c6, c7] := by
  obtain ⟨l⟩ := cs
  match l, h with
  | [c0, c1, c2, c3, c4, c5, c6, c7], _ => exact ⟨c0, c1, c2, c3, c4, c5, c6, c7, rfl⟩

set_option maxRecDepth 100000 in
theorem openRec {W : World} {rc : Reach} {b0 : Nat} {v0 : Value} (hv : Value.okWide Tryd.prog W rc b0 28 v0) : ∃ r : R, v0 = recV r := by
  simp only [Value.okWide, Tryd.underlying28] at hv
  obtain ⟨cs, rfl, hsz, ts, hts, _, hc⟩ := hv
  have hts' : Tryd.prog.cellTypes Tryd.prog.depth 28 = some [3, 3, 3, 3, 3, 3, 3, 3] := by kernel_rfl
  rw [hts'] at hts
  obtain rfl := Option.some.inj hts
  rw [show Tryd.prog.cellsOf 28 = 8 from by kernel_rfl] at hsz
  obtain ⟨c0, c1, c2, c3, c4, c5, c6, c7, rfl⟩ := array8 hsz
  have hi : ∀ (i : Nat) (c : Value), #[c0, c1, c2, c3, c4, c5, c6, c7][i]? = some c → i < 8 → ∃ n, c = .int .i64 n := fun i c h hi => by
    obtain ⟨u, hu, ho⟩ := hc i c h
    have hu' : u = 3 := by
      match i, hi with
      | 0, _ => simpa using hu.symm
      | 1, _ => simpa using hu.symm
      | 2, _ => simpa using hu.symm
      | 3, _ => simpa using hu.symm
      | 4, _ => simpa using hu.symm
      | 5, _ => simpa using hu.symm
      | 6, _ => simpa using hu.symm
      | 7, _ => simpa using hu.symm
    subst hu'
    exact okWide_int (P := Tryd.prog) (t := 3) (r := rc) (base := b0) (w := W) Tryd.underlying3 (by simp only [Value.okWide, Tryd.underlying3]; exact ho)
  obtain ⟨k, rfl⟩ := hi 0 c0 rfl (by omega)
  obtain ⟨t, rfl⟩ := hi 1 c1 rfl (by omega)
  obtain ⟨p, rfl⟩ := hi 2 c2 rfl (by omega)
  obtain ⟨s, rfl⟩ := hi 3 c3 rfl (by omega)
  obtain ⟨o, rfl⟩ := hi 4 c4 rfl (by omega)
  obtain ⟨n, rfl⟩ := hi 5 c5 rfl (by omega)
  obtain ⟨v, rfl⟩ := hi 6 c6 rfl (by omega)
  obtain ⟨x, rfl⟩ := hi 7 c7 rfl (by omega)
  exact ⟨⟨k, t, p, s, o, n, v, x⟩, rfl⟩
end Go.Proofs.YtcahmiklcjlkmaaDoor.Base
