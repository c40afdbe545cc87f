/-
  Structs of integers, compared: of no one function. No conditions but those in each.
-/
import Derived.Test.YtoihdbcdlodkgaaGreatDoorWords
import Derived.Laws.StructEq
namespace Go.Proofs.YtoihdbcdlodkgaaGreatDoor
open Go.RowKit

/-- the number in a cell -/
def cellN (cs : Array Value) (i : Nat) : Int :=
  match cs[i]? with
  | some (.int _ n) => n
  | _ => 0

theorem run_eqFields_ints {P : Program} (d : Nat) (T : TypeId) (hT : P.underlying T = some (.int .i64)) (cs ds : Array Value) (w : World) :
    ∀ (fs : List Field) (js : List Nat), fs.map (fun f => (f.name != "_", f.type, f.offset)) = js.map (fun j => (true, T, j)) →
      (∀ j ∈ js, cs[j]? = some (.int .i64 (cellN cs j)) ∧ ds[j]? = some (.int .i64 (cellN ds j))) →
      (Op.eqFields (d + 1) cs ds fs).run P w = .ok (js.all fun j => cellN cs j == cellN ds j) w
  | [], [], _, _ => by simp [Op.eqFields]
  | [], j :: js, h, _ => by simp at h
  | f :: fs, [], h, _ => by simp at h
  | f :: fs, j :: js, h, hc => by
    simp only [List.map_cons, List.cons.injEq, Prod.mk.injEq] at h
    obtain ⟨⟨h1, h2, h3⟩, h4⟩ := h
    obtain ⟨hx, hy⟩ := hc j (by simp)
    have hn : f.name ≠ "_" := by simpa using h1
    have hp : ∀ (as : Array Value) (v : Value), as[j]? = some v → (part T as j).run P w = .ok v w := fun as v h => by
      simp [part, isAgg, run_underlying hT, h]
    have ih := run_eqFields_ints d T hT cs ds w fs js h4 (fun k hk => hc k (by simp [hk]))
    rw [Op.eqFields]
    simp only [hn, ne_eq, not_false_eq_true, if_true, h2, h3, Sem.run_bind, hp _ _ hx, hp _ _ hy, Result.andThen_ok, run_equalIn_int w _ _ _ _ _ _ hT]
    cases hb : (cellN cs j == cellN ds j)
    · simp [hb]
    · simp only [Bool.not_true, Bool.false_eq_true, if_false, List.all_cons, hb, Bool.true_and]
      exact ih
end Go.Proofs.YtoihdbcdlodkgaaGreatDoor
