/-
  'append([]int{z}, more...)': one number, and the numbers of another row behind it. Conditions: the first row is the call's own, the second slice leads to numbers.
-/
import Derived.Test.YtejbmjdipfcblaaDrawnK
namespace Go.Proofs.Ytejbmjdipfcblaa.Base
open Go.RowKit

theorem run_append_empty (w : World) (ty : TypeId) (g c : Nat) :
    (Builtin.append_ #[31, 31] ty #[.slice (some ⟨g, 0, none⟩) 1 1, .slice none 0 c]).run Try.prog w = .ok (.slice (some ⟨g, 0, none⟩) 1 1) w := by
  obtain ⟨i0, hi, hz0, hs0, hb0⟩ := info_parts infoInt
  simp [Builtin.append_, run_underlying Try.underlying31, sizeOf, typeInfo, hi, Builtin.lenOf, Builtin.firstCells, storeCells]
theorem wp_append_more {ops : Array Oper} {rest : List Oper} {oo : Oper} {a : Act} {Q : Exit → Act → World → Prop} (w : World) (hw : Region.wanted oo (yielded ops a.tmps) = true) (s x : Operand)
    (ho : oo.op = .call { callee := .builtin .append, args := #[s, x], argTypes := #[31, 31] }) (g : Nat) (z : Int) (hs : a.eval s = .slice (some ⟨g, 0, none⟩) 1 1) (hg : Has w g 3 #[.int .i64 z]) (base : Nat) (hb : base ≤ g) (hbase : base ≤ w.heap.size)
    (ys : List Int) (ya : Option Addr) (n yc B : Nat) (hn : n = ys.length) (hx : a.eval x = .slice ya n yc) (hy : Ints .i64 w B ya ys) (my : ys.length ≤ 1000)
    (h : ∀ va vc w', Mine w' base va (z :: ys) → w.grownBy w' (some g) → wpList Try.prog ops Q rest (a.put oo.dst (.slice va (z :: ys).length vc)) w') : wpList Try.prog ops Q (oo :: rest) a w := by
  refine wpList_step fun K hK => ?_
  rw [if_pos hw]
  obtain ⟨i0, hi, hz0, hs0, hb0⟩ := info_parts infoInt
  have own : OwnI w base (.slice (some ⟨g, 0, none⟩) 1 1) [z] := ⟨rfl, .inr ⟨g, 1, _, rfl, hb, hg, by simp, by simp [maxLen], by simp, by simp⟩⟩
  subst hn
  match ya, hx, hy with
  | some ad, hx, hy =>
    refine wp_append_own w s x 31 ho base 3 i0 _ 1 8 Try.underlying31 hi hz0 hs0 hb0 rfl (by omega) _ 1 _ hs own ad ys.length yc (ys.map (Value.int .i64)) hx (by simp) ?_ ?_ (by simp [maxLen]; omega) (by omega) hbase (fun v' w' h1 h2 _ => hK _ _ ?_)
    · intro j u hu
      have hj : j < ys.length := by simpa using (List.getElem?_eq_some_iff.1 hu).1
      obtain ⟨g', o', e, _, hr⟩ := hy (by omega)
      obtain rfl : ad = ⟨g', o', none⟩ := Option.some.inj e
      have e1 : (ys.map (Value.int .i64))[j]? = some (.int .i64 (ys.getD j 0)) := by
        rw [List.getElem?_map, List.getElem?_eq_getElem hj, List.getD_eq_getElem?_getD, List.getElem?_eq_getElem hj]
        rfl
      rw [Go.WideShapes.add_plain, ← hu, e1]
      exact hr j hj
    · intro u hu
      obtain ⟨y, _, rfl⟩ := List.mem_map.1 hu
      rfl
    · have hI : OwnI w' base v' (z :: ys) := by
        unfold OwnI
        simpa [Nat.add_comm] using h1
      obtain ⟨va, vc, rfl, m⟩ := hI.mine
      exact h va vc w' m h2
  | none, hx, hy =>
    have hnil : ys = [] := by
      cases ys with
      | nil => rfl
      | cons y l =>
        obtain ⟨_, _, e, _⟩ := hy (by simp)
        cases e
    subst hnil
    obtain ⟨va, vc, e, m⟩ := own.mine
    injection e with e1 e2 e3
    subst e1 e3
    have h5 := hK _ _ (h (some ⟨g, 0, none⟩) 1 w m (World.grownBy.refl w _))
    unfold Oper.wp execOp
    simp only [ho, resolve, invoke, builtin, Sem.run_bind, Sem.run_pure, Result.andThen_ok, List.map_toArray, List.map_cons, List.map_nil, hs, hx, List.length_nil, run_append_empty]
    exact h5
end Go.Proofs.Ytejbmjdipfcblaa.Base
