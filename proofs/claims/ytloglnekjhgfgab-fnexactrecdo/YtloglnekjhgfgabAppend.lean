/-
  'append([]int{}, xs...)' where xs has an element: a copy of xs in memory of the call's own. Conditions: xs leads to numbers.
-/
import Derived.Test.YtloglnekjhgfgabBase
import Derived.OwnWalk
namespace Go.Proofs.Ytloglnekjhgfgab.Base
open Go.RowKit

/-- what such an append hands on -/
structure Copy (w : World) (ge : Nat) (zs : List Int) (g cap : Nat) (w' : World) : Prop where
  grown : w.grownBy w' (some ge)
  low : ge ≤ g
  fit : zs.length ≤ cap
  rd : Rd .i64 w' g 0 zs
  wr : Wr w' g 0 zs.length

theorem wp_append_copy {ops : Array Oper} {rest : List Oper} {o : Oper} {a : Act} {Q : Exit → Act → World → Prop} (w : World) (hgd : o.guard = none) (s x : Operand)
    (ho : o.op = .call { callee := .builtin .append, args := #[s, x], argTypes := #[22, 22] }) (ge : Nat) (hs : a.eval s = .slice (some ⟨ge, 0, none⟩) 0 0) (hh : Has w ge 3 #[])
    (zs : List Int) (B : Nat) (ax : Option Addr) (n cx : Nat) (hn : n = zs.length) (hx : a.eval x = .slice ax n cx) (hz : Ints .i64 w B ax zs) (hp : 0 < zs.length) (hm : zs.length ≤ 1000000000)
    (h : ∀ g cap w', Copy w ge zs g cap w' → wpList Try.prog ops Q rest (a.put o.dst (.slice (some ⟨g, 0, none⟩) n cap)) w') :
    wpList Try.prog ops Q (o :: rest) a w := by
  subst hn
  obtain ⟨i0, hi, hz0, hs0, hb0⟩ := info_parts infoInt
  obtain ⟨g, q, rfl, hg, hr⟩ := hz hp
  refine wpList_append_own w hgd s x 22 ho ge 3 i0 _ 1 8 Try.underlying22 hi hz0 hs0 hb0 rfl (by omega) _ 0 [] hs ⟨by simp, .inr ⟨ge, 0, #[], rfl, Nat.le_refl _, hh, by omega, by simp [maxLen], by simp, by simp⟩⟩ ⟨g, q, none⟩ zs.length cx (zs.map (Value.int .i64)) hx (by simp) ?_ (ints_oneCell _ _) (by simp [maxLen]; omega) (by omega) (Nat.le_of_lt hh.lt) ?_
  · intro j u hu
    rw [Go.WideShapes.add_plain]
    have hj : j < zs.length := by
      have := (List.getElem?_eq_some_iff.1 hu).1
      simpa using this
    rw [hr j hj, ← hu]
    simp [List.getElem?_eq_getElem hj]
  · intro v' w' hown hgr hiff
    rcases hown.2 with ⟨rfl, h0⟩ | ⟨g', cap', cur, rfl, hlow, hhas, hnc, hmax, hsz, htk⟩
    · omega
    · rw [Nat.zero_add]
      refine h g' cap' w' ⟨hgr, hlow, by omega, fun j hj => ?_, (show Has w' g' _ _ from hhas).wr _ _⟩
      rw [(show Has w' g' _ _ from hhas).cell, Nat.zero_add]
      have e := congrArg (fun l => l[j]?) htk
      simp only [List.nil_append, Nat.zero_add, Nat.mul_one] at e
      rw [List.getElem?_take_of_lt hj] at e
      simpa [List.getElem?_eq_getElem hj] using e
end Go.Proofs.Ytloglnekjhgfgab.Base
