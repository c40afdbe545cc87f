/-
  'append' of numbers onto an empty row of the call's own at a step of a region that draws its order. No conditions but those in each.
-/
import Derived.Test.YtejbmjdipfcblaaRecStepK
import Derived.Test.YtejbmjdipfcblaaPagesRK
namespace Go.Proofs.Ytejbmjdipfcblaa.Base
open Go.RowKit

theorem run_append_ints (w : World) (ty : TypeId) (ge : Nat) (hh : Has w ge 3 #[]) (zs : List Int) (g q n c : Nat) (hn : n = zs.length) (hr : Rd .i64 w g q zs) (hp : 0 < zs.length) (hm : zs.length ≤ 1000000) :
    ∃ b cap w', (Builtin.append_ #[31, 31] ty #[.slice (some ⟨ge, 0, none⟩) 0 0, .slice (some ⟨g, q, none⟩) n c]).run Try.prog w = .ok (.slice (some ⟨b, 0, none⟩) n cap) w' ∧ Copy w ge zs b cap w' := by
  subst hn
  obtain ⟨i0, hi, hz0, hs0, hb0⟩ := info_parts infoInt
  obtain ⟨v', w', hr', h1, h2, h3, h4⟩ := run_append_own_at (P := Try.prog) w ge 31 ty 3 i0 _ 1 8 Try.underlying31 hi hz0 hs0 hb0 rfl (by omega) (.slice (some ⟨ge, 0, none⟩) 0 0) 0 [] ⟨by simp, .inr ⟨ge, 0, #[], rfl, Nat.le_refl _, hh, by omega, by simp [maxLen], by simp, by simp⟩⟩ ⟨g, q, none⟩ zs.length c (zs.map (Value.int .i64)) (by simp) (fun j u hu => by
      rw [Go.WideShapes.add_plain]
      have hj : j < zs.length := by
        have := (List.getElem?_eq_some_iff.1 hu).1
        simpa using this
      rw [hr j hj, ← hu]
      simp [List.getElem?_eq_getElem hj]) (ints_oneCell _ _) (by simp [maxLen]; omega) (by omega) (Nat.le_of_lt hh.lt)
  rcases h1.2 with ⟨rfl, h0⟩ | ⟨g', cap', cur, rfl, hlow, hhas, hnc, hmax, hsz, htk⟩
  · omega
  · rw [Nat.zero_add] at hr' hnc htk
    refine ⟨g', cap', w', hr', ⟨h2, hlow, by omega, fun j hj => ?_, (show Has w' g' _ _ from hhas).wr _ _, ⟨cur, hhas⟩⟩⟩
    rw [(show Has w' g' _ _ from hhas).cell, Nat.zero_add]
    have e := congrArg (fun l => l[j]?) htk
    simp only [List.nil_append, Nat.mul_one] at e
    rw [List.getElem?_take_of_lt hj] at e
    simpa [List.getElem?_eq_getElem hj] using e
theorem step_append_ints {ops : Array Oper} {o : Oper} {a : Act} {K : Act → World → Prop} {Q : Exit → Act → World → Prop} {E : Prop} (w : World) (hgd : o.guard = none) (s x : Operand)
    (ho : o.op = .call { callee := .builtin .append, args := #[s, x], argTypes := #[31, 31] }) (ge : Nat) (hs : a.eval s = .slice (some ⟨ge, 0, none⟩) 0 0) (hh : Has w ge 3 #[])
    (zs : List Int) (g q n c : Nat) (hn : n = zs.length) (hx : a.eval x = .slice (some ⟨g, q, none⟩) n c) (hr : Rd .i64 w g q zs) (hp : 0 < zs.length) (hm : zs.length ≤ 1000000)
    (h : ∀ b cap w', Copy w ge zs b cap w' → K (a.put o.dst (.slice (some ⟨b, 0, none⟩) n cap)) w') :
    if Region.wanted o (yielded ops a.tmps) = true then Oper.wp Try.prog o a w K Q else E := by
  have hw : Region.wanted o (yielded ops a.tmps) = true := by simp [Region.wanted, hgd]
  rw [if_pos hw]
  obtain ⟨b, cap, w', hr', hc⟩ := run_append_ints w o.type ge hh zs g q n c hn hr hp hm
  have h5 := h b cap w' hc
  unfold Oper.wp execOp
  simp only [ho, resolve, invoke, builtin, Sem.run_bind, Sem.run_pure, Result.andThen_ok, List.map_toArray, List.map_cons, List.map_nil, hs, hx, hr']
  exact h5
/-- a slice of numbers in a block of numbers; with none it may be nil -/
def Vals (w : World) (av : Option Addr) (zs : List Int) : Prop := 0 < zs.length → ∃ g q, av = some ⟨g, q, none⟩ ∧ IntB w g ∧ Rd .i64 w g q zs
theorem Vals.keep {w w' : World} {av : Option Addr} {zs : List Int} (h : Vals w av zs) (hk : ∀ i, i < w.heap.size → IntB w i → w'.heap[i]? = w.heap[i]?) : Vals w' av zs := fun hp => by
  obtain ⟨g, q, rfl, hi, hr⟩ := h hp
  have e := hk g (by obtain ⟨cs, hc⟩ := hi; exact Has.lt hc) hi
  exact ⟨g, q, rfl, hi.keep e, hr.keep e⟩
theorem Vals.below {w w' : World} {av : Option Addr} {zs : List Int} (h : Vals w av zs) (hb : Below w.heap.size w w') : Vals w' av zs := h.keep fun i hi _ => hb.block i hi
end Go.Proofs.Ytejbmjdipfcblaa.Base
