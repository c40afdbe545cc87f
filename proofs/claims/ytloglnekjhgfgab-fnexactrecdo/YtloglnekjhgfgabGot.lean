/-
  What RecDo answered, as a page in memory. No conditions but those in each.
-/
import Derived.Test.YtloglnekjhgfgabDoMath
namespace Go.Proofs.Ytloglnekjhgfgab.Base
open Go.RowKit

/-- what RecDo answered, as a page in memory: the page behind the record, or none -/
structure Got (b : Bool) (lsn o : Int) (zs : List Int) (w : World) (lo : Nat) (v : Value) (l' o' : Int) (a : Option Addr) (n c : Nat) (us : List Int) : Prop where
  val : v = pageV l' o' a n c
  ints : Ints .i64 w w.heap.size a us
  len : us.length = n
  fit : n ≤ c
  small : n ≤ 3
  yes : b = true → l' = lsn ∧ o' = o ∧ us = zs ∧ n = 3 ∧ ∃ g q, a = some ⟨g, q, none⟩ ∧ lo ≤ g ∧ Rd .i64 w g q zs ∧ Wr w g q 3
  no : b = false → l' = 0 ∧ o' = 0 ∧ us = []

theorem DoP.got {b : Bool} {lsn o : Int} {zs : List Int} {w w' : World} {e : Ending} (h : DoP b lsn o zs w e w') (hl : zs.length = 3) :
    ∃ (v : Value) (l' o' : Int) (a : Option Addr) (n c : Nat) (us : List Int), e = .returned (.tuple #[v, .bool b]) ∧ Got b lsn o zs w' w.heap.size v l' o' a n c us := by
  cases b
  · exact ⟨_, 0, 0, none, 0, 0, [], h.no rfl, rfl, fun h => absurd h (by simp), rfl, by omega, by omega, fun h => by simp at h, fun _ => ⟨rfl, rfl, rfl⟩⟩
  · obtain ⟨g, q, cap, rfl, hg, hr, hw, hc⟩ := h.yes rfl
    exact ⟨_, lsn, o, some ⟨g, q, none⟩, 3, cap, zs, rfl, rfl, hr.ints hw.1, hl, hc, by omega, fun _ => ⟨rfl, rfl, rfl, rfl, g, q, rfl, hg, hr, hw⟩, fun h => by simp at h⟩

theorem Got.below {b : Bool} {lsn o : Int} {zs : List Int} {w w' : World} {lo : Nat} {v : Value} {l' o' : Int} {a : Option Addr} {n c : Nat} {us : List Int} (h : Got b lsn o zs w lo v l' o' a n c us) (hb : Below w.heap.size w w') : Got b lsn o zs w' lo v l' o' a n c us :=
  ⟨h.val, (h.ints.below hb).more hb.size, h.len, h.fit, h.small, fun e => by
    obtain ⟨h1, h2, h3, h4, g, q, h5, h6, h7, h8⟩ := h.yes e
    exact ⟨h1, h2, h3, h4, g, q, h5, h6, h7.below hb h8.1, h8.below hb h8.1⟩, h.no⟩

/-- two such answers are the same page -/
theorem Got.same {b : Bool} {lsn o : Int} {zs : List Int} {w : World} {lo lo' : Nat} {v v' : Value} {l1 o1 l2 o2 : Int} {a1 a2 : Option Addr} {n1 c1 n2 c2 : Nat} {us1 us2 : List Int}
    (h : Got b lsn o zs w lo v l1 o1 a1 n1 c1 us1) (k : Got b lsn o zs w lo' v' l2 o2 a2 n2 c2 us2) : ((l1 == l2) && ((o1 == o2) && (us1 == us2))) = true := by
  cases b
  · obtain ⟨rfl, rfl, rfl⟩ := h.no rfl
    obtain ⟨rfl, rfl, rfl⟩ := k.no rfl
    rfl
  · obtain ⟨rfl, rfl, rfl, _⟩ := h.yes rfl
    obtain ⟨rfl, rfl, rfl, _⟩ := k.yes rfl
    simp
end Go.Proofs.Ytloglnekjhgfgab.Base
