/-
  Contract of the laws' comparison ltPage; what stays true in a law that draws a page and a record. Conditions: the slices lead to numbers.
-/
import Derived.Test.YtloglnekjhgfgaaLt
import Derived.Test.YtloglnekjhgfgaaDoMath
import Derived.Test.YtloglnekjhgfgaaDrawR
namespace Go.Proofs.Ytloglnekjhgfgaa.Base
open Go.RowKit

set_option maxHeartbeats 1000000 in
theorem ltPage_any (l l' o o' : Int) (xs ys : List Int) (a b : Option Addr) (na nb ca cb B : Nat) (w : World) (ea : xs.length = na) (eb : ys.length = nb) (hB : B ≤ w.heap.size) (hx : Ints .i64 w B a xs) (hy : Ints .i64 w B b ys) (mx : na ≤ 1000000000) (my : nb ≤ 1000000000) :
    Calls Try.prog 17 #[pageV l o a na ca, pageV l' o' b nb cb] w (Keeps (.bool ((l == l') && ((o == o') && (xs == ys)))) w) := by
  subst ea eb
  have Hx := Lib.hid hx
  have Hy := Lib.hid hy
  clear hx hy
  cases h1 : (l == l')
  · have H1 : Hid ((l == l') = false) := h1
    go_enter Try.func17, Try.ntmps17
    go_wp2
    go_ret
    exact ⟨ret_bool (by simp), below_two _ _ _⟩
  cases h2 : (o == o')
  · have H2 : Hid ((o == o') = false) := h2
    go_enter Try.func17, Try.ntmps17
    go_wp2
    go_ret
    exact ⟨ret_bool (by simp), below_two _ _ _⟩
  · go_enter Try.func17, Try.ntmps17
    go_wp2_with fail
    refine (ltInts_any xs ys a b ca cb B _ (Hx.out.below ((below_two _ _ _).mono hB)) (Hy.out.below ((below_two _ _ _).mono hB)) mx my).mono ?_
    rintro e w1 ⟨rfl, m, rfl⟩
    clear h1 h2
    go_wp2
    go_ret
    exact ⟨ret_bool (by simp), below_draws (below_two _ _ _) _⟩

/-- a drawn page in block pb, its slots in block g from q on, and a drawn record in the block behind; nothing that was there in w0 has turned -/
structure LS (w0 w : World) (pb : Nat) (l o : Int) (zs : List Int) (g q c : Nat) (r : R) : Prop where
  page : Has w pb 30 #[.int .i64 l, .int .i64 o, .slice (some ⟨g, q, none⟩) zs.length c]
  rcd : Has w (pb + 1) 24 (recC r)
  rd : Rd .i64 w g q zs
  ord : w0.heap.size ≤ g ∧ g < pb
  kept : Below w0.heap.size w0 w

section
variable {w0 w w' : World} {pb : Nat} {l o : Int} {zs : List Int} {g q c : Nat} {r : R}
theorem LS.lt (h : LS w0 w pb l o zs g q c r) : pb + 1 < w.heap.size := h.rcd.lt
theorem LS.below (h : LS w0 w pb l o zs g q c r) (hb : Below w.heap.size w w') : LS w0 w' pb l o zs g q c r := by
  have h1 := h.lt
  have h2 := h.ord
  exact ⟨h.page.below hb (by omega), h.rcd.below hb h1, h.rd.below hb (by omega), h.ord, h.kept.trans (hb.mono (by omega))⟩
theorem LS.alloc (h : LS w0 w pb l o zs g q c r) (ob : Obj) : LS w0 (w.alloc ob) pb l o zs g q c r := h.below (below_one w ob)
theorem LS.drewN (h : LS w0 w pb l o zs g q c r) (m : Nat) : LS w0 (w.drewN m) pb l o zs g q c r := h.below (below_draws (Below.refl _ _) m)
theorem LS.drew (h : LS w0 w pb l o zs g q c r) : LS w0 w.drew pb l o zs g q c r := h.drewN 1
theorem LS.ints (h : LS w0 w pb l o zs g q c r) : Ints .i64 w w.heap.size (some ⟨g, q, none⟩) zs := by
  have h1 := h.lt
  have h2 := h.ord
  exact h.rd.ints (by omega)
end

/-- what RecDo answered, as a page in memory: the page behind the record, or none -/
structure Got (b : Bool) (lsn o : Int) (zs : List Int) (w : World) (lo : Nat) (v : Value) (l' o' : Int) (a : Option Addr) (n c : Nat) (us : List Int) : Prop where
  val : v = pageV l' o' a n c
  ints : Ints .i64 w w.heap.size a us
  len : us.length = n
  fit : n ≤ c
  small : n ≤ 3
  yes : b = true → l' = lsn ∧ o' = o ∧ us = zs ∧ n = 3 ∧ ∃ g q, a = some ⟨g, q, none⟩ ∧ lo ≤ g ∧ Rd .i64 w g q zs ∧ Wr w g q 3
  no : b = false → l' = 0 ∧ o' = 0 ∧ us = []

theorem DoP.got {b : Bool} {lsn o : Int} {zs : List Int} {w w' : World} {e : Ending} (h : DoP b lsn o zs w e w') (hl : zs.length = 3) :
    ∃ (v : Value) (l' o' : Int) (a : Option Addr) (n c : Nat) (us : List Int), e = .returned (.tuple #[v, .bool b]) ∧ Got b lsn o zs w' w.heap.size v l' o' a n c us := by
  cases b
  · exact ⟨_, 0, 0, none, 0, 0, [], h.no rfl, rfl, fun h => absurd h (by simp), rfl, by omega, by omega, fun h => by simp at h, fun _ => ⟨rfl, rfl, rfl⟩⟩
  · obtain ⟨g, q, cap, rfl, hg, hr, hw, hc⟩ := h.yes rfl
    exact ⟨_, lsn, o, some ⟨g, q, none⟩, 3, cap, zs, rfl, rfl, hr.ints hw.1, hl, hc, by omega, fun _ => ⟨rfl, rfl, rfl, rfl, g, q, rfl, hg, hr, hw⟩, fun h => by simp at h⟩

theorem Got.below {b : Bool} {lsn o : Int} {zs : List Int} {w w' : World} {lo : Nat} {v : Value} {l' o' : Int} {a : Option Addr} {n c : Nat} {us : List Int} (h : Got b lsn o zs w lo v l' o' a n c us) (hb : Below w.heap.size w w') : Got b lsn o zs w' lo v l' o' a n c us :=
  ⟨h.val, (h.ints.below hb).more hb.size, h.len, h.fit, h.small, fun e => by
    obtain ⟨h1, h2, h3, h4, g, q, h5, h6, h7, h8⟩ := h.yes e
    exact ⟨h1, h2, h3, h4, g, q, h5, h6, h7.below hb h8.1, h8.below hb h8.1⟩, h.no⟩

/-- two such answers are the same page -/
theorem Got.same {b : Bool} {lsn o : Int} {zs : List Int} {w : World} {lo lo' : Nat} {v v' : Value} {l1 o1 l2 o2 : Int} {a1 a2 : Option Addr} {n1 c1 n2 c2 : Nat} {us1 us2 : List Int}
    (h : Got b lsn o zs w lo v l1 o1 a1 n1 c1 us1) (k : Got b lsn o zs w lo' v' l2 o2 a2 n2 c2 us2) : ((l1 == l2) && ((o1 == o2) && (us1 == us2))) = true := by
  cases b
  · obtain ⟨rfl, rfl, rfl⟩ := h.no rfl
    obtain ⟨rfl, rfl, rfl⟩ := k.no rfl
    rfl
  · obtain ⟨rfl, rfl, rfl, _⟩ := h.yes rfl
    obtain ⟨rfl, rfl, rfl, _⟩ := k.yes rfl
    simp
end Go.Proofs.Ytloglnekjhgfgaa.Base
