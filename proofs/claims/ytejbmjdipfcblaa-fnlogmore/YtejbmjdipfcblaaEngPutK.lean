/-
  The model's engine in memory: a page stored into one of its rows. No conditions but those in each.
-/
import Derived.Test.YtejbmjdipfcblaaCpK
import Derived.Test.YtejbmjdipfcblaaDrawsK
namespace Go.Proofs.Ytejbmjdipfcblaa.Base
open Go.RowKit

/-- pages are as they were behind what turns another block of pages alone -/
theorem Ps5.far {w w' : World} {base b c g : Nat} {xs : List PP} {cs : Array Value} (h : Ps5 w base b c xs) (hs : w.heap.size ≤ w'.heap.size) (hk : ∀ i, i < w.heap.size → i ≠ g → w'.heap[i]? = w.heap[i]?) (hg : Has w g 94 cs) (hb : b ≠ g) : Ps5 w' base b c xs := by
  obtain ⟨ps, h1, h2⟩ := h
  refine ⟨ps, h1, ?_, fun p hp => (h2.all p hp).keep hs (hk _ (h2.all p hp).wr.1 ((h2.all p hp).ne_page hg))⟩
  rcases h2.row.2 with ⟨e, _⟩ | ⟨g', cap', cur, e, hlow, hhas, rest⟩
  · simp at e
  · simp only [Value.slice.injEq, Option.some.injEq, Addr.mk.injEq] at e
    obtain ⟨⟨rfl, -, -⟩, hn5, rfl⟩ := e
    have hH : Has w b 94 cur := hhas
    exact ⟨h2.row.1, .inr ⟨b, c, cur, by rw [hn5], hlow, (hk b hH.lt hb).trans hhas, rest⟩⟩
theorem Ps5.put {w : World} {base b c k : Nat} {xs : List PP} {p : Pg} (h : Ps5 w base b c xs) (h5 : xs.length = 5) (hk : k < 5) (hp : PgAt w base p) :
    Ps5 (put3At w b (k * 3) (.int .i64 p.l) (.int .i64 p.o) (.slice (some ⟨p.g, p.q, none⟩) p.zs.length p.c)) base b c (xs.set k p.says) := by
  obtain ⟨ps, h1, h2, h3⟩ := h.len h5
  exact ⟨ps.set k p, by rw [List.map_set, h1], h3.put (by omega) hp⟩
section
variable {w : World} {base k : Nat} {x : Ad} {e : EE} {p : Pg}
theorem Eng.putMem (h : Eng w base x e) (h5 : e.mem.length = 5) (hk : k < 5) (hp : PgAt w base p) :
    Eng (put3At w x.mb (k * 3) (.int .i64 p.l) (.int .i64 p.o) (.slice (some ⟨p.g, p.q, none⟩) p.zs.length p.c)) base x ⟨e.disk, e.mem.set k p.says, e.log, e.safe, e.down⟩ := by
  obtain ⟨cs, hm⟩ := h.m.has
  obtain ⟨cl, hl⟩ := h.l.has
  refine ⟨h.d.far (by rw [put3At_size]; exact Nat.le_refl _) (fun i _ hi => put3At_far hi) hm h.ne, h.m.put h5 hk hp, h.l.keep fun g hg => put3At_far ?_, h.ne⟩
  obtain rfl : x.lb = g := by simpa [Value.ownBlock] using hg
  exact Has.ne_kind hl hm (by decide)
theorem Eng.putDisk (h : Eng w base x e) (h5 : e.disk.length = 5) (hk : k < 5) (hp : PgAt w base p) :
    Eng (put3At w x.db (k * 3) (.int .i64 p.l) (.int .i64 p.o) (.slice (some ⟨p.g, p.q, none⟩) p.zs.length p.c)) base x ⟨e.disk.set k p.says, e.mem, e.log, e.safe, e.down⟩ := by
  obtain ⟨cs, hm⟩ := h.d.has
  obtain ⟨cl, hl⟩ := h.l.has
  refine ⟨h.d.put h5 hk hp, h.m.far (by rw [put3At_size]; exact Nat.le_refl _) (fun i _ hi => put3At_far hi) hm (Ne.symm h.ne), h.l.keep fun g hg => put3At_far ?_, h.ne⟩
  obtain rfl : x.lb = g := by simpa [Value.ownBlock] using hg
  exact Has.ne_kind hl hm (by decide)
/-- the same engine's rows, with other numbers beside them -/
theorem Eng.of {e' : EE} (h : Eng w base x e) (h1 : e'.disk = e.disk) (h2 : e'.mem = e.mem) (h3 : e'.log = e.log) : Eng w base x e' :=
  ⟨by rw [h1]; exact h.d, by rw [h2]; exact h.m, by rw [h3]; exact h.l, h.ne⟩
theorem Eng.down {base' : Nat} (h : Eng w base x e) (hb : base' ≤ base) : Eng w base' x e := ⟨h.d.down hb, h.m.down hb, ⟨⟨h.l.row.1, by
  rcases h.l.row.2 with hn | ⟨g, cap, cur, e, hlow, rest⟩
  · exact .inl hn
  · exact .inr ⟨g, cap, cur, e, Nat.le_trans hb hlow, rest⟩⟩, h.l.ne⟩, h.ne⟩
end
theorem RdR_one {w : World} {b : Nat} {T : TypeId} {r : R} (h : Has w b T (recC r)) : RdR w b 0 [r] := fun j hj => by
  obtain rfl : j = 0 := by simpa using hj
  obtain ⟨c0, c1, c2, c3, c4, c5, c6, c7⟩ := eight h
  exact ⟨c0, c1, c2, c3, c4, c5, c6, c7⟩
theorem okPP_three {p : PP} (h : okPP p) : ∃ a b c, p.2.2 = [a, b, c] := three_of h.n
end Go.Proofs.Ytejbmjdipfcblaa.Base
