/-
  Rows of pages in memory: read, or of the call's own; what is appended to them. No conditions but those in each.
-/
import Derived.Test.YtoihdbcdlodkgaaPages
import Derived.OwnWalk
namespace Go.Proofs.Ytoihdbcdlodkgaa.Base
open Go.RowKit

/-- a page in memory: its numbers, where its slots lie, and what they hold -/
structure Pg where
  l : Int
  o : Int
  g : Nat
  q : Nat
  c : Nat
  zs : List Int
/-- the cells of a page -/
def Pg.cells (p : Pg) : List Value := [.int .i64 p.l, .int .i64 p.o, .slice (some ⟨p.g, p.q, none⟩) p.zs.length p.c]
/-- what a page says, wherever it lies -/
def Pg.says (p : Pg) : Int × Int × List Int := (p.l, p.o, p.zs)
/-- the slots of a page are of the call's own -/
structure PgAt (w : World) (base : Nat) (p : Pg) : Prop where
  low : base ≤ p.g
  rd : Rd .i64 w p.g p.q p.zs
  wr : Wr w p.g p.q p.zs.length
  kind : ∃ cs t fz, w.heap[p.g]? = some (.cells cs t fz) ∧ t ≠ 44
theorem infoPage : (Try.prog.info? 44).map (fun i => (i.zero, i.size, i.bytes)) = some (some (.agg #[.int .i64 0, .int .i64 0, .slice none 0 0]), 3, 40) := by kernel_rfl
def cellsOfPs (ps : List Pg) : List Value := ps.flatMap Pg.cells
theorem cellsOfPs_len (ps : List Pg) : (cellsOfPs ps).length = ps.length * 3 := by
  induction ps with
  | nil => rfl
  | cons p ps ih => simp [cellsOfPs, Pg.cells] at ih ⊢; omega
theorem cellsOfPs_append (ps qs : List Pg) : cellsOfPs (ps ++ qs) = cellsOfPs ps ++ cellsOfPs qs := by simp [cellsOfPs]
theorem cellsOfPs_at : ∀ (ps : List Pg) (i : Nat) (p : Pg), ps[i]? = some p → (cellsOfPs ps)[i * 3]? = some (.int .i64 p.l) ∧ (cellsOfPs ps)[i * 3 + 1]? = some (.int .i64 p.o) ∧ (cellsOfPs ps)[i * 3 + 2]? = some (.slice (some ⟨p.g, p.q, none⟩) p.zs.length p.c)
  | [], i, p, h => by simp at h
  | p :: ps, 0, q, h => by
    simp at h
    subst h
    exact ⟨rfl, rfl, rfl⟩
  | p :: ps, i + 1, q, h => by
    have ih := cellsOfPs_at ps i q (by simpa using h)
    have e : cellsOfPs (p :: ps) = p.cells ++ cellsOfPs ps := by simp [cellsOfPs]
    have h3 : (Pg.cells p).length = 3 := rfl
    rw [e]
    refine ⟨?_, ?_, ?_⟩
    · rw [List.getElem?_append_right (by omega), show (i + 1) * 3 - p.cells.length = i * 3 by omega]
      exact ih.1
    · rw [List.getElem?_append_right (by omega), show (i + 1) * 3 + 1 - p.cells.length = i * 3 + 1 by omega]
      exact ih.2.1
    · rw [List.getElem?_append_right (by omega), show (i + 1) * 3 + 2 - p.cells.length = i * 3 + 2 by omega]
      exact ih.2.2
/-- v is a row of the call's own, with the pages ps -/
structure OwnPs (w : World) (base : Nat) (v : Value) (ps : List Pg) : Prop where
  row : w.ownsRow base 44 3 v ps.length (cellsOfPs ps)
  all : ∀ p ∈ ps, PgAt w base p
section
variable {w w' : World} {base : Nat} {v : Value} {ps : List Pg} {p : Pg}
theorem PgAt.keep (h : PgAt w base p) (hs : w.heap.size ≤ w'.heap.size) (e : w'.heap[p.g]? = w.heap[p.g]?) : PgAt w' base p := ⟨h.low, h.rd.keep e, h.wr.keep hs e, by rw [e]; exact h.kind⟩
theorem PgAt.below (h : PgAt w base p) (b : Below w.heap.size w w') : PgAt w' base p := h.keep b.size (b.block _ h.wr.1)
theorem PgAt.down {base' : Nat} (h : PgAt w base p) (hb : base' ≤ base) : PgAt w base' p := ⟨Nat.le_trans hb h.low, h.rd, h.wr, h.kind⟩
theorem OwnPs.nil (w : World) (base : Nat) : OwnPs w base (.slice none 0 0) [] := ⟨World.ownsRow_nil w base _ 3, fun p h => by cases h⟩
theorem OwnPs.empty {g : Nat} (h : Has w g 44 #[]) (hb : base ≤ g) : OwnPs w base (.slice (some ⟨g, 0, none⟩) 0 0) [] :=
  ⟨⟨rfl, .inr ⟨g, 0, #[], rfl, hb, h, by simp, by simp [maxLen], by simp, by simp [cellsOfPs]⟩⟩, fun p h => by cases h⟩
theorem OwnPs.apart (h : OwnPs w base v ps) (hp : PgAt w base p) : v.ownBlock ≠ some p.g := fun e => by
  obtain ⟨cs, t, fz, hk, hne⟩ := hp.kind
  rcases h.row.2 with ⟨rfl, _⟩ | ⟨g, cap, cur, rfl, _, hh, _⟩
  · simp [Value.ownBlock] at e
  · simp [Value.ownBlock] at e
    subst e
    rw [hk] at hh
    injection hh with hh
    injection hh with h1 h2 h3
    exact hne h2
theorem OwnPs.below (h : OwnPs w base v ps) (b : Below w.heap.size w w') : OwnPs w' base v ps :=
  ⟨h.row.kept ⟨b.os, b.tape, b.output, b.size, fun k hk _ => b.block k hk⟩ (row := none) (by cases v.ownBlock <;> simp), fun p hp => (h.all p hp).below b⟩
end

/-- 'append(pages, p)' of one page onto a row of the call's own -/
theorem wp_append_page {ops : Array Oper} {rest : List Oper} {o : Oper} {a : Act} {Q : Exit → Act → World → Prop} (w : World) (hgd : o.guard = none) (s x : Operand)
    (ho : o.op = .call { callee := .builtin .append, args := #[s, x], argTypes := #[22, 22] }) (base : Nat) (v : Value) (ps : List Pg) (hs : a.eval s = v) (hown : OwnPs w base v ps)
    (ad : Nat) (p : Pg) (hx : a.eval x = .slice (some ⟨ad, 0, none⟩) 1 1) (hc : Has w ad 44 p.cells.toArray) (hp : PgAt w base p) (hn : ps.length ≤ 1000000) (hbase : base ≤ w.heap.size)
    (h : ∀ v' w', OwnPs w' base v' (ps ++ [p]) → w.grownBy w' v.ownBlock → wpList Try.prog ops Q rest (a.put o.dst v') w') :
    wpList Try.prog ops Q (o :: rest) a w := by
  obtain ⟨i0, hi, hz0, hs0, hb0⟩ := info_parts infoPage
  refine wpList_append_own w hgd s x 22 ho base 44 i0 _ 3 40 Try.underlying22 hi hz0 hs0 hb0 rfl (by omega) v ps.length _ hs hown.row ⟨ad, 0, none⟩ 1 1 p.cells hx rfl ?_ (by simp [Pg.cells, Value.oneCell']) (by simp [maxLen]; omega) (by omega) hbase (fun v' w' h1 h2 _ => h v' w' ⟨?_, ?_⟩ h2)
  · intro j u' hu
    rw [Go.WideShapes.add_plain, Nat.zero_add, hc.cell]
    simpa using hu
  · rw [cellsOfPs_append]
    simpa [cellsOfPs] using h1
  · intro r hr
    rcases List.mem_append.1 hr with hr | hr
    · exact (hown.all r hr).keep h2.size (h2.block _ (hown.all r hr).wr.1 (fun e => hown.apart (hown.all r hr) e.symm))
    · obtain rfl : r = p := by simpa using hr
      exact hp.keep h2.size (h2.block _ hp.wr.1 (fun e => hown.apart hp e.symm))
end Go.Proofs.Ytoihdbcdlodkgaa.Base
